/- Texts that stand on each other, in one file: OpIv, SzIL, ToInst2, MkIv, EqIv, OpLi, MkLi, MeshA, OpMesh. -/
import Derived.Test.YtfmaeicodljgkaaPack12
import Derived.Lib.QuietBelow
import Derived.BigQuiet
import Derived.Test.YtfmaeicodljgkaaPack11
import Derived.Lib.SmallJoins
import Derived.Deep.Slices
import Derived.OwnWalk
import Derived.Test.YtfmaeicodljgkaaPack13
/- The laws' own lists of Insts handed in: opened. (Written by gen_isl.py.) -/
namespace Go.Proofs.Ytfmaeicodljgkaa
open Go.ChangeShapes Go.WideShapes Go.RowKit Go.Sort Go.Deep Go.Joins Go.WideElems Go.Maps

def IvW (t : Iv) : Prop := (Lit.int .i64 t.now).wf = true
/-- The slice (x, len) that was handed in holds them. -/
def ArgIvs (w : World) (x : Option Addr) (len : Nat) (ps : List IvP) : Prop := ps.length = len ∧ len ≤ maxLen ∧ (∀ e ∈ ps, ArgIv w e.1 e.2 ∧ IvW e.2) ∧ ∀ i, (h : i < ps.length) → ∃ p, x = some p ∧ w.cell? (p.add (i * 3)) = some (.slice ps[i].1.x ps[i].2.is.length ps[i].1.c1) ∧ w.cell? (p.add (i * 3 + 1)) = some (.slice ps[i].1.y ps[i].2.rs.length ps[i].1.c2) ∧ w.cell? (p.add (i * 3 + 2)) = some (.int .i64 ps[i].2.now)
theorem ArgIvs.below {w w' : World} {x : Option Addr} {len : Nat} {ps : List IvP} (h : ArgIvs w x len ps) (hb : Below w.heap.size w w') : ArgIvs w' x len ps := by
  obtain ⟨h1, h2, h3, h4⟩ := h
  refine ⟨h1, h2, fun e he => ⟨(h3 e he).1.below hb, (h3 e he).2⟩, fun i hi => ?_⟩
  obtain ⟨p, hp, c0, c1, c2⟩ := h4 i hi
  have hk : ∀ k v, w.cell? (p.add k) = some v → w'.cell? (p.add k) = some v := fun k v hv => by rw [hb.cell (World.block_lt_of_cell? w _ hv)]; exact hv
  exact ⟨p, hp, hk _ _ c0, hk _ _ c1, hk _ _ c2⟩
theorem addr_moreIv (p : Addr) (m j : Nat) (hj : j ≠ 0) : p.add (m + j) = ⟨(p.add m).block, (p.add m).off + j, none⟩ := by
  rw [← Addr.add_add]
  generalize p.add m = q
  unfold Addr.add
  rw [if_neg hj]
theorem ArgIvs.at {w : World} {x : Option Addr} {len : Nat} {ps : List IvP} (h : ArgIvs w x len ps) (i : Nat) (hi : i < ps.length) : ∃ p a t, x = some p ∧ ps[i] = (a, t) ∧ ArgIv w a t ∧ IvW t ∧ w.cell? (p.add (i * 3)) = some (.slice a.x t.is.length a.c1) ∧ w.cell? ⟨(p.add (i * 3)).block, (p.add (i * 3)).off + 1, none⟩ = some (.slice a.y t.rs.length a.c2) ∧ w.cell? ⟨(p.add (i * 3)).block, (p.add (i * 3)).off + 2, none⟩ = some (.int .i64 t.now) := by
  obtain ⟨p, hp, c0, c1, c2⟩ := h.2.2.2 i hi
  have hh := h.2.2.1 _ (List.getElem_mem hi)
  rw [addr_moreIv _ _ _ (by omega)] at c1 c2
  exact ⟨p, _, _, hp, rfl, hh.1, hh.2, c0, c1, c2⟩
section
variable {H : Type} {enc : TypeId × Value → H} {w : World} {base : Nat} {spare : Nat → Bool} {held : Bool}
set_option maxRecDepth 100000 in
set_option maxHeartbeats 4000000 in
theorem open_inst3v {fuel : Nat} {e0 e1 e2 : Value} {x : DataW H × List MemPlace} (h : DataW.trod enc Try.prog w base spare held fuel 27 [e0, e1, e2] = some x) :
    ∃ x n1 c1 is y n2 c2 rs now, e0 = .slice x n1 c1 ∧ e1 = .slice y n2 c2 ∧ e2 = .int .i64 now ∧ ArgI w x n1 is ∧ ArgR w y n2 rs ∧ (Lit.int .i64 now).wf = true := by
  obtain ⟨xs, n, _, _, hl, hx, hg⟩ := DataW.trod_struct Try.underlying27 h
  match xs, hx with
  | [y0, y1, y2], _ =>
    have h0 : DataW.trod enc Try.prog w base spare held n 22 ((([e0, e1, e2] : List Value).drop 0).take (Try.prog.cellsOf 22)) = [y0, y1, y2][0]? := hg 0 _ rfl
    rw [Try.cellsIfsI] at h0
    replace h0 : DataW.trod enc Try.prog w base spare held n 22 [e0] = some y0 := h0
    have h1 : DataW.trod enc Try.prog w base spare held n 25 ((([e0, e1, e2] : List Value).drop 1).take (Try.prog.cellsOf 25)) = [y0, y1, y2][1]? := hg 1 _ rfl
    rw [Try.cellsRibI] at h1
    replace h1 : DataW.trod enc Try.prog w base spare held n 25 [e1] = some y1 := h1
    have h2 : DataW.trod enc Try.prog w base spare held n 2 ((([e0, e1, e2] : List Value).drop 2).take (Try.prog.cellsOf 2)) = [y0, y1, y2][2]? := hg 2 _ rfl
    rw [Try.cellsIntN] at h2
    replace h2 : DataW.trod enc Try.prog w base spare held n 2 [e2] = some y2 := h2
    obtain ⟨xs', n', _, _, hl', hx', hg'⟩ := DataW.trod_struct Try.underlying25 h1
    match xs', hx' with
    | [z0], _ =>
      have k0 : DataW.trod enc Try.prog w base spare held n' 23 ((([e1] : List Value).drop 0).take (Try.prog.cellsOf 23)) = [z0][0]? := hg' 0 _ rfl
      rw [Try.cellsRibS] at k0
      replace k0 : DataW.trod enc Try.prog w base spare held n' 23 [e1] = some z0 := k0
      obtain ⟨x, n1, c1, is, rfl, hA⟩ := open_ifs h0
      obtain ⟨y, n2, c2, rs, rfl, hR⟩ := open_rts k0
      obtain ⟨now, en, _, wn⟩ := DataW.trod_int Try.underlying2 h2
      simp only [List.cons.injEq, and_true] at en
      subst en
      exact ⟨x, n1, c1, is, y, n2, c2, rs, now, rfl, rfl, rfl, hA, hR, wn⟩
set_option maxRecDepth 100000 in
set_option maxHeartbeats 4000000 in
theorem open_iv {fuel : Nat} {cs : List Value} {x : DataW H × List MemPlace} (h : DataW.trod enc Try.prog w base spare held fuel 27 cs = some x) : ∃ (a : Ip) (t : Iv), cs = ivL a t ∧ ArgIv w a t ∧ IvW t := by
  obtain ⟨_, _, _, _, hl, _, _⟩ := DataW.trod_struct Try.underlying27 h
  rw [Try.cellsInst] at hl
  match cs, hl with
  | [c0, c1, c2], _ =>
    obtain ⟨x, n1, k1, is, y, n2, k2, rs, now, rfl, rfl, rfl, hI, hR, wn⟩ := open_inst3v h
    obtain rfl : is.length = n1 := hI.1
    obtain rfl : rs.length = n2 := hR.1
    exact ⟨⟨x, k1, y, k2⟩, ⟨is, rs, now⟩, rfl, ⟨hI, hR⟩, wn⟩
set_option maxRecDepth 100000 in
set_option maxHeartbeats 4000000 in
theorem open_ivs {fuel : Nat} {v : Value} {x : DataW H × List MemPlace} (h : DataW.trod enc Try.prog w base spare held fuel 39 [v] = some x) : ∃ y len cap ps, v = .slice y len cap ∧ ArgIvs w y len ps := by
  rcases open_slice Try.underlying39 h with ⟨h0, _⟩ | ⟨a, len, cap, m, n, D, Pl, h0, hb, hl, hm, hmm, _, hx⟩
  · simp only [List.cons.injEq, and_true] at h0
    exact ⟨none, 0, 0, [], h0, rfl, Nat.zero_le _, by simp, fun i hi => absurd hi (by simp)⟩
  · simp only [List.cons.injEq, and_true] at h0
    have hlm : len ≤ m := by rw [hmm]; split <;> omega
    have each : ∀ i, i < m → ∃ e : IvP, (ArgIv w e.1 e.2 ∧ IvW e.2) ∧ w.cell? (a.add (i * 3)) = some (.slice e.1.x e.2.is.length e.1.c1) ∧ w.cell? (a.add (i * 3 + 1)) = some (.slice e.1.y e.2.rs.length e.1.c2) ∧ w.cell? (a.add (i * 3 + 2)) = some (.int .i64 e.2.now) := by
      intro i hi
      obtain ⟨cs', h1, h2⟩ := hx i hi
      rw [Try.cellsInst] at h1
      obtain ⟨aa, tt, rfl, hA, hw⟩ := open_iv h2
      obtain ⟨_, _, hcell⟩ := World.cells?_some h1
      have hadd : ∀ j k, (a.add j).add k = a.add (j + k) := fun j k => by
        unfold Addr.add
        by_cases hj : j = 0
        · subst hj; by_cases hk : k = 0 <;> simp [hk]
        · by_cases hk : k = 0
          · simp [hj, hk]
          · simp [hj, hk, Nat.add_assoc]
      refine ⟨(aa, tt), ⟨hA, hw⟩, ?_⟩
      have k0 := hcell 0 (by omega)
      have k1 := hcell 1 (by omega)
      have k2 := hcell 2 (by omega)
      simp only [hadd, Nat.add_zero, ivL] at k0 k1 k2
      exact ⟨by simpa using k0, by simpa using k1, by simpa using k2⟩
    obtain ⟨E, hE⟩ := choose_lt (α := IvP) (p := fun i e => (ArgIv w e.1 e.2 ∧ IvW e.2) ∧ w.cell? (a.add (i * 3)) = some (.slice e.1.x e.2.is.length e.1.c1) ∧ w.cell? (a.add (i * 3 + 1)) = some (.slice e.1.y e.2.rs.length e.1.c2) ∧ w.cell? (a.add (i * 3 + 2)) = some (.int .i64 e.2.now)) each
    refine ⟨some a, len, cap, (List.range len).map E, h0, by simp, by omega, ?_, ?_⟩
    · intro e he
      simp only [List.mem_map, List.mem_range] at he
      obtain ⟨i, hi, rfl⟩ := he
      exact (hE i (by omega)).1
    · intro i hi
      simp only [List.length_map, List.length_range] at hi
      refine ⟨a, rfl, ?_⟩
      simp only [List.getElem_map, List.getElem_range]
      exact (hE i (by omega)).2
end
end Go.Proofs.Ytfmaeicodljgkaa
/- An Inst measured, with any rest. (Written by gen_isl.py.) -/
namespace Go.Proofs.Ytfmaeicodljgkaa
open Go.ChangeShapes Go.WideShapes Go.RowKit Go.Sort Go.Deep Go.Joins

set_option maxRecDepth 100000 in
set_option maxHeartbeats 4000000 in
theorem szInstL_any (x : Option Addr) (n1 c1 : Nat) (y : Option Addr) (n2 c2 : Nat) (now L : Int) (w : World) (h1 : n1 ≤ maxLen) (h2 : n2 ≤ maxLen) (h0 : 0 ≤ L) (hL : L ≤ 1048576) :
    Calls Try.prog 7 #[instV x n1 c1 y n2 c2 now, .int .i64 L] w fun e w' => (∃ v : Int, e = .returned (.int .i64 v) ∧ v ≤ L ∧ (v < 0 ∨ 0 ≤ v ∧ n1 ≤ 1048576 ∧ n2 ≤ 1048576)) ∧ Below w.heap.size w w' := by
  have HA : Hid (∀ w, Calls Try.prog 22 #[.slice x n1 c1, .int .i64 L] w fun e w' => e = .returned (.int .i64 (if (n1 : Int) ≤ L then L - (n1 : Int) else -1)) ∧ w = w') := fun w => szIfaceSL_any x n1 c1 L w h1 h0 hL
  have HB : Hid (∀ L : Int, 0 ≤ L → L ≤ 1048576 → ∀ w, Calls Try.prog 23 #[.agg #[.slice y n2 c2], .int .i64 L] w fun e w' => e = .returned (.int .i64 (if (n2 : Int) ≤ L then L - (n2 : Int) else -1)) ∧ Below w.heap.size w w') := fun L a b w => szRibL_any y n2 c2 L w h2 a b
  unfold instV
  by_cases k1 : (n1 : Int) ≤ L
  · rw [if_pos k1] at HA
    have HB1 : Hid _ := HB.out (L - (n1 : Int)) (by omega) (by omega)
    have d1 : decide (L - (n1 : Int) < 0) = false := by simp; omega
    clear HB h1 h2
    by_cases k2 : (n2 : Int) ≤ L - (n1 : Int)
    · rw [if_pos k2] at HB1
      have d2 : decide (L - (n1 : Int) - (n2 : Int) < 0) = false := by simp; omega
      go_enter Try.func7, Try.ntmps7
      go_wp2_with fail
      refine (HA.out _).mono ?_
      rintro e w1 ⟨rfl, rfl⟩
      go_wp2_with fail
      refine (HB1.out _).mono ?_
      rintro e w2 ⟨rfl, hb2⟩
      obtain ⟨-, hB⟩ := box3i hb2
      clear hb2
      go_wp2
      go_ret
      exact ⟨⟨_, rfl, by omega, .inr ⟨by omega, by omega, by omega⟩⟩, hB⟩
    · rw [if_neg k2] at HB1
      go_enter Try.func7, Try.ntmps7
      go_wp2_with fail
      refine (HA.out _).mono ?_
      rintro e w1 ⟨rfl, rfl⟩
      go_wp2_with fail
      refine (HB1.out _).mono ?_
      rintro e w2 ⟨rfl, hb2⟩
      obtain ⟨-, hB⟩ := box3i hb2
      clear hb2
      go_wp2
      go_ret
      exact ⟨⟨_, rfl, by omega, .inl (by omega)⟩, hB⟩
  · rw [if_neg k1] at HA
    clear HB h1 h2
    go_enter Try.func7, Try.ntmps7
    go_wp2_with fail
    refine (HA.out _).mono ?_
    rintro e w1 ⟨rfl, rfl⟩
    go_wp2
    go_ret
    exact ⟨⟨_, rfl, by omega, .inl (by omega)⟩, ent_new0 w _⟩
end Go.Proofs.Ytfmaeicodljgkaa
/- An Inst handed over: its lists are new. (Written by gen_iout.py.) -/
namespace Go.Proofs.Ytfmaeicodljgkaa
open Go.RowKit Go.Sort

set_option maxRecDepth 100000 in
set_option maxHeartbeats 4000000 in
theorem toInst_new (x : Option Addr) (c1 : Nat) (y : Option Addr) (c2 : Nat) (is : List If) (rs : List Rt) (now : Int) (w : World) (h1 : ArgI w x is.length is) (h2 : ArgR w y rs.length rs) (hn1 : is.length ≤ 1048576) (hn2 : rs.length ≤ 1048576) :
    Calls Try.prog 9 #[instV x is.length c1 y rs.length c2 now] w fun e w' => ∃ g h, e = .returned (instV (some ⟨g, 0, none⟩) is.length is.length (some ⟨h, 0, none⟩) rs.length rs.length now) ∧ w.heap.size ≤ g ∧ w.heap.size ≤ h ∧ Row w' g 73 (rowI is) ∧ Row w' h 81 (rowR rs) ∧ Below w.heap.size w w' := by
  have HI : Hid (∀ w, ArgI w x is.length is → Calls Try.prog 27 #[.slice x is.length c1] w fun e w' => ∃ g, e = .returned (.slice (some ⟨g, 0, none⟩) is.length is.length) ∧ w.heap.size ≤ g ∧ Row w' g 73 (rowI is) ∧ Below w.heap.size w w') := fun w h => toIfaceS_any x c1 is w h hn1
  have HR : Hid (∀ w, ArgR w y rs.length rs → Calls Try.prog 28 #[.agg #[.slice y rs.length c2]] w fun e w' => ∃ g, e = .returned (.agg #[.slice (some ⟨g, 0, none⟩) rs.length rs.length]) ∧ w.heap.size ≤ g ∧ Row w' g 81 (rowR rs) ∧ Below w.heap.size w w') := fun w h => toRib_any y c2 rs w h hn2
  have HX : Hid (ArgI w x is.length is ∧ ArgR w y rs.length rs) := ⟨h1, h2⟩
  clear h1 h2 hn1 hn2
  unfold instV
  generalize is.length = n1 at *
  generalize rs.length = n2 at *
  obtain ⟨W, hW, q0, q1, q2, hB, hS⟩ := three_new w [.slice x n1 c1, .slice y n2 c2, .int .i64 now] [.slice none 0 0, .slice none 0 0, .int .i64 0] [.slice none 0 0, .slice none 0 0, .int .i64 0] 27 35 35
  have HW : Hid _ := hW
  have HQ : Hid _ := And.intro q0 (And.intro q1 (And.intro q2 hB))
  clear hW q0 q1 q2 hB
  go_enter Try.func9, Try.ntmps9
  go_wp2_with fail
  rw [← HW.out]
  obtain ⟨q0, q1, q2, hB⟩ := HQ.out
  refine (HI.out _ (HX.out.1.below hB)).mono ?_
  rintro e w1 ⟨g, rfl, hg, rg, hb1⟩
  have q0 := q0.below hb1 q0.lt
  have q1 := q1.below hb1 q1.lt
  have q2 := q2.below hb1 q2.lt
  have hB := hB.trans (hb1.mono (by omega))
  have hs1 := hb1.size
  clear hb1 HI HW HQ
  have x1 : w1.cell? ⟨w.heap.size, 1, none⟩ = some (.slice y n2 c2) := q0.cell 1
  have f0 : w1.frozen? ⟨w.heap.size + 1 + 1, 0, none⟩ = false := q2.frozen 0
  have z0 : w1.cell? ⟨w.heap.size + 1 + 1, 0, none⟩ = some (.slice none 0 0) := q2.cell 0
  have HE : Hid _ := And.intro (q0.other 0 (.slice (some ⟨g, 0, none⟩) n1 n1) (show w.heap.size ≠ w.heap.size + 1 + 1 by omega)) (And.intro (q1.other 0 (.slice (some ⟨g, 0, none⟩) n1 n1) (show w.heap.size + 1 ≠ w.heap.size + 1 + 1 by omega)) (And.intro (q2.set 0 (.slice (some ⟨g, 0, none⟩) n1 n1)) (And.intro (rg.other 0 (.slice (some ⟨g, 0, none⟩) n1 n1) (show g ≠ w.heap.size + 1 + 1 by omega)) (hB.setCell (p := ⟨w.heap.size + 1 + 1, 0, none⟩) (by show w.heap.size ≤ w.heap.size + 1 + 1; omega) (.slice (some ⟨g, 0, none⟩) n1 n1)))))
  clear q0 q1 q2 rg hB
  go_wp2_with fail
  clear x1 f0 z0
  have hsz : (w1.setCell ⟨w.heap.size + 1 + 1, 0, none⟩ (.slice (some ⟨g, 0, none⟩) n1 n1)).heap.size = w1.heap.size := by simp
  generalize w1.setCell ⟨w.heap.size + 1 + 1, 0, none⟩ (.slice (some ⟨g, 0, none⟩) n1 n1) = W1 at *
  obtain ⟨q0, q1, q2, rg, hB⟩ := HE.out
  clear HE
  refine (HR.out _ (HX.out.2.below hB)).mono ?_
  rintro e w2 ⟨h, rfl, hh, rh, hb2⟩
  have q0 := q0.below hb2 q0.lt
  have q1 := q1.below hb2 q1.lt
  have q2 := q2.below hb2 q2.lt
  have rg := rg.below hb2 rg.lt
  have hB := hB.trans (hb2.mono hB.size)
  clear hb2 HR
  have x2 : w2.cell? ⟨w.heap.size, 2, none⟩ = some (.int .i64 now) := q0.cell 2
  have a0 : w2.cell? ⟨w.heap.size + 1 + 1, 0, none⟩ = some (.slice (some ⟨g, 0, none⟩) n1 n1) := q2.cell 0
  have f0 : w2.frozen? ⟨w.heap.size + 1 + 1, 0, none⟩ = false := q2.frozen 0
  have a1 : w2.cell? ⟨w.heap.size + 1 + 1, 1, none⟩ = some (.slice none 0 0) := q2.cell 1
  have f1 : w2.frozen? ⟨w.heap.size + 1 + 1, 1, none⟩ = false := q2.frozen 1
  have a2 : w2.cell? ⟨w.heap.size + 1 + 1, 2, none⟩ = some (.int .i64 0) := q2.cell 2
  have f2 : w2.frozen? ⟨w.heap.size + 1 + 1, 2, none⟩ = false := q2.frozen 2
  have b0 : w2.cell? ⟨w.heap.size + 1, 0, none⟩ = some (.slice none 0 0) := q1.cell 0
  have e0 : w2.frozen? ⟨w.heap.size + 1, 0, none⟩ = false := q1.frozen 0
  have b1 : w2.cell? ⟨w.heap.size + 1, 1, none⟩ = some (.slice none 0 0) := q1.cell 1
  have e1 : w2.frozen? ⟨w.heap.size + 1, 1, none⟩ = false := q1.frozen 1
  have b2 : w2.cell? ⟨w.heap.size + 1, 2, none⟩ = some (.int .i64 0) := q1.cell 2
  have e2 : w2.frozen? ⟨w.heap.size + 1, 2, none⟩ = false := q1.frozen 2
  have hGG : w.heap.size ≤ g := by omega
  have hHH : w.heap.size ≤ h := by omega
  have ng2 : g ≠ w.heap.size + 1 + 1 := by omega
  have ng1 : g ≠ w.heap.size + 1 := by omega
  have nh2 : h ≠ w.heap.size + 1 + 1 := by omega
  have nh1 : h ≠ w.heap.size + 1 := by omega
  have n12 : w.heap.size + 1 ≠ w.heap.size + 1 + 1 := by omega
  have HF : Hid (Row (((((w2.setCell ⟨w.heap.size + 1 + 1, 1, none⟩ (.slice (some ⟨h, 0, none⟩) n2 n2)).setCell ⟨w.heap.size + 1 + 1, 2, none⟩ (.int .i64 now)).setCell ⟨w.heap.size + 1, 0, none⟩ (.slice (some ⟨g, 0, none⟩) n1 n1)).setCell ⟨w.heap.size + 1, 1, none⟩ (.slice (some ⟨h, 0, none⟩) n2 n2)).setCell ⟨w.heap.size + 1, 2, none⟩ (.int .i64 now)) (w.heap.size + 1) 35 [.slice (some ⟨g, 0, none⟩) n1 n1, .slice (some ⟨h, 0, none⟩) n2 n2, .int .i64 now] ∧ Row (((((w2.setCell ⟨w.heap.size + 1 + 1, 1, none⟩ (.slice (some ⟨h, 0, none⟩) n2 n2)).setCell ⟨w.heap.size + 1 + 1, 2, none⟩ (.int .i64 now)).setCell ⟨w.heap.size + 1, 0, none⟩ (.slice (some ⟨g, 0, none⟩) n1 n1)).setCell ⟨w.heap.size + 1, 1, none⟩ (.slice (some ⟨h, 0, none⟩) n2 n2)).setCell ⟨w.heap.size + 1, 2, none⟩ (.int .i64 now)) g 73 (rowI is) ∧ Row (((((w2.setCell ⟨w.heap.size + 1 + 1, 1, none⟩ (.slice (some ⟨h, 0, none⟩) n2 n2)).setCell ⟨w.heap.size + 1 + 1, 2, none⟩ (.int .i64 now)).setCell ⟨w.heap.size + 1, 0, none⟩ (.slice (some ⟨g, 0, none⟩) n1 n1)).setCell ⟨w.heap.size + 1, 1, none⟩ (.slice (some ⟨h, 0, none⟩) n2 n2)).setCell ⟨w.heap.size + 1, 2, none⟩ (.int .i64 now)) h 81 (rowR rs) ∧ Below w.heap.size w (((((w2.setCell ⟨w.heap.size + 1 + 1, 1, none⟩ (.slice (some ⟨h, 0, none⟩) n2 n2)).setCell ⟨w.heap.size + 1 + 1, 2, none⟩ (.int .i64 now)).setCell ⟨w.heap.size + 1, 0, none⟩ (.slice (some ⟨g, 0, none⟩) n1 n1)).setCell ⟨w.heap.size + 1, 1, none⟩ (.slice (some ⟨h, 0, none⟩) n2 n2)).setCell ⟨w.heap.size + 1, 2, none⟩ (.int .i64 now))) := ⟨((((((q1.other 1 (.slice (some ⟨h, 0, none⟩) n2 n2) n12).other 2 (.int .i64 now) n12).set 0 (.slice (some ⟨g, 0, none⟩) n1 n1)).set 1 (.slice (some ⟨h, 0, none⟩) n2 n2)).set 2 (.int .i64 now))), ((((((rg).other 1 (.slice (some ⟨h, 0, none⟩) n2 n2) ng2).other 2 (.int .i64 now) ng2).other 0 (.slice (some ⟨g, 0, none⟩) n1 n1) ng1).other 1 (.slice (some ⟨h, 0, none⟩) n2 n2) ng1).other 2 (.int .i64 now) ng1), ((((((rh).other 1 (.slice (some ⟨h, 0, none⟩) n2 n2) nh2).other 2 (.int .i64 now) nh2).other 0 (.slice (some ⟨g, 0, none⟩) n1 n1) nh1).other 1 (.slice (some ⟨h, 0, none⟩) n2 n2) nh1).other 2 (.int .i64 now) nh1), (((((hB.setCell (p := ⟨w.heap.size + 1 + 1, 1, none⟩) (by show w.heap.size ≤ w.heap.size + 1 + 1; omega) (.slice (some ⟨h, 0, none⟩) n2 n2)).setCell (p := ⟨w.heap.size + 1 + 1, 2, none⟩) (by show w.heap.size ≤ w.heap.size + 1 + 1; omega) (.int .i64 now)).setCell (p := ⟨w.heap.size + 1, 0, none⟩) (by show w.heap.size ≤ w.heap.size + 1; omega) (.slice (some ⟨g, 0, none⟩) n1 n1)).setCell (p := ⟨w.heap.size + 1, 1, none⟩) (by show w.heap.size ≤ w.heap.size + 1; omega) (.slice (some ⟨h, 0, none⟩) n2 n2)).setCell (p := ⟨w.heap.size + 1, 2, none⟩) (by show w.heap.size ≤ w.heap.size + 1; omega) (.int .i64 now))⟩
  clear q0 q1 q2 rg rh hB
  go_wp2_with fail
  have hF := HF.out
  clear HF x2 a0 f0 b0 e0 a1 f1 b1 e1 a2 f2 b2 e2
  generalize (((((w2.setCell ⟨w.heap.size + 1 + 1, 1, none⟩ (.slice (some ⟨h, 0, none⟩) n2 n2)).setCell ⟨w.heap.size + 1 + 1, 2, none⟩ (.int .i64 now)).setCell ⟨w.heap.size + 1, 0, none⟩ (.slice (some ⟨g, 0, none⟩) n1 n1)).setCell ⟨w.heap.size + 1, 1, none⟩ (.slice (some ⟨h, 0, none⟩) n2 n2)).setCell ⟨w.heap.size + 1, 2, none⟩ (.int .i64 now)) = Z at *
  obtain ⟨k1, k2, k3, k4⟩ := hF
  have e0 : Z.cell? ⟨w.heap.size + 1, 0, none⟩ = some (.slice (some ⟨g, 0, none⟩) n1 n1) := k1.cell 0
  have e1 : Z.cell? ⟨w.heap.size + 1, 1, none⟩ = some (.slice (some ⟨h, 0, none⟩) n2 n2) := k1.cell 1
  have e2 : Z.cell? ⟨w.heap.size + 1, 2, none⟩ = some (.int .i64 now) := k1.cell 2
  exact bodyPost_ret (v := .agg #[.slice (some ⟨g, 0, none⟩) n1 n1, .slice (some ⟨h, 0, none⟩) n2 n2, .int .i64 now]) (by simp [results, Try.results9, go_sem, e0, e1, e2]) rfl ⟨g, h, rfl, hGG, hHH, k2, k3, k4⟩
end Go.Proofs.Ytfmaeicodljgkaa
/- The laws' own lists of Insts measured and handed over. (Written by gen_isl.py.) -/
namespace Go.Proofs.Ytfmaeicodljgkaa
open Go.RowKit Go.Sort

/-- An Inst whose lists lie in blocks of their own from base on. -/
def PlIv (w : World) (base : Nat) (a : Ip) (t : Iv) : Prop := ∃ g h, a = ⟨some ⟨g, 0, none⟩, t.is.length, some ⟨h, 0, none⟩, t.rs.length⟩ ∧ base ≤ g ∧ base ≤ h ∧ Row w g 73 (rowI t.is) ∧ Row w h 81 (rowR t.rs)
theorem PlIv.inIv {w : World} {base : Nat} {a : Ip} {t : Iv} (k : PlIv w base a t) : InIv w a t := by
  obtain ⟨g, h, rfl, -, -, a1, a2⟩ := k
  exact ⟨ifsIn_row a1, rtsIn_row a2⟩
theorem PlIv.c {w : World} {b : Nat} {a : Ip} {t : Iv} (h : PlIv w b a t) : t.is.length ≤ a.c1 := by
  obtain ⟨g, h, rfl, _⟩ := h
  exact Nat.le_refl _
theorem PlIv.below {w w' : World} {base : Nat} {a : Ip} {t : Iv} (k : PlIv w base a t) (hb : Below w.heap.size w w') : PlIv w' base a t := by
  obtain ⟨g, h, e, b1, b2, a1, a2⟩ := k
  exact ⟨g, h, e, b1, b2, a1.below hb a1.lt, a2.below hb a2.lt⟩
theorem PlIv.kept {w w' : World} {base b : Nat} {a : Ip} {t : Iv} (k : PlIv w base a t) (hb : b < base) (hk : ∀ g t l, g ≠ b → Row w g t l → Row w' g t l) : PlIv w' base a t := by
  obtain ⟨g, h, e, b1, b2, a1, a2⟩ := k
  exact ⟨g, h, e, b1, b2, hk _ _ _ (by omega) a1, hk _ _ _ (by omega) a2⟩
def threeIv (w : World) (g o : Nat) (x0 x1 x2 : Value) : World := (((w.setCell ⟨g, o, none⟩ x0).setCell ⟨g, o + 1, none⟩ x1).setCell ⟨g, o + 2, none⟩ x2)
theorem threeIv_below {B : Nat} {w0 w : World} (h : Below B w0 w) (g o : Nat) (hg : B ≤ g) (x0 x1 x2 : Value) : Below B w0 (threeIv w g o x0 x1 x2) := (((h.setCell (p := ⟨g, o, none⟩) hg x0).setCell (p := ⟨g, o + 1, none⟩) hg x1).setCell (p := ⟨g, o + 2, none⟩) hg x2)
theorem threeIv_row {w : World} {g : Nat} {t : TypeId} {l : List Value} (h : Row w g t l) (o : Nat) (x0 x1 x2 : Value) : Row (threeIv w g o x0 x1 x2) g t (((l.set (o) x0).set (o + 1) x1).set (o + 2) x2) := (((h.set (o) x0).set (o + 1) x1).set (o + 2) x2)
theorem threeIv_other {w : World} {b g : Nat} {t : TypeId} {l : List Value} (h : Row w b t l) (hne : b ≠ g) (o : Nat) (x0 x1 x2 : Value) : Row (threeIv w g o x0 x1 x2) b t l := (((h.other (o) x0 hne).other (o + 1) x1 hne).other (o + 2) x2 hne)
theorem set3Iv (A R : List Value) (k : Nat) (hA : A.length = k * 3) (z0 z1 z2 x0 x1 x2 : Value) : ((((A ++ ([z0, z1, z2] ++ R)).set (k * 3) x0).set (k * 3 + 1) x1).set (k * 3 + 2) x2) = A ++ ([x0, x1, x2] ++ R) := by
  have e : ∀ (L : List Value) (j : Nat) (x : Value), (A ++ L).set (k * 3 + j) x = A ++ L.set j x := fun L j x => by
    rw [List.set_append, if_neg (by omega), hA, Nat.add_sub_cancel_left]
  have e0 : ∀ (L : List Value) (x : Value), (A ++ L).set (k * 3) x = A ++ L.set 0 x := fun L x => e L 0 x
  rw [e0, e, e]
  rfl
theorem Row.someIv {w : World} {g : Nat} {t : TypeId} {l : List Value} (h : Row w g t l) (k : Nat) (hk : k < l.length) : ∃ v, w.cell? ⟨g, k, none⟩ = some v := ⟨l[k], by rw [h.cell, List.getElem?_eq_getElem hk]⟩
theorem Try.infoIv : (Try.prog.info? 35).map (fun i => (i.zero, i.size, i.bytes)) = some (some (.agg #[.slice none 0 0, .slice none 0 0, .int .i64 0]), 3, 56) := by kernel_rfl
def zeroIv : IvP := (⟨none, 0, none, 0⟩, ⟨[], [], 0⟩)
theorem rowIv_zero_get (n i : Nat) (h : i < n * 3) : (rowIv (List.replicate n zeroIv))[i]? = (ivL zeroIv.1 zeroIv.2)[i % 3]? := by
  have hi : i / 3 < (List.replicate n zeroIv).length := by simp; omega
  have := rowIv_get (List.replicate n zeroIv) (i / 3) (i % 3) hi (by omega)
  rw [show i / 3 * 3 + i % 3 = i by omega] at this
  rw [this, List.getElem_replicate]
theorem made_zeroIv (n : Nat) : (madeCells (Value.agg #[.slice none 0 0, .slice none 0 0, .int .i64 0]).cells (n * 3)).toList = rowIv (List.replicate n zeroIv) := by
  apply List.ext_getElem?
  intro i
  by_cases h : i < n * 3
  · rw [rowIv_zero_get n i h]
    simp only [madeCells, Value.cells, Array.toList_map, List.getElem?_map]
    have h9 : i % 3 = 0 ∨ i % 3 = 1 ∨ i % 3 = 2 := by omega
    rcases h9 with h9 | h9 | h9 <;> simp [h9, h, ivL, zeroIv]
  · rw [List.getElem?_eq_none (by simp [madeCells]; omega), List.getElem?_eq_none (by rw [rowIv_length]; simp; omega)]
set_option maxRecDepth 100000 in
theorem wpList_make_ivs {w : World} {ops : Array Oper} {rest : List Oper} {o : Oper} {a : Act} {Q : Exit → Act → World → Prop}
    (hgd : o.guard = none) (l c : Operand) (hop : o.op = Op.makeSlice 45 l c)
    (L : Int) (n : Nat) (hl : a.eval l = .int .i64 L) (hc : a.eval c = .int .i64 L) (hL : L = (n : Int)) (hn : n ≤ 100000000)
    (B : Nat) (w0 : World) (hb : Below B w0 w) (hB : B ≤ w.heap.size)
    (h : ∀ w', Row w' w.heap.size 35 (rowIv (List.replicate n zeroIv)) → Below B w0 w' → wpList Try.prog ops Q rest (a.put o.dst (.slice (some ⟨w.heap.size, 0, none⟩) n n)) w') : wpList Try.prog ops Q (o :: rest) a w := by
  obtain ⟨i0, hi0, hz0, hz1, hz2⟩ := info_parts Try.infoIv
  refine wpList_make_full w hgd l c 45 hop B 35 i0 _ 3 Try.underlying45 hi0 hz0 hz1 .i64 .i64 L L n hl hc hL hL (by rw [hz2]; omega) (by unfold maxLen; omega) hB ?_
  intro w' hown hgrow
  rcases hown.2 with ⟨h', _⟩ | ⟨g, cap, cur, h', hbg, hg, hnc, hcm, hcs, htake⟩
  · simp at h'
  · simp only [Value.slice.injEq, Option.some.injEq, Addr.mk.injEq, and_true, true_and] at h'
    obtain ⟨rfl, rfl⟩ := h'
    refine h w' ?_ (hb.trans ((Below.refl B w).grown hgrow hB (by intro k hk; cases hk)))
    unfold Row
    rw [hg, ← made_zeroIv, ← htake, List.take_of_length_le (by simp [hcs])]
theorem rowIv_set (qs : List IvP) (n k : Nat) (hq : qs.length = k) (hk : k < n) (a : Ip) (t : Iv) :
    ((((rowIv (qs ++ List.replicate (n - k) zeroIv)).set (k * 3) (.slice a.x t.is.length a.c1)).set (k * 3 + 1) (.slice a.y t.rs.length a.c2)).set (k * 3 + 2) (.int .i64 t.now)) = rowIv ((qs ++ [(a, t)]) ++ List.replicate (n - (k + 1)) zeroIv) := by
  have e1 : n - k = (n - (k + 1)) + 1 := by omega
  rw [e1, List.replicate_succ, rowIv_append, rowIv_cons, List.append_assoc, rowIv_append, List.singleton_append, rowIv_cons]
  exact set3Iv _ _ k (by rw [rowIv_length, hq]; omega) _ _ _ _ _ _
/-- What a look at the size tells of an Inst. -/
def IvS (t : Iv) : Prop := t.is.length ≤ 1048576 ∧ t.rs.length ≤ 1048576
set_option maxRecDepth 100000 in
set_option maxHeartbeats 4000000 in
theorem szInstS_any (x : Option Addr) (cap : Nat) (ps : List IvP) (L : Int) (w : World) (h : ArgIvs w x ps.length ps) (h0 : 0 ≤ L) (h1 : L ≤ 1048576) : Calls Try.prog 33 #[.slice x ps.length cap, .int .i64 L] w fun e w' => (∃ v : Int, e = .returned (.int .i64 v) ∧ v ≤ L ∧ (v < 0 ∨ 0 ≤ v ∧ ps.length ≤ 1048576 ∧ ∀ e ∈ ps, IvS e.2)) ∧ Below w.heap.size w w' := by
  have hl := h.2.1
  unfold maxLen at hl
  have HE : Hid (∀ (a : Ip) (t : Iv) (L : Int) (w : World), ArgIv w a t → IvW t → 0 ≤ L → L ≤ 1048576 → Calls Try.prog 7 #[.agg #[.slice a.x t.is.length a.c1, .slice a.y t.rs.length a.c2, .int .i64 t.now], .int .i64 L] w fun e w' => (∃ v : Int, e = .returned (.int .i64 v) ∧ v ≤ L ∧ (v < 0 ∨ 0 ≤ v ∧ IvS t)) ∧ Below w.heap.size w w') := fun a t L w hA hW k0 k1 => szInstL_any a.x t.is.length a.c1 a.y t.rs.length a.c2 t.now L w hA.1.2.1 hA.2.2.1 k0 k1
  have HX : Hid (ArgIvs w x ps.length ps) := h
  have z : IntKind.i64.wrap (L - (ps.length : Int)) = L - (ps.length : Int) := wrap_i64_in _ (by omega) (by omega)
  clear h
  by_cases hL : (ps.length : Int) ≤ L
  case neg =>
    have d : decide (L - (ps.length : Int) < 0) = true := by simp; omega
    clear HE HX
    go_enter Try.func33, Try.ntmps33
    go_wp2
    go_ret
    exact ⟨⟨_, rfl, by omega, .inl (by omega)⟩, Below.refl _ _⟩
  have d : decide (L - (ps.length : Int) < 0) = false := by simp; omega
  go_enter Try.func33, Try.ntmps33
  go_wp2_with fail
  go_loopw [5, 1] (fun i m wr => ∃ (k : Nat) (v : Int), k ≤ ps.length ∧ i = .int .i64 k ∧ m = .int .i64 v ∧ 0 ≤ v ∧ v ≤ L ∧ (∀ j (hj : j < ps.length), j < k → IvS ps[j].2) ∧ Below w.heap.size w wr) (fun i _ _ => ps.length - (intOf i).toNat)
  case atStart => exact ⟨0, _, Nat.zero_le _, rfl, rfl, by omega, by omega, fun j _ hj => absurd hj (by omega), Below.refl _ _⟩
  case round =>
    obtain ⟨k, v, hk, rfl, rfl, hv0, hvL, ha, hB⟩ := hrel
    by_cases hlt : k < ps.length
    · have d1 : decide ((k : Int) < (ps.length : Int)) = true := by simpa using hlt
      obtain ⟨p, a, t, rfl, hek, hA, hW, c0, c1, c2⟩ := (HX.out.below hB).at k hlt
      have HEk : Hid (Calls Try.prog 7 #[.agg #[.slice a.x t.is.length a.c1, .slice a.y t.rs.length a.c2, .int .i64 t.now], .int .i64 v] wr fun e w' => (∃ v' : Int, e = .returned (.int .i64 v') ∧ v' ≤ v ∧ (v' < 0 ∨ 0 ≤ v' ∧ IvS t)) ∧ Below wr.heap.size wr w') := HE.out a t v wr hA hW hv0 (by omega)
      generalize a.x = ax at *
      generalize a.y = ay at *
      generalize a.c1 = ac1 at *
      generalize a.c2 = ac2 at *
      generalize t.is.length = tn1 at *
      generalize t.rs.length = tn2 at *
      generalize t.now = tw at *
      have HA : Hid (∀ j (hj : j < ps.length), j < k → IvS ps[j].2) := ha
      have HK : Hid (ps[k] = (a, t)) := hek
      clear HE hek ha hA hW
      go_wp2_with fail
      refine (HEk.out).mono ?_
      rintro e w1 ⟨⟨v', rfl, hv', hc⟩, hb1⟩
      have hB := hB.trans (hb1.mono hB.size)
      clear c0 c1 c2 hb1 HEk
      rcases hc with hc | ⟨hc, hS⟩
      · have d2 : decide (v' < 0) = true := by simpa using hc
        clear hc
        go_wp2
        go_ret
        exact ⟨⟨_, rfl, by omega, .inl (by omega)⟩, hB⟩
      · have d2 : decide (v' < 0) = false := by simp; omega
        have HB : Hid _ := And.intro hS hB
        clear hB hS
        go_wp2
        go_roundw
        case rel => exact ⟨k + 1, _, hlt, by go_num, rfl, by omega, by omega, (fun j hj hjk => by
          rcases Nat.lt_or_ge j k with h' | h'
          · exact HA.out j hj h'
          · obtain rfl : j = k := (by omega)
            rw [HK.out]
            exact HB.out.1), HB.out.2⟩
        case measure => simp [intOf]; omega
    · have d1 : decide ((k : Int) < (ps.length : Int)) = false := by simpa using hlt
      clear HE HX
      go_wp2
      go_ret
      exact ⟨⟨_, rfl, hvL, .inr ⟨hv0, by omega, fun s hs => by
        obtain ⟨j, hj, rfl⟩ := List.mem_iff_getElem.1 hs
        exact ha j hj (by omega)⟩⟩, hB⟩
set_option maxRecDepth 100000 in
set_option maxHeartbeats 4000000 in
theorem toInstS_any (x : Option Addr) (cap : Nat) (ps : List IvP) (w : World) (h : ArgIvs w x ps.length ps) (hn : ps.length ≤ 1048576) (hs : ∀ e ∈ ps, IvS e.2) :
    Calls Try.prog 37 #[.slice x ps.length cap] w fun e w' => ∃ g, ∃ qs : List IvP, e = .returned (.slice (some ⟨g, 0, none⟩) ps.length ps.length) ∧ w.heap.size ≤ g ∧ qs.map (·.2) = ps.map (·.2) ∧ Row w' g 35 (rowIv qs) ∧ (∀ e ∈ qs, PlIv w' (g + 1) e.1 e.2) ∧ Below w.heap.size w w' := by
  have HE : Hid (∀ (a : Ip) (t : Iv) (w : World), ArgIv w a t → IvS t → Calls Try.prog 9 #[.agg #[.slice a.x t.is.length a.c1, .slice a.y t.rs.length a.c2, .int .i64 t.now]] w fun e w' => ∃ g h, e = .returned (.agg #[.slice (some ⟨g, 0, none⟩) t.is.length t.is.length, .slice (some ⟨h, 0, none⟩) t.rs.length t.rs.length, .int .i64 t.now]) ∧ w.heap.size ≤ g ∧ w.heap.size ≤ h ∧ Row w' g 73 (rowI t.is) ∧ Row w' h 81 (rowR t.rs) ∧ Below w.heap.size w w') := fun a t w hA hS => toInst_new a.x a.c1 a.y a.c2 t.is t.rs t.now w hA.1 hA.2 hS.1 hS.2
  have HX : Hid (ArgIvs w x ps.length ps) := h
  have HS : Hid (∀ e ∈ ps, IvS e.2) := hs
  clear h hs
  go_enter Try.func37, Try.ntmps37
  go_wp2_with (at_make; refine wpList_make_ivs rfl _ _ rfl _ ps.length rfl rfl rfl (by omega) w.heap.size w (Below.refl _ _) (Nat.le_refl _) ?_)
  intro w0 hr0 hb0
  have hz : ([] : List IvP) ++ List.replicate (ps.length - 0) zeroIv = List.replicate ps.length zeroIv := by simp
  rw [← hz] at hr0
  clear hz
  go_wp2_with fail
  go_loopw [4] (fun i wr => ∃ (k : Nat) (qs : List IvP), k ≤ ps.length ∧ i = .int .i64 k ∧ qs.length = k ∧ qs.map (·.2) = (ps.take k).map (·.2) ∧ Row wr w.heap.size 35 (rowIv (qs ++ List.replicate (ps.length - k) zeroIv)) ∧ (∀ e ∈ qs, PlIv wr (w.heap.size + 1) e.1 e.2) ∧ Below w.heap.size w wr) (fun i _ => ps.length - (intOf i).toNat)
  case atStart => exact ⟨0, [], Nat.zero_le _, rfl, rfl, rfl, hr0, fun e he => by simp at he, hb0⟩
  case round =>
    obtain ⟨k, qs, hk, rfl, hql, hqm, hr, hpl, hb⟩ := hrel
    by_cases hlt : k < ps.length
    · obtain ⟨p, a, t, rfl, hek, hA, hW, c0, c1, c2⟩ := (HX.out.below hb).at k hlt
      have hS := HS.out ps[k] (List.getElem_mem hlt)
      rw [hek] at hS
      have HEk : Hid (Calls Try.prog 9 #[.agg #[.slice a.x t.is.length a.c1, .slice a.y t.rs.length a.c2, .int .i64 t.now]] wr fun e w' => ∃ g h, e = .returned (.agg #[.slice (some ⟨g, 0, none⟩) t.is.length t.is.length, .slice (some ⟨h, 0, none⟩) t.rs.length t.rs.length, .int .i64 t.now]) ∧ wr.heap.size ≤ g ∧ wr.heap.size ≤ h ∧ Row w' g 73 (rowI t.is) ∧ Row w' h 81 (rowR t.rs) ∧ Below wr.heap.size wr w') := HE.out a t wr hA hS
      have HK : Hid (ps[k] = (a, t)) := hek
      have hlt0 := hr.lt
      clear HE hek hr0 hb0 hA hW hS
      generalize a.x = ax at *
      generalize a.y = ay at *
      generalize a.c1 = ac1 at *
      generalize a.c2 = ac2 at *
      obtain ⟨is, rs, now⟩ := t
      simp only at HEk c0 c1 c2
      generalize hN1 : is.length = n1 at *
      generalize hN2 : rs.length = n2 at *
      have HN : Hid (n1 = is.length ∧ n2 = rs.length) := ⟨hN1.symm, hN2.symm⟩
      clear hN1 hN2
      go_wp2_with fail
      refine (HEk.out).mono ?_
      rintro e w1 ⟨g, h, rfl, hg, hh, k1, k2, hb1⟩
      have hr1 := hr.below hb1 hr.lt
      have hB1 := hb.trans (hb1.mono hb.size)
      have hpl1 : ∀ e ∈ qs ++ [((⟨some ⟨g, 0, none⟩, n1, some ⟨h, 0, none⟩, n2⟩, ⟨is, rs, now⟩) : IvP)], PlIv w1 (w.heap.size + 1) e.1 e.2 := fun e he => by
        rcases List.mem_append.1 he with he | he
        · exact (hpl e he).below hb1
        · rw [List.mem_singleton] at he
          subst he
          exact ⟨g, h, by simp only [← HN.out.1, ← HN.out.2], by omega, by omega, k1, k2⟩
      clear c0 c1 c2 hb1 HEk hr hb hpl k1 k2
      have hlr : (rowIv (qs ++ List.replicate (ps.length - k) zeroIv)).length = ps.length * 3 := by rw [rowIv_length, List.length_append, List.length_replicate, hql]; omega
      obtain ⟨z0, hz0⟩ := Row.someIv hr1 (k * 3) (by omega)
      obtain ⟨z1, hz1⟩ := Row.someIv hr1 (k * 3 + 1) (by omega)
      obtain ⟨z2, hz2⟩ := Row.someIv hr1 (k * 3 + 2) (by omega)
      have f0 := hr1.frozen (k * 3)
      have f1 := hr1.frozen (k * 3 + 1)
      have f2 := hr1.frozen (k * 3 + 2)
      have hr2 := threeIv_row hr1 (k * 3) (.slice (some ⟨g, 0, none⟩) n1 n1) (.slice (some ⟨h, 0, none⟩) n2 n2) (.int .i64 now)
      have hset := rowIv_set qs ps.length k hql hlt ⟨some ⟨g, 0, none⟩, n1, some ⟨h, 0, none⟩, n2⟩ ⟨is, rs, now⟩
      simp only [← HN.out.1, ← HN.out.2] at hset
      rw [hset] at hr2
      have hB2 := threeIv_below hB1 w.heap.size (k * 3) (Nat.le_refl _) (.slice (some ⟨g, 0, none⟩) n1 n1) (.slice (some ⟨h, 0, none⟩) n2 n2) (.int .i64 now)
      have hP2 := fun e he => (hpl1 e he).kept (w' := threeIv w1 w.heap.size (k * 3) (.slice (some ⟨g, 0, none⟩) n1 n1) (.slice (some ⟨h, 0, none⟩) n2 n2) (.int .i64 now)) (Nat.lt_succ_self _) (fun b tt l hne hr => threeIv_other hr hne (k * 3) (.slice (some ⟨g, 0, none⟩) n1 n1) (.slice (some ⟨h, 0, none⟩) n2 n2) (.int .i64 now))
      unfold threeIv at hr2 hB2 hP2
      have hm2 : (qs ++ [((⟨some ⟨g, 0, none⟩, n1, some ⟨h, 0, none⟩, n2⟩, ⟨is, rs, now⟩) : IvP)]).map (·.2) = (ps.take (k + 1)).map (·.2) := by
        rw [List.map_append, hqm, List.take_succ_eq_append_getElem hlt, List.map_append, HK.out]
        rfl
      have HH : Hid _ := And.intro hr2 (And.intro hB2 (And.intro hP2 hm2))
      clear hr1 hB1 hlr hr2 hB2 hP2 hm2 hpl1 hset
      go_wp2_with fail
      go_roundw
      case rel => exact ⟨k + 1, _, hlt, by go_num, by rw [List.length_append, hql]; rfl, HH.out.2.2.2, HH.out.1, HH.out.2.2.1, HH.out.2.1⟩
      case measure => simp [intOf]; omega
    · obtain rfl : k = ps.length := by omega
      rw [Nat.sub_self, List.replicate_zero, List.append_nil] at hr
      rw [List.take_length] at hqm
      clear hlt hk
      go_wp2
      go_ret
      exact ⟨w.heap.size, rfl, Nat.le_refl _, qs, hqm, hr, fun a b h => hpl (a, b) h, hb⟩
end Go.Proofs.Ytfmaeicodljgkaa
/- The laws' own look: lists of Insts are as themselves. (Written by gen_isl.py.) -/
namespace Go.Proofs.Ytfmaeicodljgkaa
open Go.RowKit Go.Sort

set_option maxRecDepth 100000 in
set_option maxHeartbeats 4000000 in
theorem eqInstS_any (p q : Option Addr) (c0 d0 : Nat) (ps qs : List IvP) (w : World) (hp : IvsIn w p ps) (hq : IvsIn w q qs) (hpq : ps.map (·.2) = qs.map (·.2)) (hn : ps.length ≤ 100000000) (hs : ∀ e ∈ ps, e.2.is.length ≤ 100000000 ∧ e.2.rs.length ≤ 100000000) : Calls Try.prog 41 #[.slice p ps.length c0, .slice q ps.length d0] w fun r w' => r = .returned (.bool true) ∧ Below w.heap.size w w' := by
  have HE : Hid (∀ a a' t w, InIv w a t → InIv w a' t → (t.is.length ≤ 100000000 ∧ t.rs.length ≤ 100000000) → Calls Try.prog 11 #[.agg #[.slice a.x t.is.length a.c1, .slice a.y t.rs.length a.c2, .int .i64 t.now], .agg #[.slice a'.x t.is.length a'.c1, .slice a'.y t.rs.length a'.c2, .int .i64 t.now]] w fun r w' => r = .returned (.bool true) ∧ Below w.heap.size w w') := fun a a' t w h1 h2 h3 => eqInst_any a.x a'.x a.c1 a'.c1 a.y a'.y a.c2 a'.c2 t.is t.rs t.now w h1.1 h2.1 h1.2 h2.2 h3.1 h3.2
  have HX : Hid (IvsIn w p ps ∧ IvsIn w q qs) := ⟨hp, hq⟩
  have HL : Hid (ps.length = qs.length ∧ ∀ k (h1 : k < ps.length) (h2 : k < qs.length), ps[k].2 = qs[k].2) := by
    refine ⟨by simpa using congrArg List.length hpq, fun k h1 h2 => ?_⟩
    have := congrArg (fun l => l[k]?) hpq
    simpa [h1, h2] using this
  have HS : Hid (∀ e ∈ ps, e.2.is.length ≤ 100000000 ∧ e.2.rs.length ≤ 100000000) := hs
  have h0 : ((ps.length : Int) != (ps.length : Int)) = false := by simp
  clear hp hq hpq hs
  go_enter Try.func41, Try.ntmps41
  go_wp2_with fail
  go_loopw [5] (fun i wr => ∃ k : Nat, k ≤ ps.length ∧ i = .int .i64 k ∧ Below w.heap.size w wr) (fun i _ => ps.length - (intOf i).toNat)
  case atStart => exact ⟨0, Nat.zero_le _, rfl, Below.refl _ _⟩
  case round =>
    obtain ⟨k, hk, rfl, hb⟩ := hrel
    by_cases hlt : k < ps.length
    · have hlq : k < qs.length := by have := HL.out.1; omega
      obtain ⟨g, a, t, rfl, hg, hek, hI, x0, x1, x2⟩ := (HX.out.1.below hb).at k hlt
      obtain ⟨g', a', t', rfl, hg', hek', hI', y0, y1, y2⟩ := (HX.out.2.below hb).at k hlq
      have ht := HL.out.2 k hlt hlq
      have hS := HS.out _ (List.getElem_mem hlt)
      rw [hek] at hS
      rw [hek, hek'] at ht
      simp only at ht hS
      subst ht
      have HEr : Hid (∀ d os, Calls Try.prog 11 #[.agg #[.slice a.x t.is.length a.c1, .slice a.y t.rs.length a.c2, .int .i64 t.now], .agg #[.slice a'.x t.is.length a'.c1, .slice a'.y t.rs.length a'.c2, .int .i64 t.now]] (grow (redrawn wr d) os) fun e w'' => e = .returned (.bool true) ∧ ∃ p : Regrown, w'' = grow (redrawn wr p.d) p.os) := fun d os => Calls.regrown_of (HE.out a a' t _ (hI.below (below_regrown wr d os)) (hI'.below (below_regrown wr d os)) hS)
      clear HE hek hek' hI hI' hS HX HL HS
      generalize a.x = ax at *
      generalize a.y = ay at *
      generalize a.c1 = ac1 at *
      generalize a.c2 = ac2 at *
      generalize t.is.length = tn1 at *
      generalize t.rs.length = tn2 at *
      generalize t.now = tw at *
      generalize a'.x = vx at *
      generalize a'.y = vy at *
      generalize a'.c1 = vc1 at *
      generalize a'.c2 = vc2 at *
      replace x0 := cell_regrown x0
      replace y0 := cell_regrown y0
      replace x1 := cell_regrown x1
      replace y1 := cell_regrown y1
      replace x2 := cell_regrown x2
      replace y2 := cell_regrown y2
      go_wp2_with fail
      refine wp_region_quiet_below (by kernel_rfl) (by kernel_rfl) ?_
      repeat (go_big_quiet_step ((go_at_call 11; exact HEr.out _ _)))
      refine wpQuiet_nil ?_
      intro w1 hw'
      obtain ⟨⟨dq, osq⟩, hw''⟩ := hw'
      have hbq := below_regrown wr dq osq
      rw [← hw''] at hbq
      clear hw'' osq dq x0 x1 x2 y0 y1 y2 HEr
      have hb2 := hb.trans (hbq.mono hb.size)
      clear hbq
      go_wp2
      go_roundw
      case rel => exact ⟨k + 1, hlt, by go_num, hb2⟩
      case measure => simp [intOf]; omega
    · obtain rfl : k = ps.length := by omega
      clear hlt hk
      go_wp2
      go_ret
      exact ⟨rfl, hb⟩
end Go.Proofs.Ytfmaeicodljgkaa
/- The laws' own Links handed in: opened. (Written by gen_flat.py.) -/
namespace Go.Proofs.Ytfmaeicodljgkaa
open Go.ChangeShapes Go.WideShapes Go.RowKit Go.Deep Go.WideElems Go.Maps Go.Joins Go.Sort

def LiW (f : Li) : Prop := (Lit.int .i64 f.la).wf = true ∧ (Lit.int .i64 f.lx).wf = true ∧ (Lit.int .i64 f.lb).wf = true ∧ (Lit.int .i64 f.ly).wf = true
theorem Try.cellsLi : Try.prog.cellsOf 106 = 4 := by kernel_rfl
theorem Try.cellsIntLi : Try.prog.cellsOf 2 = 1 := by kernel_rfl
/-- The slice (x, len) that was handed in holds them. -/
def ArgLi (w : World) (x : Option Addr) (len : Nat) (rs : List Li) : Prop := rs.length = len ∧ len ≤ maxLen ∧ (∀ e ∈ rs, LiW e) ∧ ∀ i, (h : i < rs.length) → ∃ p, x = some p ∧ w.cell? (p.add (i * 4)) = some (.int .i64 rs[i].la) ∧ w.cell? (p.add (i * 4 + 1)) = some (.int .i64 rs[i].lx) ∧ w.cell? (p.add (i * 4 + 2)) = some (.int .i64 rs[i].lb) ∧ w.cell? (p.add (i * 4 + 3)) = some (.int .i64 rs[i].ly)
theorem ArgLi.below {w w' : World} {x : Option Addr} {len : Nat} {rs : List Li} (h : ArgLi w x len rs) (hb : Below w.heap.size w w') : ArgLi w' x len rs := by
  obtain ⟨h1, h2, h3, h4⟩ := h
  refine ⟨h1, h2, h3, fun i hi => ?_⟩
  obtain ⟨p, hp, c0, c1, c2, c3⟩ := h4 i hi
  have hk : ∀ k v, w.cell? (p.add k) = some v → w'.cell? (p.add k) = some v := fun k v hv => by rw [hb.cell (World.block_lt_of_cell? w _ hv)]; exact hv
  exact ⟨p, hp, hk _ _ c0, hk _ _ c1, hk _ _ c2, hk _ _ c3⟩
theorem addr_moreLi (p : Addr) (m j : Nat) (hj : j ≠ 0) : p.add (m + j) = ⟨(p.add m).block, (p.add m).off + j, none⟩ := by
  rw [← Addr.add_add]
  generalize p.add m = q
  unfold Addr.add
  rw [if_neg hj]
theorem ArgLi.at {w : World} {x : Option Addr} {len : Nat} {rs : List Li} (h : ArgLi w x len rs) (i : Nat) (hi : i < rs.length) : ∃ p la lx lb ly, x = some p ∧ rs[i] = ⟨la, lx, lb, ly⟩ ∧ w.cell? (p.add (i * 4)) = some (.int .i64 la) ∧ w.cell? ⟨(p.add (i * 4)).block, (p.add (i * 4)).off + 1, none⟩ = some (.int .i64 lx) ∧ w.cell? ⟨(p.add (i * 4)).block, (p.add (i * 4)).off + 2, none⟩ = some (.int .i64 lb) ∧ w.cell? ⟨(p.add (i * 4)).block, (p.add (i * 4)).off + 3, none⟩ = some (.int .i64 ly) := by
  obtain ⟨p, hp, c0, c1, c2, c3⟩ := h.2.2.2 i hi
  rw [addr_moreLi _ _ _ (by omega)] at c1 c2 c3
  exact ⟨p, _, _, _, _, hp, rfl, c0, c1, c2, c3⟩
section
variable {H : Type} {enc : TypeId × Value → H} {w : World} {base : Nat} {spare : Nat → Bool} {held : Bool}
set_option maxRecDepth 100000 in
theorem open_li {fuel : Nat} {cs : List Value} {x : DataW H × List MemPlace} (h : DataW.trod enc Try.prog w base spare held fuel 106 cs = some x) : ∃ f : Li, cs = liL f ∧ LiW f := by
  obtain ⟨xs, n, _, _, hl, hx, hg⟩ := DataW.trod_struct Try.underlying106 h
  rw [Try.cellsLi] at hl
  match cs, hl, xs, hx with
  | [c0, c1, c2, c3], _, [y0, y1, y2, y3], _ =>
    have h0 : DataW.trod enc Try.prog w base spare held n 2 ((([c0, c1, c2, c3] : List Value).drop 0).take (Try.prog.cellsOf 2)) = [y0, y1, y2, y3][0]? := hg 0 _ rfl
    rw [Try.cellsIntLi] at h0
    replace h0 : DataW.trod enc Try.prog w base spare held n 2 [c0] = some y0 := h0
    obtain ⟨la, ela, _, wla⟩ := DataW.trod_int Try.underlying2 h0
    have h1 : DataW.trod enc Try.prog w base spare held n 2 ((([c0, c1, c2, c3] : List Value).drop 1).take (Try.prog.cellsOf 2)) = [y0, y1, y2, y3][1]? := hg 1 _ rfl
    rw [Try.cellsIntLi] at h1
    replace h1 : DataW.trod enc Try.prog w base spare held n 2 [c1] = some y1 := h1
    obtain ⟨lx, elx, _, wlx⟩ := DataW.trod_int Try.underlying2 h1
    have h2 : DataW.trod enc Try.prog w base spare held n 2 ((([c0, c1, c2, c3] : List Value).drop 2).take (Try.prog.cellsOf 2)) = [y0, y1, y2, y3][2]? := hg 2 _ rfl
    rw [Try.cellsIntLi] at h2
    replace h2 : DataW.trod enc Try.prog w base spare held n 2 [c2] = some y2 := h2
    obtain ⟨lb, elb, _, wlb⟩ := DataW.trod_int Try.underlying2 h2
    have h3 : DataW.trod enc Try.prog w base spare held n 2 ((([c0, c1, c2, c3] : List Value).drop 3).take (Try.prog.cellsOf 2)) = [y0, y1, y2, y3][3]? := hg 3 _ rfl
    rw [Try.cellsIntLi] at h3
    replace h3 : DataW.trod enc Try.prog w base spare held n 2 [c3] = some y3 := h3
    obtain ⟨ly, ely, _, wly⟩ := DataW.trod_int Try.underlying2 h3
    simp only [List.cons.injEq, and_true] at ela elx elb ely
    subst ela elx elb ely
    exact ⟨⟨la, lx, lb, ly⟩, rfl, wla, wlx, wlb, wly⟩
set_option maxRecDepth 100000 in
theorem open_lis {fuel : Nat} {v : Value} {x : DataW H × List MemPlace} (h : DataW.trod enc Try.prog w base spare held fuel 40 [v] = some x) : ∃ y len cap rs, v = .slice y len cap ∧ ArgLi w y len rs := by
  rcases open_slice Try.underlying40 h with ⟨h0, _⟩ | ⟨a, len, cap, m, n, D, Pl, h0, hb, hl, hm, hmm, _, hx⟩
  · simp only [List.cons.injEq, and_true] at h0
    exact ⟨none, 0, 0, [], h0, rfl, Nat.zero_le _, by simp, fun i hi => absurd hi (by simp)⟩
  · simp only [List.cons.injEq, and_true] at h0
    have hlm : len ≤ m := by rw [hmm]; split <;> omega
    have each : ∀ i, i < m → ∃ e : Li, LiW e ∧ w.cell? (a.add (i * 4)) = some (.int .i64 e.la) ∧ w.cell? (a.add (i * 4 + 1)) = some (.int .i64 e.lx) ∧ w.cell? (a.add (i * 4 + 2)) = some (.int .i64 e.lb) ∧ w.cell? (a.add (i * 4 + 3)) = some (.int .i64 e.ly) := by
      intro i hi
      obtain ⟨cs', h1, h2⟩ := hx i hi
      rw [Try.cellsLi] at h1
      obtain ⟨e, rfl, hw⟩ := open_li h2
      obtain ⟨_, _, hcell⟩ := World.cells?_some h1
      have hadd : ∀ j k, (a.add j).add k = a.add (j + k) := fun j k => by
        unfold Addr.add
        by_cases hj : j = 0
        · subst hj; by_cases hk : k = 0 <;> simp [hk]
        · by_cases hk : k = 0
          · simp [hj, hk]
          · simp [hj, hk, Nat.add_assoc]
      refine ⟨e, hw, ?_⟩
      have k0 := hcell 0 (by omega)
      have k1 := hcell 1 (by omega)
      have k2 := hcell 2 (by omega)
      have k3 := hcell 3 (by omega)
      simp only [hadd, Nat.add_zero, liL] at k0 k1 k2 k3
      exact ⟨by simpa using k0, by simpa using k1, by simpa using k2, by simpa using k3⟩
    obtain ⟨E, hE⟩ := choose_lt (α := Li) (p := fun i e => LiW e ∧ w.cell? (a.add (i * 4)) = some (.int .i64 e.la) ∧ w.cell? (a.add (i * 4 + 1)) = some (.int .i64 e.lx) ∧ w.cell? (a.add (i * 4 + 2)) = some (.int .i64 e.lb) ∧ w.cell? (a.add (i * 4 + 3)) = some (.int .i64 e.ly)) each
    refine ⟨some a, len, cap, (List.range len).map E, h0, by simp, by omega, ?_, ?_⟩
    · intro e he
      simp only [List.mem_map, List.mem_range] at he
      obtain ⟨i, hi, rfl⟩ := he
      exact (hE i (by omega)).1
    · intro i hi
      simp only [List.length_map, List.length_range] at hi
      refine ⟨a, rfl, ?_⟩
      simp only [List.getElem_map, List.getElem_range]
      exact (hE i (by omega)).2
end
end Go.Proofs.Ytfmaeicodljgkaa
/- The laws' own Links handed over. (Written by gen_flat.py.) -/
namespace Go.Proofs.Ytfmaeicodljgkaa
open Go.RowKit Go.Sort

set_option maxRecDepth 100000 in
theorem toLink_any (f : Li) (w : World) : Calls Try.prog 66 #[liV f] w fun e w' => e = .returned (liV f) ∧ Below w.heap.size w w' := by
  obtain ⟨la, lx, lb, ly⟩ := f
  unfold liV
  go_enter Try.func66, Try.ntmps66
  go_wp2
  refine bodyPost_ret (v := .agg #[.int .i64 la, .int .i64 lx, .int .i64 lb, .int .i64 ly]) (by simp [results, Try.results66, go_sem]) rfl ⟨rfl, ?_⟩
  exact (((Below.refl _ _).alloc (Nat.le_refl _) _).alloc (by simp) _).alloc (by simp; omega) _
def fourLi (w : World) (g o : Nat) (x0 x1 x2 x3 : Value) : World := ((((w.setCell ⟨g, o, none⟩ x0).setCell ⟨g, o + 1, none⟩ x1).setCell ⟨g, o + 2, none⟩ x2).setCell ⟨g, o + 3, none⟩ x3)
theorem fourLi_below {B : Nat} {w0 w : World} (h : Below B w0 w) (g o : Nat) (hg : B ≤ g) (x0 x1 x2 x3 : Value) : Below B w0 (fourLi w g o x0 x1 x2 x3) := ((((h.setCell (p := ⟨g, o, none⟩) hg x0).setCell (p := ⟨g, o + 1, none⟩) hg x1).setCell (p := ⟨g, o + 2, none⟩) hg x2).setCell (p := ⟨g, o + 3, none⟩) hg x3)
theorem fourLi_row {w : World} {g : Nat} {t : TypeId} {l : List Value} (h : Row w g t l) (o : Nat) (x0 x1 x2 x3 : Value) : Row (fourLi w g o x0 x1 x2 x3) g t ((((l.set (o) x0).set (o + 1) x1).set (o + 2) x2).set (o + 3) x3) := ((((h.set (o) x0).set (o + 1) x1).set (o + 2) x2).set (o + 3) x3)
theorem fourLi_other {w : World} {b g : Nat} {t : TypeId} {l : List Value} (h : Row w b t l) (hne : b ≠ g) (o : Nat) (x0 x1 x2 x3 : Value) : Row (fourLi w g o x0 x1 x2 x3) b t l := ((((h.other (o) x0 hne).other (o + 1) x1 hne).other (o + 2) x2 hne).other (o + 3) x3 hne)
theorem setLi (A R : List Value) (k : Nat) (hA : A.length = k * 4) (z0 z1 z2 z3 x0 x1 x2 x3 : Value) : (((((A ++ ([z0, z1, z2, z3] ++ R)).set (k * 4) x0).set (k * 4 + 1) x1).set (k * 4 + 2) x2).set (k * 4 + 3) x3) = A ++ ([x0, x1, x2, x3] ++ R) := by
  have e : ∀ (L : List Value) (j : Nat) (x : Value), (A ++ L).set (k * 4 + j) x = A ++ L.set j x := fun L j x => by
    rw [List.set_append, if_neg (by omega), hA, Nat.add_sub_cancel_left]
  have e0 : ∀ (L : List Value) (x : Value), (A ++ L).set (k * 4) x = A ++ L.set 0 x := fun L x => e L 0 x
  rw [e0, e, e, e]
  rfl
theorem Row.someLi {w : World} {g : Nat} {t : TypeId} {l : List Value} (h : Row w g t l) (k : Nat) (hk : k < l.length) : ∃ v, w.cell? ⟨g, k, none⟩ = some v := ⟨l[k], by rw [h.cell, List.getElem?_eq_getElem hk]⟩
theorem Try.infoLi : (Try.prog.info? 70).map (fun i => (i.zero, i.size, i.bytes)) = some (some (.agg #[.int .i64 0, .int .i64 0, .int .i64 0, .int .i64 0]), 4, 32) := by kernel_rfl
def zeroLi : Li := ⟨0, 0, 0, 0⟩
theorem rowLi_zero_get (n i : Nat) (h : i < n * 4) : (rowLi (List.replicate n zeroLi))[i]? = (liL zeroLi)[i % 4]? := by
  have hi : i / 4 < (List.replicate n zeroLi).length := by simp; omega
  have := rowLi_get (List.replicate n zeroLi) (i / 4) (i % 4) hi (by omega)
  rw [show i / 4 * 4 + i % 4 = i by omega] at this
  rw [this, List.getElem_replicate]
theorem made_zeroLi (n : Nat) : (madeCells (Value.agg #[.int .i64 0, .int .i64 0, .int .i64 0, .int .i64 0]).cells (n * 4)).toList = rowLi (List.replicate n zeroLi) := by
  apply List.ext_getElem?
  intro i
  by_cases h : i < n * 4
  · rw [rowLi_zero_get n i h]
    simp only [madeCells, Value.cells, Array.toList_map, List.getElem?_map]
    have h9 : i % 4 = 0 ∨ i % 4 = 1 ∨ i % 4 = 2 ∨ i % 4 = 3 := by omega
    rcases h9 with h9 | h9 | h9 | h9 <;> simp [h9, h, liL, zeroLi]
  · rw [List.getElem?_eq_none (by simp [madeCells]; omega), List.getElem?_eq_none (by rw [rowLi_length]; simp; omega)]
set_option maxRecDepth 100000 in
theorem wpList_make_lis {w : World} {ops : Array Oper} {rest : List Oper} {o : Oper} {a : Act} {Q : Exit → Act → World → Prop}
    (hgd : o.guard = none) (l c : Operand) (hop : o.op = Op.makeSlice 46 l c)
    (L : Int) (n : Nat) (hl : a.eval l = .int .i64 L) (hc : a.eval c = .int .i64 L) (hL : L = (n : Int)) (hn : n ≤ 100000000)
    (B : Nat) (w0 : World) (hb : Below B w0 w) (hB : B ≤ w.heap.size)
    (h : ∀ w', Row w' w.heap.size 70 (rowLi (List.replicate n zeroLi)) → Below B w0 w' → wpList Try.prog ops Q rest (a.put o.dst (.slice (some ⟨w.heap.size, 0, none⟩) n n)) w') : wpList Try.prog ops Q (o :: rest) a w := by
  obtain ⟨i0, hi0, hz0, hz1, hz2⟩ := info_parts Try.infoLi
  refine wpList_make_full w hgd l c 46 hop B 70 i0 _ 4 Try.underlying46 hi0 hz0 hz1 .i64 .i64 L L n hl hc hL hL (by rw [hz2]; omega) (by unfold maxLen; omega) hB ?_
  intro w' hown hgrow
  rcases hown.2 with ⟨h', _⟩ | ⟨g, cap, cur, h', hbg, hg, hnc, hcm, hcs, htake⟩
  · simp at h'
  · simp only [Value.slice.injEq, Option.some.injEq, Addr.mk.injEq, and_true, true_and] at h'
    obtain ⟨rfl, rfl⟩ := h'
    refine h w' ?_ (hb.trans ((Below.refl B w).grown hgrow hB (by intro k hk; cases hk)))
    unfold Row
    rw [hg, ← made_zeroLi, ← htake, List.take_of_length_le (by simp [hcs])]
theorem rowLi_set (es : List Li) (k : Nat) (hk : k < es.length) (la : Int) (lx : Int) (lb : Int) (ly : Int) (he : es[k] = ⟨la, lx, lb, ly⟩) :
    (((((rowLi (es.take k ++ List.replicate (es.length - k) zeroLi)).set (k * 4) (.int .i64 la)).set (k * 4 + 1) (.int .i64 lx)).set (k * 4 + 2) (.int .i64 lb)).set (k * 4 + 3) (.int .i64 ly)) = rowLi (es.take (k + 1) ++ List.replicate (es.length - (k + 1)) zeroLi) := by
  have e1 : es.length - k = (es.length - (k + 1)) + 1 := by omega
  rw [e1, List.replicate_succ, rowLi_append, rowLi_cons, List.take_succ_eq_append_getElem hk, List.append_assoc, rowLi_append, List.singleton_append, rowLi_cons, he]
  exact setLi _ _ k (by rw [rowLi_length, List.length_take]; omega) _ _ _ _ _ _ _ _
set_option maxRecDepth 100000 in
theorem toLinkS_any (x : Option Addr) (cap : Nat) (es : List Li) (w : World) (h : ArgLi w x es.length es) (hn : es.length ≤ 1048576) :
    Calls Try.prog 38 #[.slice x es.length cap] w fun e w' => ∃ g, e = .returned (.slice (some ⟨g, 0, none⟩) es.length es.length) ∧ w.heap.size ≤ g ∧ Row w' g 70 (rowLi es) ∧ Below w.heap.size w w' := by
  have HE : Hid (∀ e w, Calls Try.prog 66 #[liV e] w fun r w' => r = .returned (liV e) ∧ Below w.heap.size w w') := toLink_any
  have HX : Hid (ArgLi w x es.length es) := h
  clear h
  go_enter Try.func38, Try.ntmps38
  go_wp2_with (at_make; refine wpList_make_lis rfl _ _ rfl _ es.length rfl rfl rfl (by omega) w.heap.size w (Below.refl _ _) (Nat.le_refl _) ?_)
  intro w0 hr0 hb0
  have hz : es.take 0 ++ List.replicate (es.length - 0) zeroLi = List.replicate es.length zeroLi := by simp
  rw [← hz] at hr0
  clear hz
  go_wp2_with fail
  go_loopw [4] (fun i wr => ∃ k : Nat, k ≤ es.length ∧ i = .int .i64 k ∧ Row wr w.heap.size 70 (rowLi (es.take k ++ List.replicate (es.length - k) zeroLi)) ∧ Below w.heap.size w wr) (fun i _ => es.length - (intOf i).toNat)
  case atStart => exact ⟨0, Nat.zero_le _, rfl, hr0, hb0⟩
  case round =>
    obtain ⟨k, hk, rfl, hr, hb⟩ := hrel
    by_cases hlt : k < es.length
    · obtain ⟨p, la, lx, lb, ly, rfl, hek, c0, c1, c2, c3⟩ := (HX.out.below hb).at k hlt
      have HEk : Hid (∀ w, Calls Try.prog 66 #[.agg #[.int .i64 la, .int .i64 lx, .int .i64 lb, .int .i64 ly]] w fun r w' => r = .returned (.agg #[.int .i64 la, .int .i64 lx, .int .i64 lb, .int .i64 ly]) ∧ Below w.heap.size w w') := HE.out ⟨la, lx, lb, ly⟩
      have hset := rowLi_set es k hlt la lx lb ly hek
      have HS : Hid _ := hset
      clear hset HE hek hr0 hb0
      go_wp2_with fail
      refine (HEk.out _).mono ?_
      rintro e w1 ⟨rfl, hb1⟩
      have hr1 := hr.below hb1 hr.lt
      have hB1 := hb.trans (hb1.mono hb.size)
      clear c0 c1 c2 c3 hb1 HEk hr hb
      have hlr : (rowLi (es.take k ++ List.replicate (es.length - k) zeroLi)).length = es.length * 4 := by rw [rowLi_length]; simp; omega
      obtain ⟨z0, hz0⟩ := Row.someLi hr1 (k * 4) (by omega)
      obtain ⟨z1, hz1⟩ := Row.someLi hr1 (k * 4 + 1) (by omega)
      obtain ⟨z2, hz2⟩ := Row.someLi hr1 (k * 4 + 2) (by omega)
      obtain ⟨z3, hz3⟩ := Row.someLi hr1 (k * 4 + 3) (by omega)
      have f0 := hr1.frozen (k * 4)
      have f1 := hr1.frozen (k * 4 + 1)
      have f2 := hr1.frozen (k * 4 + 2)
      have f3 := hr1.frozen (k * 4 + 3)
      have hr2 := fourLi_row hr1 (k * 4) (.int .i64 la) (.int .i64 lx) (.int .i64 lb) (.int .i64 ly)
      rw [HS.out] at hr2
      have hB2 := fourLi_below hB1 w.heap.size (k * 4) (Nat.le_refl _) (.int .i64 la) (.int .i64 lx) (.int .i64 lb) (.int .i64 ly)
      unfold fourLi at hr2 hB2
      have HH : Hid _ := And.intro hr2 hB2
      clear hr1 hB1 HS hlr hr2 hB2
      go_wp2_with fail
      go_roundw
      case rel => exact ⟨k + 1, hlt, by go_num, HH.out.1, HH.out.2⟩
      case measure => simp [intOf]; omega
    · obtain rfl : k = es.length := by omega
      rw [List.take_length, Nat.sub_self, List.replicate_zero, List.append_nil] at hr
      clear hlt hk
      go_wp2
      go_ret
      exact ⟨_, rfl, Nat.le_refl _, hr, hb⟩
set_option maxRecDepth 100000 in
theorem szLinkS_any (x : Option Addr) (len cap : Nat) (L : Int) (w : World) (hl : len ≤ maxLen) (h0 : 0 ≤ L) (h1 : L ≤ 1048576) : Calls Try.prog 34 #[.slice x len cap, .int .i64 L] w fun e w' => e = .returned (.int .i64 (if (len : Int) ≤ L then L - (len : Int) else -1)) ∧ w = w' := by
  unfold maxLen at hl
  have z : IntKind.i64.wrap (L - (len : Int)) = L - (len : Int) := wrap_i64_in _ (by omega) (by omega)
  by_cases h : (len : Int) ≤ L
  · rw [if_pos h]
    have d : decide (L - (len : Int) < 0) = false := by simp; omega
    go_enter Try.func34, Try.ntmps34
    go_wp2
    go_ret
    exact ⟨rfl, rfl⟩
  · rw [if_neg h]
    have d : decide (L - (len : Int) < 0) = true := by simp; omega
    go_enter Try.func34, Try.ntmps34
    go_wp2
    go_ret
    exact ⟨rfl, rfl⟩
end Go.Proofs.Ytfmaeicodljgkaa
/- A Mesh: its value; measured, handed over, alike. (Written by gen_mesha.py.) -/
namespace Go.Proofs.Ytfmaeicodljgkaa
open Go.RowKit Go.Sort

theorem box2m {w w1 : World} {x0 x1 : Value} {t : TypeId} (h : Below (w.alloc (.cells #[x0, x1] t)).heap.size (w.alloc (.cells #[x0, x1] t)) w1) :
    Row w1 w.heap.size t [x0, x1] ∧ Below w.heap.size w w1 := by
  have q := Row.new w t [x0, x1]
  exact ⟨q.below h q.lt, (ent_new0 w _).trans (h.mono (by simp))⟩
set_option maxRecDepth 100000 in
set_option maxHeartbeats 4000000 in
theorem szMesh_any (p : Option Addr) (c1 : Nat) (q : Option Addr) (c2 : Nat) (ps : List IvP) (ls : List Li) (L : Int) (w : World) (h : ArgIvs w p ps.length ps ∧ ArgLi w q ls.length ls) (h0 : 0 ≤ L) (hL : L ≤ 1048576) :
    Calls Try.prog 12 #[.agg #[.slice p ps.length c1, .slice q ls.length c2], .int .i64 L] w fun e w' => (∃ v : Int, e = .returned (.int .i64 v) ∧ v ≤ L ∧ (v < 0 ∨ 0 ≤ v ∧ ps.length ≤ 1048576 ∧ ls.length ≤ 1048576 ∧ ∀ e ∈ ps, IvS e.2)) ∧ Below w.heap.size w w' := by
  have HA : Hid (∀ w1, Below w.heap.size w w1 → Calls Try.prog 33 #[.slice p ps.length c1, .int .i64 L] w1 fun e w' => (∃ v : Int, e = .returned (.int .i64 v) ∧ v ≤ L ∧ (v < 0 ∨ 0 ≤ v ∧ ps.length ≤ 1048576 ∧ ∀ e ∈ ps, IvS e.2)) ∧ Below w1.heap.size w1 w') := fun w1 hb => szInstS_any p c1 ps L w1 (h.1.below hb) h0 hL
  have HC : Hid (∀ L : Int, 0 ≤ L → L ≤ 1048576 → ∀ w, Calls Try.prog 34 #[.slice q ls.length c2, .int .i64 L] w fun e w' => e = .returned (.int .i64 (if (ls.length : Int) ≤ L then L - (ls.length : Int) else -1)) ∧ w = w') := fun L a b w => szLinkS_any q ls.length c2 L w h.2.2.1 a b
  clear h
  generalize ps.length = n1 at *
  generalize ls.length = n2 at *
  go_enter Try.func12, Try.ntmps12
  go_wp2_with fail
  refine (HA.out _ (ent_new0 w _)).mono ?_
  rintro e w1 ⟨⟨v1, rfl, hv1, hc1⟩, hb1⟩
  obtain ⟨r0, hB⟩ := box2m hb1
  clear hb1 HA
  rcases hc1 with hc1 | ⟨g1, m1, m2⟩
  · have d1 : decide (v1 < 0) = true := by simpa using hc1
    clear hc1
    go_wp2
    go_ret
    exact ⟨⟨_, rfl, by omega, .inl (by omega)⟩, hB⟩
  have d1 : decide (v1 < 0) = false := by simp; omega
  have y1 : w1.cell? ⟨w.heap.size, 1, none⟩ = some (.slice q n2 c2) := r0.cell 1
  go_wp2_with fail
  refine (HC.out v1 (by omega) (by omega) _).mono ?_
  rintro e w2 ⟨rfl, rfl⟩
  clear y1
  by_cases k2 : (n2 : Int) ≤ v1
  case neg =>
    rw [if_neg k2]
    go_wp2
    go_ret
    exact ⟨⟨_, rfl, by omega, .inl (by omega)⟩, hB⟩
  rw [if_pos k2]
  have d2 : decide (v1 - (n2 : Int) < 0) = false := by simp; omega
  go_wp2
  go_ret
  exact ⟨⟨_, rfl, by omega, .inr ⟨by omega, m1, by omega, m2⟩⟩, hB⟩
set_option maxRecDepth 100000 in
set_option maxHeartbeats 4000000 in
theorem toMesh_any (p : Option Addr) (c1 : Nat) (q : Option Addr) (c2 : Nat) (ps : List IvP) (ls : List Li) (w : World) (h : ArgIvs w p ps.length ps ∧ ArgLi w q ls.length ls) (hn : ps.length ≤ 1048576 ∧ ls.length ≤ 1048576 ∧ ∀ e ∈ ps, IvS e.2) :
    Calls Try.prog 14 #[.agg #[.slice p ps.length c1, .slice q ls.length c2]] w fun e w' => ∃ (g : Nat) (qs : List IvP) (h : Nat), e = .returned (.agg #[.slice (some ⟨g, 0, none⟩) ps.length ps.length, .slice (some ⟨h, 0, none⟩) ls.length ls.length]) ∧ w.heap.size ≤ g ∧ w.heap.size ≤ h ∧ qs.map (·.2) = ps.map (·.2) ∧ Row w' g 35 (rowIv qs) ∧ (∀ e ∈ qs, PlIv w' (g + 1) e.1 e.2) ∧ Row w' h 70 (rowLi ls) ∧ Below w.heap.size w w' := by
  have HI : Hid (∀ w, ArgIvs w p ps.length ps → Calls Try.prog 37 #[.slice p ps.length c1] w fun e w' => ∃ (g : Nat) (qs : List IvP), e = .returned (.slice (some ⟨g, 0, none⟩) ps.length ps.length) ∧ w.heap.size ≤ g ∧ qs.map (·.2) = ps.map (·.2) ∧ Row w' g 35 (rowIv qs) ∧ (∀ e ∈ qs, PlIv w' (g + 1) e.1 e.2) ∧ Below w.heap.size w w') := fun w h => toInstS_any p c1 ps w h hn.1 hn.2.2
  have HS : Hid (∀ w, ArgLi w q ls.length ls → Calls Try.prog 38 #[.slice q ls.length c2] w fun e w' => ∃ g, e = .returned (.slice (some ⟨g, 0, none⟩) ls.length ls.length) ∧ w.heap.size ≤ g ∧ Row w' g 70 (rowLi ls) ∧ Below w.heap.size w w') := fun w h => toLinkS_any q c2 ls w h hn.2.1
  have HX : Hid (ArgIvs w p ps.length ps ∧ ArgLi w q ls.length ls) := h
  clear h hn
  generalize ps.length = n1 at *
  generalize ls.length = n2 at *
  obtain ⟨W, hW, q0, q1, q2, hB, hS⟩ := three_new w [.slice p n1 c1, .slice q n2 c2] [.slice none 0 0, .slice none 0 0] [.slice none 0 0, .slice none 0 0] 42 48 48
  have HW : Hid _ := hW
  have HQ : Hid _ := And.intro q0 (And.intro q1 (And.intro q2 (And.intro hB hS)))
  clear hW q0 q1 q2 hB hS
  go_enter Try.func14, Try.ntmps14
  go_wp2_with fail
  rw [← HW.out]
  obtain ⟨q0, q1, q2, hB, hS⟩ := HQ.out
  refine (HI.out _ (HX.out.1.below hB)).mono ?_
  rintro e w1 ⟨g, qs, rfl, hg, hqm, rg, hp, hb1⟩
  have q0 := q0.below hb1 q0.lt
  have q1 := q1.below hb1 q1.lt
  have q2 := q2.below hb1 q2.lt
  have hB := hB.trans (hb1.mono hB.size)
  have hs := hb1.size
  clear hb1
  clear HI HW HQ
  have x1 : w1.cell? ⟨w.heap.size, 1, none⟩ = some (.slice q n2 c2) := q0.cell 1
  have a0 : w1.cell? ⟨(w.heap.size + 1 + 1), 0, none⟩ = some (.slice none 0 0) := q2.cell 0
  have f0 : w1.frozen? ⟨(w.heap.size + 1 + 1), 0, none⟩ = false := q2.frozen 0
  have ng : g ≠ (w.heap.size + 1 + 1) := by omega
  have HE : Hid (Row (w1.setCell ⟨(w.heap.size + 1 + 1), 0, none⟩ (.slice (some ⟨g, 0, none⟩) n1 n1)) w.heap.size 42 [.slice p n1 c1, .slice q n2 c2] ∧ Row (w1.setCell ⟨(w.heap.size + 1 + 1), 0, none⟩ (.slice (some ⟨g, 0, none⟩) n1 n1)) (w.heap.size + 1) 48 [.slice none 0 0, .slice none 0 0] ∧ Row (w1.setCell ⟨(w.heap.size + 1 + 1), 0, none⟩ (.slice (some ⟨g, 0, none⟩) n1 n1)) (w.heap.size + 1 + 1) 48 [.slice (some ⟨g, 0, none⟩) n1 n1, .slice none 0 0] ∧ Row (w1.setCell ⟨(w.heap.size + 1 + 1), 0, none⟩ (.slice (some ⟨g, 0, none⟩) n1 n1)) g 35 (rowIv qs) ∧ (∀ e ∈ qs, PlIv (w1.setCell ⟨(w.heap.size + 1 + 1), 0, none⟩ (.slice (some ⟨g, 0, none⟩) n1 n1)) (g + 1) e.1 e.2) ∧ Below w.heap.size w (w1.setCell ⟨(w.heap.size + 1 + 1), 0, none⟩ (.slice (some ⟨g, 0, none⟩) n1 n1)) ∧ (w1.setCell ⟨(w.heap.size + 1 + 1), 0, none⟩ (.slice (some ⟨g, 0, none⟩) n1 n1)).heap.size = w1.heap.size) := ⟨(q0).other 0 (.slice (some ⟨g, 0, none⟩) n1 n1) (by omega), (q1).other 0 (.slice (some ⟨g, 0, none⟩) n1 n1) (by omega), (q2).set 0 (.slice (some ⟨g, 0, none⟩) n1 n1), (rg).other 0 (.slice (some ⟨g, 0, none⟩) n1 n1) ng, fun e he => (hp e he).kept (w' := _) (b := (w.heap.size + 1 + 1)) (by omega) (fun b_ t_ l_ hne hr => hr.other 0 (.slice (some ⟨g, 0, none⟩) n1 n1) hne), (hB.setCell (p := ⟨(w.heap.size + 1 + 1), 0, none⟩) (by show w.heap.size ≤ (w.heap.size + 1 + 1); omega) (.slice (some ⟨g, 0, none⟩) n1 n1)), by simp⟩
  clear q0 q1 q2 hB hp rg
  go_wp2_with fail
  generalize (w1.setCell ⟨(w.heap.size + 1 + 1), 0, none⟩ (.slice (some ⟨g, 0, none⟩) n1 n1)) = W1 at *
  obtain ⟨q0, q1, q2, rg, hp, hB, hS⟩ := HE.out
  clear HE a0 f0 ng
  refine (HS.out _ (HX.out.2.below hB)).mono ?_
  rintro e w3 ⟨h, rfl, hh, rh, hb2⟩
  have q0 := q0.below hb2 q0.lt
  have q1 := q1.below hb2 q1.lt
  have q2 := q2.below hb2 q2.lt
  have rg := rg.below hb2 rg.lt
  have hp := fun e he => (hp e he).below hb2
  have hB := hB.trans (hb2.mono hB.size)
  have hs := hb2.size
  clear hb2
  clear HS HX x1
  have a0 : w3.cell? ⟨(w.heap.size + 1 + 1), 0, none⟩ = some (.slice (some ⟨g, 0, none⟩) n1 n1) := q2.cell 0
  have a1 : w3.cell? ⟨(w.heap.size + 1 + 1), 1, none⟩ = some (.slice none 0 0) := q2.cell 1
  have f1 : w3.frozen? ⟨(w.heap.size + 1 + 1), 1, none⟩ = false := q2.frozen 1
  have b0 : w3.cell? ⟨(w.heap.size + 1), 0, none⟩ = some (.slice none 0 0) := q1.cell 0
  have b1 : w3.cell? ⟨(w.heap.size + 1), 1, none⟩ = some (.slice none 0 0) := q1.cell 1
  have e0 : w3.frozen? ⟨(w.heap.size + 1), 0, none⟩ = false := q1.frozen 0
  have e1 : w3.frozen? ⟨(w.heap.size + 1), 1, none⟩ = false := q1.frozen 1
  have ng2 : g ≠ (w.heap.size + 1 + 1) := by omega
  have nh2 : h ≠ (w.heap.size + 1 + 1) := by omega
  have ng1 : g ≠ (w.heap.size + 1) := by omega
  have nh1 : h ≠ (w.heap.size + 1) := by omega
  have n12 : (w.heap.size + 1) ≠ (w.heap.size + 1 + 1) := by omega
  have HF : Hid (Row (((w3.setCell ⟨(w.heap.size + 1 + 1), 1, none⟩ (.slice (some ⟨h, 0, none⟩) n2 n2)).setCell ⟨(w.heap.size + 1), 0, none⟩ (.slice (some ⟨g, 0, none⟩) n1 n1)).setCell ⟨(w.heap.size + 1), 1, none⟩ (.slice (some ⟨h, 0, none⟩) n2 n2)) (w.heap.size + 1) 48 [.slice (some ⟨g, 0, none⟩) n1 n1, .slice (some ⟨h, 0, none⟩) n2 n2] ∧ Row (((w3.setCell ⟨(w.heap.size + 1 + 1), 1, none⟩ (.slice (some ⟨h, 0, none⟩) n2 n2)).setCell ⟨(w.heap.size + 1), 0, none⟩ (.slice (some ⟨g, 0, none⟩) n1 n1)).setCell ⟨(w.heap.size + 1), 1, none⟩ (.slice (some ⟨h, 0, none⟩) n2 n2)) g 35 (rowIv qs) ∧ Row (((w3.setCell ⟨(w.heap.size + 1 + 1), 1, none⟩ (.slice (some ⟨h, 0, none⟩) n2 n2)).setCell ⟨(w.heap.size + 1), 0, none⟩ (.slice (some ⟨g, 0, none⟩) n1 n1)).setCell ⟨(w.heap.size + 1), 1, none⟩ (.slice (some ⟨h, 0, none⟩) n2 n2)) h 70 (rowLi ls) ∧ (∀ e ∈ qs, PlIv (((w3.setCell ⟨(w.heap.size + 1 + 1), 1, none⟩ (.slice (some ⟨h, 0, none⟩) n2 n2)).setCell ⟨(w.heap.size + 1), 0, none⟩ (.slice (some ⟨g, 0, none⟩) n1 n1)).setCell ⟨(w.heap.size + 1), 1, none⟩ (.slice (some ⟨h, 0, none⟩) n2 n2)) (g + 1) e.1 e.2) ∧ Below w.heap.size w (((w3.setCell ⟨(w.heap.size + 1 + 1), 1, none⟩ (.slice (some ⟨h, 0, none⟩) n2 n2)).setCell ⟨(w.heap.size + 1), 0, none⟩ (.slice (some ⟨g, 0, none⟩) n1 n1)).setCell ⟨(w.heap.size + 1), 1, none⟩ (.slice (some ⟨h, 0, none⟩) n2 n2))) := ⟨(((q1).other 1 (.slice (some ⟨h, 0, none⟩) n2 n2) n12).set 0 (.slice (some ⟨g, 0, none⟩) n1 n1)).set 1 (.slice (some ⟨h, 0, none⟩) n2 n2), (((rg).other 1 (.slice (some ⟨h, 0, none⟩) n2 n2) ng2).other 0 (.slice (some ⟨g, 0, none⟩) n1 n1) ng1).other 1 (.slice (some ⟨h, 0, none⟩) n2 n2) ng1, (((rh).other 1 (.slice (some ⟨h, 0, none⟩) n2 n2) nh2).other 0 (.slice (some ⟨g, 0, none⟩) n1 n1) nh1).other 1 (.slice (some ⟨h, 0, none⟩) n2 n2) nh1, fun e he => (((hp e he).kept (b := (w.heap.size + 1 + 1)) (by omega) (fun b_ t_ l_ hne hr => hr.other 1 (.slice (some ⟨h, 0, none⟩) n2 n2) hne)).kept (b := (w.heap.size + 1)) (by omega) (fun b_ t_ l_ hne hr => hr.other 0 (.slice (some ⟨g, 0, none⟩) n1 n1) hne)).kept (b := (w.heap.size + 1)) (by omega) (fun b_ t_ l_ hne hr => hr.other 1 (.slice (some ⟨h, 0, none⟩) n2 n2) hne), (((hB.setCell (p := ⟨(w.heap.size + 1 + 1), 1, none⟩) (by show w.heap.size ≤ (w.heap.size + 1 + 1); omega) (.slice (some ⟨h, 0, none⟩) n2 n2)).setCell (p := ⟨(w.heap.size + 1), 0, none⟩) (by show w.heap.size ≤ (w.heap.size + 1); omega) (.slice (some ⟨g, 0, none⟩) n1 n1)).setCell (p := ⟨(w.heap.size + 1), 1, none⟩) (by show w.heap.size ≤ (w.heap.size + 1); omega) (.slice (some ⟨h, 0, none⟩) n2 n2))⟩
  clear q0 q1 q2 rg rh hB hp
  go_wp2_with fail
  have hF := HF.out
  clear HF a0 b0 e0 a1 b1 e1 f1
  generalize (((w3.setCell ⟨(w.heap.size + 1 + 1), 1, none⟩ (.slice (some ⟨h, 0, none⟩) n2 n2)).setCell ⟨(w.heap.size + 1), 0, none⟩ (.slice (some ⟨g, 0, none⟩) n1 n1)).setCell ⟨(w.heap.size + 1), 1, none⟩ (.slice (some ⟨h, 0, none⟩) n2 n2)) = Y at *
  obtain ⟨k1, k2, k3, k5, k6⟩ := hF
  have e0 : Y.cell? ⟨(w.heap.size + 1), 0, none⟩ = some (.slice (some ⟨g, 0, none⟩) n1 n1) := k1.cell 0
  have e1 : Y.cell? ⟨(w.heap.size + 1), 1, none⟩ = some (.slice (some ⟨h, 0, none⟩) n2 n2) := k1.cell 1
  exact bodyPost_ret (v := .agg #[.slice (some ⟨g, 0, none⟩) n1 n1, .slice (some ⟨h, 0, none⟩) n2 n2]) (by simp [results, Try.results14, go_sem, e0, e1]) rfl ⟨g, qs, h, rfl, by omega, by omega, hqm, k2, k5, k3, k6⟩
set_option maxRecDepth 100000 in
set_option maxHeartbeats 4000000 in
theorem eqMesh_any (p0 : Option Addr) (a1 : Nat) (q0 : Option Addr) (a2 : Nat) (p1 : Option Addr) (b1 : Nat) (q1 : Option Addr) (b2 : Nat) (ps qs : List IvP) (ls : List Li) (w : World) (h : (IvsIn w p0 ps ∧ LisIn w q0 ls) ∧ (IvsIn w p1 qs ∧ LisIn w q1 ls)) (hpq : ps.map (·.2) = qs.map (·.2)) (hn : ps.length ≤ 1048576 ∧ ls.length ≤ 1048576 ∧ ∀ e ∈ ps, IvS e.2) :
    Calls Try.prog 16 #[.agg #[.slice p0 ps.length a1, .slice q0 ls.length a2], .agg #[.slice p1 ps.length b1, .slice q1 ls.length b2]] w fun e w' => e = .returned (.bool true) ∧ Below w.heap.size w w' := by
  have HI : Hid (∀ w, IvsIn w p0 ps → IvsIn w p1 qs → Calls Try.prog 41 #[.slice p0 ps.length a1, .slice p1 ps.length b1] w fun e w' => e = .returned (.bool true) ∧ Below w.heap.size w w') := fun w a b => eqInstS_any p0 p1 a1 b1 ps qs w a b hpq (by omega) (fun e he => by have := hn.2.2 e he; unfold IvS at this; omega)
  have HS : Hid (∀ w, LisIn w q0 ls → LisIn w q1 ls → Calls Try.prog 42 #[.slice q0 ls.length a2, .slice q1 ls.length b2] w fun e w' => e = .returned (.bool true) ∧ Below w.heap.size w w') := fun w a b => eqLinkS_any q0 q1 a2 b2 ls w a b (by omega)
  have HX : Hid ((IvsIn w p0 ps ∧ LisIn w q0 ls) ∧ (IvsIn w p1 qs ∧ LisIn w q1 ls)) := h
  clear h hn hpq
  generalize ps.length = n1 at *
  generalize ls.length = n2 at *
  have k0 := (Row.new w 48 [.slice p0 n1 a1, .slice q0 n2 a2]).alloc (.cells #[.slice p1 n1 b1, .slice q1 n2 b2] 48)
  have k1 := Row.new (w.alloc (.cells #[.slice p0 n1 a1, .slice q0 n2 a2] 48)) 48 [.slice p1 n1 b1, .slice q1 n2 b2]
  rw [show (w.alloc (.cells #[.slice p0 n1 a1, .slice q0 n2 a2] 48)).heap.size = w.heap.size + 1 by simp] at k1
  have hB : Below w.heap.size w ((w.alloc (.cells #[.slice p0 n1 a1, .slice q0 n2 a2] 48)).alloc (.cells #[.slice p1 n1 b1, .slice q1 n2 b2] 48)) := (ent_new0 w _).alloc (by simp) _
  have HQ : Hid _ := And.intro k0 (And.intro k1 hB)
  clear k0 k1 hB
  go_enter Try.func16, Try.ntmps16
  go_wp2_with fail
  obtain ⟨k0, k1, hB⟩ := HQ.out
  clear HQ
  refine (HI.out _ (HX.out.1.1.below hB) (HX.out.2.1.below hB)).mono ?_
  rintro e w1 ⟨rfl, hb1⟩
  have k0 := k0.below hb1 k0.lt
  have k1 := k1.below hb1 k1.lt
  have hB := hB.trans (hb1.mono hB.size)
  clear hb1
  have s0 : w1.cell? ⟨w.heap.size, 0, none⟩ = some (.slice p0 n1 a1) := k0.cell 0
  have s1 : w1.cell? ⟨w.heap.size, 1, none⟩ = some (.slice q0 n2 a2) := k0.cell 1
  have t0 : w1.cell? ⟨w.heap.size + 1, 0, none⟩ = some (.slice p1 n1 b1) := k1.cell 0
  have t1 : w1.cell? ⟨w.heap.size + 1, 1, none⟩ = some (.slice q1 n2 b2) := k1.cell 1
  go_wp2_with fail
  clear s0 s1 t0 t1
  refine (HS.out _ (HX.out.1.2.below hB) (HX.out.2.2.below hB)).mono ?_
  rintro e w2 ⟨rfl, hb2⟩
  have k0 := k0.below hb2 k0.lt
  have k1 := k1.below hb2 k1.lt
  have hB := hB.trans (hb2.mono hB.size)
  clear hb2
  go_wp2
  go_ret
  exact ⟨rfl, hB⟩
end Go.Proofs.Ytfmaeicodljgkaa
/- The laws' own Meshes handed in: opened. (Written by gen_mesha.py.) -/
namespace Go.Proofs.Ytfmaeicodljgkaa
open Go.ChangeShapes Go.WideShapes Go.RowKit Go.Sort Go.Deep Go.Joins Go.WideElems Go.Maps

theorem Try.cellsMesh : Try.prog.cellsOf 42 = 2 := by kernel_rfl
theorem Try.cellsMeshR : Try.prog.cellsOf 39 = 1 := by kernel_rfl
theorem Try.cellsMeshL : Try.prog.cellsOf 40 = 1 := by kernel_rfl
/-- The Mesh that was handed in: its lists, each opened. -/
def ArgM (w : World) (p : Option Addr) (ps : List IvP) (q : Option Addr) (ls : List Li) : Prop := ArgIvs w p ps.length ps ∧ ArgLi w q ls.length ls
theorem ArgM.below {w w' : World} {p : Option Addr} {ps : List IvP} {q : Option Addr} {ls : List Li} (h : ArgM w p ps q ls) (hb : Below w.heap.size w w') : ArgM w' p ps q ls := ⟨h.1.below hb, h.2.below hb⟩
def meshV (p : Option Addr) (c1 : Nat) (q : Option Addr) (c2 : Nat) (ps : List IvP) (ls : List Li) : Value := .agg #[.slice p ps.length c1, .slice q ls.length c2]
section
variable {H : Type} {enc : TypeId × Value → H} {w : World} {base : Nat} {spare : Nat → Bool} {held : Bool}
set_option maxRecDepth 100000 in
set_option maxHeartbeats 4000000 in
theorem open_meshV {r_ : Reach} {b0 : Nat} {v : Value} {d : DataW H} {pp : List MemPlace} (hv : Value.okWide Try.prog w r_ b0 42 v) (h : DataW.Trod enc Try.prog w base spare held 42 v d pp) :
    ∃ p c1 q c2 ps ls, v = meshV p c1 q c2 ps ls ∧ ArgM w p ps q ls := by
  obtain ⟨cs, rfl, hsz⟩ := okWide_struct Try.underlying42 hv
  rw [Try.cellsMesh] at hsz
  obtain ⟨li⟩ := cs
  obtain ⟨fuel, hf⟩ := h
  obtain ⟨xs, n, _, _, hl, hx, hg⟩ := DataW.trod_struct Try.underlying42 hf
  match li, hsz, xs, hx with
  | [c0, c1], _, [y0, y1], _ =>
    have h0 : DataW.trod enc Try.prog w base spare held n 39 ((([c0, c1] : List Value).drop 0).take (Try.prog.cellsOf 39)) = [y0, y1][0]? := hg 0 _ rfl
    rw [Try.cellsMeshR] at h0
    replace h0 : DataW.trod enc Try.prog w base spare held n 39 [c0] = some y0 := h0
    have h1 : DataW.trod enc Try.prog w base spare held n 40 ((([c0, c1] : List Value).drop 1).take (Try.prog.cellsOf 40)) = [y0, y1][1]? := hg 1 _ rfl
    rw [Try.cellsMeshL] at h1
    replace h1 : DataW.trod enc Try.prog w base spare held n 40 [c1] = some y1 := h1
    obtain ⟨p, n1, k1, ps, rfl, hT⟩ := open_ivs h0
    obtain ⟨q, n2, k2, ls, rfl, hB⟩ := open_lis h1
    obtain rfl : ps.length = n1 := hT.1
    obtain rfl : ls.length = n2 := hB.1
    exact ⟨p, k1, q, k2, ps, ls, rfl, ⟨hT, hB⟩⟩
end
end Go.Proofs.Ytfmaeicodljgkaa
