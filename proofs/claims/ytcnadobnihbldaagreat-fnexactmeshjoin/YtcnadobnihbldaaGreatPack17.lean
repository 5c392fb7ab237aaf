/- Texts that stand on each other, in one file: ToInst2, MkIv, AppI, AppS, UnlikeI, IfacesI, IfacesS, RibR, InstR. -/
import Derived.Test.YtcnadobnihbldaaGreatPack16
import Derived.Lib.QuietBelow
import Derived.BigQuiet
import Derived.Test.YtcnadobnihbldaaGreatPack11
/- An Inst handed over: its lists are new. (Written by gen_iout.py.) -/
namespace Go.Proofs.YtcnadobnihbldaaGreat
open Go.RowKit Go.Sort

set_option maxRecDepth 100000 in
set_option maxHeartbeats 4000000 in
theorem toInst_new (x : Option Addr) (c1 : Nat) (y : Option Addr) (c2 : Nat) (is : List If) (rs : List Rt) (now : Int) (w : World) (h1 : ArgI w x is.length is) (h2 : ArgR w y rs.length rs) (hn1 : is.length ≤ 1048576) (hn2 : rs.length ≤ 1048576) :
    Calls Tryz.prog 73 #[instV x is.length c1 y rs.length c2 now] w fun e w' => ∃ g h, e = .returned (instV (some ⟨g, 0, none⟩) is.length is.length (some ⟨h, 0, none⟩) rs.length rs.length now) ∧ w.heap.size ≤ g ∧ w.heap.size ≤ h ∧ Row w' g 53 (rowI is) ∧ Row w' h 155 (rowR rs) ∧ Below w.heap.size w w' := by
  have HI : Hid (∀ w, ArgI w x is.length is → Calls Tryz.prog 113 #[.slice x is.length c1] w fun e w' => ∃ g, e = .returned (.slice (some ⟨g, 0, none⟩) is.length is.length) ∧ w.heap.size ≤ g ∧ Row w' g 53 (rowI is) ∧ Below w.heap.size w w') := fun w h => toIfaceS_any x c1 is w h hn1
  have HR : Hid (∀ w, ArgR w y rs.length rs → Calls Tryz.prog 114 #[.agg #[.slice y rs.length c2]] w fun e w' => ∃ g, e = .returned (.agg #[.slice (some ⟨g, 0, none⟩) rs.length rs.length]) ∧ w.heap.size ≤ g ∧ Row w' g 155 (rowR rs) ∧ Below w.heap.size w w') := fun w h => toRib_any y c2 rs w h hn2
  have HX : Hid (ArgI w x is.length is ∧ ArgR w y rs.length rs) := ⟨h1, h2⟩
  clear h1 h2 hn1 hn2
  unfold instV
  generalize is.length = n1 at *
  generalize rs.length = n2 at *
  obtain ⟨W, hW, q0, q1, q2, hB, hS⟩ := three_new w [.slice x n1 c1, .slice y n2 c2, .int .i64 now] [.slice none 0 0, .slice none 0 0, .int .i64 0] [.slice none 0 0, .slice none 0 0, .int .i64 0] 111 61 61
  have HW : Hid _ := hW
  have HQ : Hid _ := And.intro q0 (And.intro q1 (And.intro q2 hB))
  clear hW q0 q1 q2 hB
  go_enter Tryz.func73, Tryz.ntmps73
  go_wp2_with fail
  rw [← HW.out]
  obtain ⟨q0, q1, q2, hB⟩ := HQ.out
  refine (HI.out _ (HX.out.1.below hB)).mono ?_
  rintro e w1 ⟨g, rfl, hg, rg, hb1⟩
  have q0 := q0.below hb1 q0.lt
  have q1 := q1.below hb1 q1.lt
  have q2 := q2.below hb1 q2.lt
  have hB := hB.trans (hb1.mono (by omega))
  have hs1 := hb1.size
  clear hb1 HI HW HQ
  have x1 : w1.cell? ⟨w.heap.size, 1, none⟩ = some (.slice y n2 c2) := q0.cell 1
  have f0 : w1.frozen? ⟨w.heap.size + 1 + 1, 0, none⟩ = false := q2.frozen 0
  have z0 : w1.cell? ⟨w.heap.size + 1 + 1, 0, none⟩ = some (.slice none 0 0) := q2.cell 0
  have HE : Hid _ := And.intro (q0.other 0 (.slice (some ⟨g, 0, none⟩) n1 n1) (show w.heap.size ≠ w.heap.size + 1 + 1 by omega)) (And.intro (q1.other 0 (.slice (some ⟨g, 0, none⟩) n1 n1) (show w.heap.size + 1 ≠ w.heap.size + 1 + 1 by omega)) (And.intro (q2.set 0 (.slice (some ⟨g, 0, none⟩) n1 n1)) (And.intro (rg.other 0 (.slice (some ⟨g, 0, none⟩) n1 n1) (show g ≠ w.heap.size + 1 + 1 by omega)) (hB.setCell (p := ⟨w.heap.size + 1 + 1, 0, none⟩) (by show w.heap.size ≤ w.heap.size + 1 + 1; omega) (.slice (some ⟨g, 0, none⟩) n1 n1)))))
  clear q0 q1 q2 rg hB
  go_wp2_with fail
  clear x1 f0 z0
  have hsz : (w1.setCell ⟨w.heap.size + 1 + 1, 0, none⟩ (.slice (some ⟨g, 0, none⟩) n1 n1)).heap.size = w1.heap.size := by simp
  generalize w1.setCell ⟨w.heap.size + 1 + 1, 0, none⟩ (.slice (some ⟨g, 0, none⟩) n1 n1) = W1 at *
  obtain ⟨q0, q1, q2, rg, hB⟩ := HE.out
  clear HE
  refine (HR.out _ (HX.out.2.below hB)).mono ?_
  rintro e w2 ⟨h, rfl, hh, rh, hb2⟩
  have q0 := q0.below hb2 q0.lt
  have q1 := q1.below hb2 q1.lt
  have q2 := q2.below hb2 q2.lt
  have rg := rg.below hb2 rg.lt
  have hB := hB.trans (hb2.mono hB.size)
  clear hb2 HR
  have x2 : w2.cell? ⟨w.heap.size, 2, none⟩ = some (.int .i64 now) := q0.cell 2
  have a0 : w2.cell? ⟨w.heap.size + 1 + 1, 0, none⟩ = some (.slice (some ⟨g, 0, none⟩) n1 n1) := q2.cell 0
  have f0 : w2.frozen? ⟨w.heap.size + 1 + 1, 0, none⟩ = false := q2.frozen 0
  have a1 : w2.cell? ⟨w.heap.size + 1 + 1, 1, none⟩ = some (.slice none 0 0) := q2.cell 1
  have f1 : w2.frozen? ⟨w.heap.size + 1 + 1, 1, none⟩ = false := q2.frozen 1
  have a2 : w2.cell? ⟨w.heap.size + 1 + 1, 2, none⟩ = some (.int .i64 0) := q2.cell 2
  have f2 : w2.frozen? ⟨w.heap.size + 1 + 1, 2, none⟩ = false := q2.frozen 2
  have b0 : w2.cell? ⟨w.heap.size + 1, 0, none⟩ = some (.slice none 0 0) := q1.cell 0
  have e0 : w2.frozen? ⟨w.heap.size + 1, 0, none⟩ = false := q1.frozen 0
  have b1 : w2.cell? ⟨w.heap.size + 1, 1, none⟩ = some (.slice none 0 0) := q1.cell 1
  have e1 : w2.frozen? ⟨w.heap.size + 1, 1, none⟩ = false := q1.frozen 1
  have b2 : w2.cell? ⟨w.heap.size + 1, 2, none⟩ = some (.int .i64 0) := q1.cell 2
  have e2 : w2.frozen? ⟨w.heap.size + 1, 2, none⟩ = false := q1.frozen 2
  have hGG : w.heap.size ≤ g := by omega
  have hHH : w.heap.size ≤ h := by omega
  have ng2 : g ≠ w.heap.size + 1 + 1 := by omega
  have ng1 : g ≠ w.heap.size + 1 := by omega
  have nh2 : h ≠ w.heap.size + 1 + 1 := by omega
  have nh1 : h ≠ w.heap.size + 1 := by omega
  have n12 : w.heap.size + 1 ≠ w.heap.size + 1 + 1 := by omega
  have HF : Hid (Row (((((w2.setCell ⟨w.heap.size + 1 + 1, 1, none⟩ (.slice (some ⟨h, 0, none⟩) n2 n2)).setCell ⟨w.heap.size + 1 + 1, 2, none⟩ (.int .i64 now)).setCell ⟨w.heap.size + 1, 0, none⟩ (.slice (some ⟨g, 0, none⟩) n1 n1)).setCell ⟨w.heap.size + 1, 1, none⟩ (.slice (some ⟨h, 0, none⟩) n2 n2)).setCell ⟨w.heap.size + 1, 2, none⟩ (.int .i64 now)) (w.heap.size + 1) 61 [.slice (some ⟨g, 0, none⟩) n1 n1, .slice (some ⟨h, 0, none⟩) n2 n2, .int .i64 now] ∧ Row (((((w2.setCell ⟨w.heap.size + 1 + 1, 1, none⟩ (.slice (some ⟨h, 0, none⟩) n2 n2)).setCell ⟨w.heap.size + 1 + 1, 2, none⟩ (.int .i64 now)).setCell ⟨w.heap.size + 1, 0, none⟩ (.slice (some ⟨g, 0, none⟩) n1 n1)).setCell ⟨w.heap.size + 1, 1, none⟩ (.slice (some ⟨h, 0, none⟩) n2 n2)).setCell ⟨w.heap.size + 1, 2, none⟩ (.int .i64 now)) g 53 (rowI is) ∧ Row (((((w2.setCell ⟨w.heap.size + 1 + 1, 1, none⟩ (.slice (some ⟨h, 0, none⟩) n2 n2)).setCell ⟨w.heap.size + 1 + 1, 2, none⟩ (.int .i64 now)).setCell ⟨w.heap.size + 1, 0, none⟩ (.slice (some ⟨g, 0, none⟩) n1 n1)).setCell ⟨w.heap.size + 1, 1, none⟩ (.slice (some ⟨h, 0, none⟩) n2 n2)).setCell ⟨w.heap.size + 1, 2, none⟩ (.int .i64 now)) h 155 (rowR rs) ∧ Below w.heap.size w (((((w2.setCell ⟨w.heap.size + 1 + 1, 1, none⟩ (.slice (some ⟨h, 0, none⟩) n2 n2)).setCell ⟨w.heap.size + 1 + 1, 2, none⟩ (.int .i64 now)).setCell ⟨w.heap.size + 1, 0, none⟩ (.slice (some ⟨g, 0, none⟩) n1 n1)).setCell ⟨w.heap.size + 1, 1, none⟩ (.slice (some ⟨h, 0, none⟩) n2 n2)).setCell ⟨w.heap.size + 1, 2, none⟩ (.int .i64 now))) := ⟨((((((q1.other 1 (.slice (some ⟨h, 0, none⟩) n2 n2) n12).other 2 (.int .i64 now) n12).set 0 (.slice (some ⟨g, 0, none⟩) n1 n1)).set 1 (.slice (some ⟨h, 0, none⟩) n2 n2)).set 2 (.int .i64 now))), ((((((rg).other 1 (.slice (some ⟨h, 0, none⟩) n2 n2) ng2).other 2 (.int .i64 now) ng2).other 0 (.slice (some ⟨g, 0, none⟩) n1 n1) ng1).other 1 (.slice (some ⟨h, 0, none⟩) n2 n2) ng1).other 2 (.int .i64 now) ng1), ((((((rh).other 1 (.slice (some ⟨h, 0, none⟩) n2 n2) nh2).other 2 (.int .i64 now) nh2).other 0 (.slice (some ⟨g, 0, none⟩) n1 n1) nh1).other 1 (.slice (some ⟨h, 0, none⟩) n2 n2) nh1).other 2 (.int .i64 now) nh1), (((((hB.setCell (p := ⟨w.heap.size + 1 + 1, 1, none⟩) (by show w.heap.size ≤ w.heap.size + 1 + 1; omega) (.slice (some ⟨h, 0, none⟩) n2 n2)).setCell (p := ⟨w.heap.size + 1 + 1, 2, none⟩) (by show w.heap.size ≤ w.heap.size + 1 + 1; omega) (.int .i64 now)).setCell (p := ⟨w.heap.size + 1, 0, none⟩) (by show w.heap.size ≤ w.heap.size + 1; omega) (.slice (some ⟨g, 0, none⟩) n1 n1)).setCell (p := ⟨w.heap.size + 1, 1, none⟩) (by show w.heap.size ≤ w.heap.size + 1; omega) (.slice (some ⟨h, 0, none⟩) n2 n2)).setCell (p := ⟨w.heap.size + 1, 2, none⟩) (by show w.heap.size ≤ w.heap.size + 1; omega) (.int .i64 now))⟩
  clear q0 q1 q2 rg rh hB
  go_wp2_with fail
  have hF := HF.out
  clear HF x2 a0 f0 b0 e0 a1 f1 b1 e1 a2 f2 b2 e2
  generalize (((((w2.setCell ⟨w.heap.size + 1 + 1, 1, none⟩ (.slice (some ⟨h, 0, none⟩) n2 n2)).setCell ⟨w.heap.size + 1 + 1, 2, none⟩ (.int .i64 now)).setCell ⟨w.heap.size + 1, 0, none⟩ (.slice (some ⟨g, 0, none⟩) n1 n1)).setCell ⟨w.heap.size + 1, 1, none⟩ (.slice (some ⟨h, 0, none⟩) n2 n2)).setCell ⟨w.heap.size + 1, 2, none⟩ (.int .i64 now)) = Z at *
  obtain ⟨k1, k2, k3, k4⟩ := hF
  have e0 : Z.cell? ⟨w.heap.size + 1, 0, none⟩ = some (.slice (some ⟨g, 0, none⟩) n1 n1) := k1.cell 0
  have e1 : Z.cell? ⟨w.heap.size + 1, 1, none⟩ = some (.slice (some ⟨h, 0, none⟩) n2 n2) := k1.cell 1
  have e2 : Z.cell? ⟨w.heap.size + 1, 2, none⟩ = some (.int .i64 now) := k1.cell 2
  exact bodyPost_ret (v := .agg #[.slice (some ⟨g, 0, none⟩) n1 n1, .slice (some ⟨h, 0, none⟩) n2 n2, .int .i64 now]) (by simp [results, Tryz.results73, go_sem, e0, e1, e2]) rfl ⟨g, h, rfl, hGG, hHH, k2, k3, k4⟩
end Go.Proofs.YtcnadobnihbldaaGreat
/- The laws' own lists of Insts measured and handed over. (Written by gen_isl.py.) -/
namespace Go.Proofs.YtcnadobnihbldaaGreat
open Go.RowKit Go.Sort

/-- An Inst whose lists lie in blocks of their own from base on. -/
def PlIv (w : World) (base : Nat) (a : Ip) (t : Iv) : Prop := ∃ g h, a = ⟨some ⟨g, 0, none⟩, t.is.length, some ⟨h, 0, none⟩, t.rs.length⟩ ∧ base ≤ g ∧ base ≤ h ∧ Row w g 53 (rowI t.is) ∧ Row w h 155 (rowR t.rs)
theorem PlIv.inIv {w : World} {base : Nat} {a : Ip} {t : Iv} (k : PlIv w base a t) : InIv w a t := by
  obtain ⟨g, h, rfl, -, -, a1, a2⟩ := k
  exact ⟨ifsIn_row a1, rtsIn_row a2⟩
theorem PlIv.c {w : World} {b : Nat} {a : Ip} {t : Iv} (h : PlIv w b a t) : t.is.length ≤ a.c1 := by
  obtain ⟨g, h, rfl, _⟩ := h
  exact Nat.le_refl _
theorem PlIv.below {w w' : World} {base : Nat} {a : Ip} {t : Iv} (k : PlIv w base a t) (hb : Below w.heap.size w w') : PlIv w' base a t := by
  obtain ⟨g, h, e, b1, b2, a1, a2⟩ := k
  exact ⟨g, h, e, b1, b2, a1.below hb a1.lt, a2.below hb a2.lt⟩
theorem PlIv.kept {w w' : World} {base b : Nat} {a : Ip} {t : Iv} (k : PlIv w base a t) (hb : b < base) (hk : ∀ g t l, g ≠ b → Row w g t l → Row w' g t l) : PlIv w' base a t := by
  obtain ⟨g, h, e, b1, b2, a1, a2⟩ := k
  exact ⟨g, h, e, b1, b2, hk _ _ _ (by omega) a1, hk _ _ _ (by omega) a2⟩
def threeIv (w : World) (g o : Nat) (x0 x1 x2 : Value) : World := (((w.setCell ⟨g, o, none⟩ x0).setCell ⟨g, o + 1, none⟩ x1).setCell ⟨g, o + 2, none⟩ x2)
theorem threeIv_below {B : Nat} {w0 w : World} (h : Below B w0 w) (g o : Nat) (hg : B ≤ g) (x0 x1 x2 : Value) : Below B w0 (threeIv w g o x0 x1 x2) := (((h.setCell (p := ⟨g, o, none⟩) hg x0).setCell (p := ⟨g, o + 1, none⟩) hg x1).setCell (p := ⟨g, o + 2, none⟩) hg x2)
theorem threeIv_row {w : World} {g : Nat} {t : TypeId} {l : List Value} (h : Row w g t l) (o : Nat) (x0 x1 x2 : Value) : Row (threeIv w g o x0 x1 x2) g t (((l.set (o) x0).set (o + 1) x1).set (o + 2) x2) := (((h.set (o) x0).set (o + 1) x1).set (o + 2) x2)
theorem threeIv_other {w : World} {b g : Nat} {t : TypeId} {l : List Value} (h : Row w b t l) (hne : b ≠ g) (o : Nat) (x0 x1 x2 : Value) : Row (threeIv w g o x0 x1 x2) b t l := (((h.other (o) x0 hne).other (o + 1) x1 hne).other (o + 2) x2 hne)
theorem set3Iv (A R : List Value) (k : Nat) (hA : A.length = k * 3) (z0 z1 z2 x0 x1 x2 : Value) : ((((A ++ ([z0, z1, z2] ++ R)).set (k * 3) x0).set (k * 3 + 1) x1).set (k * 3 + 2) x2) = A ++ ([x0, x1, x2] ++ R) := by
  have e : ∀ (L : List Value) (j : Nat) (x : Value), (A ++ L).set (k * 3 + j) x = A ++ L.set j x := fun L j x => by
    rw [List.set_append, if_neg (by omega), hA, Nat.add_sub_cancel_left]
  have e0 : ∀ (L : List Value) (x : Value), (A ++ L).set (k * 3) x = A ++ L.set 0 x := fun L x => e L 0 x
  rw [e0, e, e]
  rfl
theorem Row.someIv {w : World} {g : Nat} {t : TypeId} {l : List Value} (h : Row w g t l) (k : Nat) (hk : k < l.length) : ∃ v, w.cell? ⟨g, k, none⟩ = some v := ⟨l[k], by rw [h.cell, List.getElem?_eq_getElem hk]⟩
theorem Tryz.infoIv : (Tryz.prog.info? 61).map (fun i => (i.zero, i.size, i.bytes)) = some (some (.agg #[.slice none 0 0, .slice none 0 0, .int .i64 0]), 3, 56) := by kernel_rfl
def zeroIv : IvP := (⟨none, 0, none, 0⟩, ⟨[], [], 0⟩)
theorem rowIv_zero_get (n i : Nat) (h : i < n * 3) : (rowIv (List.replicate n zeroIv))[i]? = (ivL zeroIv.1 zeroIv.2)[i % 3]? := by
  have hi : i / 3 < (List.replicate n zeroIv).length := by simp; omega
  have := rowIv_get (List.replicate n zeroIv) (i / 3) (i % 3) hi (by omega)
  rw [show i / 3 * 3 + i % 3 = i by omega] at this
  rw [this, List.getElem_replicate]
theorem made_zeroIv (n : Nat) : (madeCells (Value.agg #[.slice none 0 0, .slice none 0 0, .int .i64 0]).cells (n * 3)).toList = rowIv (List.replicate n zeroIv) := by
  apply List.ext_getElem?
  intro i
  by_cases h : i < n * 3
  · rw [rowIv_zero_get n i h]
    simp only [madeCells, Value.cells, Array.toList_map, List.getElem?_map]
    have h9 : i % 3 = 0 ∨ i % 3 = 1 ∨ i % 3 = 2 := by omega
    rcases h9 with h9 | h9 | h9 <;> simp [h9, h, ivL, zeroIv]
  · rw [List.getElem?_eq_none (by simp [madeCells]; omega), List.getElem?_eq_none (by rw [rowIv_length]; simp; omega)]
set_option maxRecDepth 100000 in
theorem wpList_make_ivs {w : World} {ops : Array Oper} {rest : List Oper} {o : Oper} {a : Act} {Q : Exit → Act → World → Prop}
    (hgd : o.guard = none) (l c : Operand) (hop : o.op = Op.makeSlice 23 l c)
    (L : Int) (n : Nat) (hl : a.eval l = .int .i64 L) (hc : a.eval c = .int .i64 L) (hL : L = (n : Int)) (hn : n ≤ 100000000)
    (B : Nat) (w0 : World) (hb : Below B w0 w) (hB : B ≤ w.heap.size)
    (h : ∀ w', Row w' w.heap.size 61 (rowIv (List.replicate n zeroIv)) → Below B w0 w' → wpList Tryz.prog ops Q rest (a.put o.dst (.slice (some ⟨w.heap.size, 0, none⟩) n n)) w') : wpList Tryz.prog ops Q (o :: rest) a w := by
  obtain ⟨i0, hi0, hz0, hz1, hz2⟩ := info_parts Tryz.infoIv
  refine wpList_make_full w hgd l c 23 hop B 61 i0 _ 3 Tryz.underlying23 hi0 hz0 hz1 .i64 .i64 L L n hl hc hL hL (by rw [hz2]; omega) (by unfold maxLen; omega) hB ?_
  intro w' hown hgrow
  rcases hown.2 with ⟨h', _⟩ | ⟨g, cap, cur, h', hbg, hg, hnc, hcm, hcs, htake⟩
  · simp at h'
  · simp only [Value.slice.injEq, Option.some.injEq, Addr.mk.injEq, and_true, true_and] at h'
    obtain ⟨rfl, rfl⟩ := h'
    refine h w' ?_ (hb.trans ((Below.refl B w).grown hgrow hB (by intro k hk; cases hk)))
    unfold Row
    rw [hg, ← made_zeroIv, ← htake, List.take_of_length_le (by simp [hcs])]
theorem rowIv_set (qs : List IvP) (n k : Nat) (hq : qs.length = k) (hk : k < n) (a : Ip) (t : Iv) :
    ((((rowIv (qs ++ List.replicate (n - k) zeroIv)).set (k * 3) (.slice a.x t.is.length a.c1)).set (k * 3 + 1) (.slice a.y t.rs.length a.c2)).set (k * 3 + 2) (.int .i64 t.now)) = rowIv ((qs ++ [(a, t)]) ++ List.replicate (n - (k + 1)) zeroIv) := by
  have e1 : n - k = (n - (k + 1)) + 1 := by omega
  rw [e1, List.replicate_succ, rowIv_append, rowIv_cons, List.append_assoc, rowIv_append, List.singleton_append, rowIv_cons]
  exact set3Iv _ _ k (by rw [rowIv_length, hq]; omega) _ _ _ _ _ _
/-- What a look at the size tells of an Inst. -/
def IvS (t : Iv) : Prop := t.is.length ≤ 1048576 ∧ t.rs.length ≤ 1048576
set_option maxRecDepth 100000 in
set_option maxHeartbeats 4000000 in
theorem szInstS_any (x : Option Addr) (cap : Nat) (ps : List IvP) (L : Int) (w : World) (h : ArgIvs w x ps.length ps) (h0 : 0 ≤ L) (h1 : L ≤ 1048576) : Calls Tryz.prog 34 #[.slice x ps.length cap, .int .i64 L] w fun e w' => (∃ v : Int, e = .returned (.int .i64 v) ∧ v ≤ L ∧ (v < 0 ∨ 0 ≤ v ∧ ps.length ≤ 1048576 ∧ ∀ e ∈ ps, IvS e.2)) ∧ Below w.heap.size w w' := by
  have hl := h.2.1
  unfold maxLen at hl
  have HE : Hid (∀ (a : Ip) (t : Iv) (L : Int) (w : World), ArgIv w a t → IvW t → 0 ≤ L → L ≤ 1048576 → Calls Tryz.prog 65 #[.agg #[.slice a.x t.is.length a.c1, .slice a.y t.rs.length a.c2, .int .i64 t.now], .int .i64 L] w fun e w' => (∃ v : Int, e = .returned (.int .i64 v) ∧ v ≤ L ∧ (v < 0 ∨ 0 ≤ v ∧ IvS t)) ∧ Below w.heap.size w w') := fun a t L w hA hW k0 k1 => szInstL_any a.x t.is.length a.c1 a.y t.rs.length a.c2 t.now L w hA.1.2.1 hA.2.2.1 k0 k1
  have HX : Hid (ArgIvs w x ps.length ps) := h
  have z : IntKind.i64.wrap (L - (ps.length : Int)) = L - (ps.length : Int) := wrap_i64_in _ (by omega) (by omega)
  clear h
  by_cases hL : (ps.length : Int) ≤ L
  case neg =>
    have d : decide (L - (ps.length : Int) < 0) = true := by simp; omega
    clear HE HX
    go_enter Tryz.func34, Tryz.ntmps34
    go_wp2
    go_ret
    exact ⟨⟨_, rfl, by omega, .inl (by omega)⟩, Below.refl _ _⟩
  have d : decide (L - (ps.length : Int) < 0) = false := by simp; omega
  go_enter Tryz.func34, Tryz.ntmps34
  go_wp2_with fail
  go_loopw [5, 1] (fun i m wr => ∃ (k : Nat) (v : Int), k ≤ ps.length ∧ i = .int .i64 k ∧ m = .int .i64 v ∧ 0 ≤ v ∧ v ≤ L ∧ (∀ j (hj : j < ps.length), j < k → IvS ps[j].2) ∧ Below w.heap.size w wr) (fun i _ _ => ps.length - (intOf i).toNat)
  case atStart => exact ⟨0, _, Nat.zero_le _, rfl, rfl, by omega, by omega, fun j _ hj => absurd hj (by omega), Below.refl _ _⟩
  case round =>
    obtain ⟨k, v, hk, rfl, rfl, hv0, hvL, ha, hB⟩ := hrel
    by_cases hlt : k < ps.length
    · have d1 : decide ((k : Int) < (ps.length : Int)) = true := by simpa using hlt
      obtain ⟨p, a, t, rfl, hek, hA, hW, c0, c1, c2⟩ := (HX.out.below hB).at k hlt
      have HEk : Hid (Calls Tryz.prog 65 #[.agg #[.slice a.x t.is.length a.c1, .slice a.y t.rs.length a.c2, .int .i64 t.now], .int .i64 v] wr fun e w' => (∃ v' : Int, e = .returned (.int .i64 v') ∧ v' ≤ v ∧ (v' < 0 ∨ 0 ≤ v' ∧ IvS t)) ∧ Below wr.heap.size wr w') := HE.out a t v wr hA hW hv0 (by omega)
      generalize a.x = ax at *
      generalize a.y = ay at *
      generalize a.c1 = ac1 at *
      generalize a.c2 = ac2 at *
      generalize t.is.length = tn1 at *
      generalize t.rs.length = tn2 at *
      generalize t.now = tw at *
      have HA : Hid (∀ j (hj : j < ps.length), j < k → IvS ps[j].2) := ha
      have HK : Hid (ps[k] = (a, t)) := hek
      clear HE hek ha hA hW
      go_wp2_with fail
      refine (HEk.out).mono ?_
      rintro e w1 ⟨⟨v', rfl, hv', hc⟩, hb1⟩
      have hB := hB.trans (hb1.mono hB.size)
      clear c0 c1 c2 hb1 HEk
      rcases hc with hc | ⟨hc, hS⟩
      · have d2 : decide (v' < 0) = true := by simpa using hc
        clear hc
        go_wp2
        go_ret
        exact ⟨⟨_, rfl, by omega, .inl (by omega)⟩, hB⟩
      · have d2 : decide (v' < 0) = false := by simp; omega
        have HB : Hid _ := And.intro hS hB
        clear hB hS
        go_wp2
        go_roundw
        case rel => exact ⟨k + 1, _, hlt, by go_num, rfl, by omega, by omega, (fun j hj hjk => by
          rcases Nat.lt_or_ge j k with h' | h'
          · exact HA.out j hj h'
          · obtain rfl : j = k := (by omega)
            rw [HK.out]
            exact HB.out.1), HB.out.2⟩
        case measure => simp [intOf]; omega
    · have d1 : decide ((k : Int) < (ps.length : Int)) = false := by simpa using hlt
      clear HE HX
      go_wp2
      go_ret
      exact ⟨⟨_, rfl, hvL, .inr ⟨hv0, by omega, fun s hs => by
        obtain ⟨j, hj, rfl⟩ := List.mem_iff_getElem.1 hs
        exact ha j hj (by omega)⟩⟩, hB⟩
set_option maxRecDepth 100000 in
set_option maxHeartbeats 4000000 in
theorem toInstS_any (x : Option Addr) (cap : Nat) (ps : List IvP) (w : World) (h : ArgIvs w x ps.length ps) (hn : ps.length ≤ 1048576) (hs : ∀ e ∈ ps, IvS e.2) :
    Calls Tryz.prog 39 #[.slice x ps.length cap] w fun e w' => ∃ g, ∃ qs : List IvP, e = .returned (.slice (some ⟨g, 0, none⟩) ps.length ps.length) ∧ w.heap.size ≤ g ∧ qs.map (·.2) = ps.map (·.2) ∧ Row w' g 61 (rowIv qs) ∧ (∀ e ∈ qs, PlIv w' (g + 1) e.1 e.2) ∧ Below w.heap.size w w' := by
  have HE : Hid (∀ (a : Ip) (t : Iv) (w : World), ArgIv w a t → IvS t → Calls Tryz.prog 73 #[.agg #[.slice a.x t.is.length a.c1, .slice a.y t.rs.length a.c2, .int .i64 t.now]] w fun e w' => ∃ g h, e = .returned (.agg #[.slice (some ⟨g, 0, none⟩) t.is.length t.is.length, .slice (some ⟨h, 0, none⟩) t.rs.length t.rs.length, .int .i64 t.now]) ∧ w.heap.size ≤ g ∧ w.heap.size ≤ h ∧ Row w' g 53 (rowI t.is) ∧ Row w' h 155 (rowR t.rs) ∧ Below w.heap.size w w') := fun a t w hA hS => toInst_new a.x a.c1 a.y a.c2 t.is t.rs t.now w hA.1 hA.2 hS.1 hS.2
  have HX : Hid (ArgIvs w x ps.length ps) := h
  have HS : Hid (∀ e ∈ ps, IvS e.2) := hs
  clear h hs
  go_enter Tryz.func39, Tryz.ntmps39
  go_wp2_with (at_make; refine wpList_make_ivs rfl _ _ rfl _ ps.length rfl rfl rfl (by omega) w.heap.size w (Below.refl _ _) (Nat.le_refl _) ?_)
  intro w0 hr0 hb0
  have hz : ([] : List IvP) ++ List.replicate (ps.length - 0) zeroIv = List.replicate ps.length zeroIv := by simp
  rw [← hz] at hr0
  clear hz
  go_wp2_with fail
  go_loopw [4] (fun i wr => ∃ (k : Nat) (qs : List IvP), k ≤ ps.length ∧ i = .int .i64 k ∧ qs.length = k ∧ qs.map (·.2) = (ps.take k).map (·.2) ∧ Row wr w.heap.size 61 (rowIv (qs ++ List.replicate (ps.length - k) zeroIv)) ∧ (∀ e ∈ qs, PlIv wr (w.heap.size + 1) e.1 e.2) ∧ Below w.heap.size w wr) (fun i _ => ps.length - (intOf i).toNat)
  case atStart => exact ⟨0, [], Nat.zero_le _, rfl, rfl, rfl, hr0, fun e he => by simp at he, hb0⟩
  case round =>
    obtain ⟨k, qs, hk, rfl, hql, hqm, hr, hpl, hb⟩ := hrel
    by_cases hlt : k < ps.length
    · obtain ⟨p, a, t, rfl, hek, hA, hW, c0, c1, c2⟩ := (HX.out.below hb).at k hlt
      have hS := HS.out ps[k] (List.getElem_mem hlt)
      rw [hek] at hS
      have HEk : Hid (Calls Tryz.prog 73 #[.agg #[.slice a.x t.is.length a.c1, .slice a.y t.rs.length a.c2, .int .i64 t.now]] wr fun e w' => ∃ g h, e = .returned (.agg #[.slice (some ⟨g, 0, none⟩) t.is.length t.is.length, .slice (some ⟨h, 0, none⟩) t.rs.length t.rs.length, .int .i64 t.now]) ∧ wr.heap.size ≤ g ∧ wr.heap.size ≤ h ∧ Row w' g 53 (rowI t.is) ∧ Row w' h 155 (rowR t.rs) ∧ Below wr.heap.size wr w') := HE.out a t wr hA hS
      have HK : Hid (ps[k] = (a, t)) := hek
      have hlt0 := hr.lt
      clear HE hek hr0 hb0 hA hW hS
      generalize a.x = ax at *
      generalize a.y = ay at *
      generalize a.c1 = ac1 at *
      generalize a.c2 = ac2 at *
      obtain ⟨is, rs, now⟩ := t
      simp only at HEk c0 c1 c2
      generalize hN1 : is.length = n1 at *
      generalize hN2 : rs.length = n2 at *
      have HN : Hid (n1 = is.length ∧ n2 = rs.length) := ⟨hN1.symm, hN2.symm⟩
      clear hN1 hN2
      go_wp2_with fail
      refine (HEk.out).mono ?_
      rintro e w1 ⟨g, h, rfl, hg, hh, k1, k2, hb1⟩
      have hr1 := hr.below hb1 hr.lt
      have hB1 := hb.trans (hb1.mono hb.size)
      have hpl1 : ∀ e ∈ qs ++ [((⟨some ⟨g, 0, none⟩, n1, some ⟨h, 0, none⟩, n2⟩, ⟨is, rs, now⟩) : IvP)], PlIv w1 (w.heap.size + 1) e.1 e.2 := fun e he => by
        rcases List.mem_append.1 he with he | he
        · exact (hpl e he).below hb1
        · rw [List.mem_singleton] at he
          subst he
          exact ⟨g, h, by simp only [← HN.out.1, ← HN.out.2], by omega, by omega, k1, k2⟩
      clear c0 c1 c2 hb1 HEk hr hb hpl k1 k2
      have hlr : (rowIv (qs ++ List.replicate (ps.length - k) zeroIv)).length = ps.length * 3 := by rw [rowIv_length, List.length_append, List.length_replicate, hql]; omega
      obtain ⟨z0, hz0⟩ := Row.someIv hr1 (k * 3) (by omega)
      obtain ⟨z1, hz1⟩ := Row.someIv hr1 (k * 3 + 1) (by omega)
      obtain ⟨z2, hz2⟩ := Row.someIv hr1 (k * 3 + 2) (by omega)
      have f0 := hr1.frozen (k * 3)
      have f1 := hr1.frozen (k * 3 + 1)
      have f2 := hr1.frozen (k * 3 + 2)
      have hr2 := threeIv_row hr1 (k * 3) (.slice (some ⟨g, 0, none⟩) n1 n1) (.slice (some ⟨h, 0, none⟩) n2 n2) (.int .i64 now)
      have hset := rowIv_set qs ps.length k hql hlt ⟨some ⟨g, 0, none⟩, n1, some ⟨h, 0, none⟩, n2⟩ ⟨is, rs, now⟩
      simp only [← HN.out.1, ← HN.out.2] at hset
      rw [hset] at hr2
      have hB2 := threeIv_below hB1 w.heap.size (k * 3) (Nat.le_refl _) (.slice (some ⟨g, 0, none⟩) n1 n1) (.slice (some ⟨h, 0, none⟩) n2 n2) (.int .i64 now)
      have hP2 := fun e he => (hpl1 e he).kept (w' := threeIv w1 w.heap.size (k * 3) (.slice (some ⟨g, 0, none⟩) n1 n1) (.slice (some ⟨h, 0, none⟩) n2 n2) (.int .i64 now)) (Nat.lt_succ_self _) (fun b tt l hne hr => threeIv_other hr hne (k * 3) (.slice (some ⟨g, 0, none⟩) n1 n1) (.slice (some ⟨h, 0, none⟩) n2 n2) (.int .i64 now))
      unfold threeIv at hr2 hB2 hP2
      have hm2 : (qs ++ [((⟨some ⟨g, 0, none⟩, n1, some ⟨h, 0, none⟩, n2⟩, ⟨is, rs, now⟩) : IvP)]).map (·.2) = (ps.take (k + 1)).map (·.2) := by
        rw [List.map_append, hqm, List.take_succ_eq_append_getElem hlt, List.map_append, HK.out]
        rfl
      have HH : Hid _ := And.intro hr2 (And.intro hB2 (And.intro hP2 hm2))
      clear hr1 hB1 hlr hr2 hB2 hP2 hm2 hpl1 hset
      go_wp2_with fail
      go_roundw
      case rel => exact ⟨k + 1, _, hlt, by go_num, by rw [List.length_append, hql]; rfl, HH.out.2.2.2, HH.out.1, HH.out.2.2.1, HH.out.2.1⟩
      case measure => simp [intOf]; omega
    · obtain rfl : k = ps.length := by omega
      rw [Nat.sub_self, List.replicate_zero, List.append_nil] at hr
      rw [List.take_length] at hqm
      clear hlt hk
      go_wp2
      go_ret
      exact ⟨w.heap.size, rfl, Nat.le_refl _, qs, hqm, hr, fun a b h => hpl (a, b) h, hb⟩
end Go.Proofs.YtcnadobnihbldaaGreat
/- Ifaces appended to a list of the call's own; owned lists of Ifaces. (Written by gen_near.py.) -/
namespace Go.Proofs.YtcnadobnihbldaaGreat
open Go.RowKit Go.Sort

theorem ownsI_none {w : World} {base : Nat} {v : Value} {n : Nat} {xs : List Value} (h : w.ownsRow base 53 5 v n xs) (ty : TypeId) : (Builtin.append_ #[54, 54] ty #[v, .slice none 0 0]).run Tryz.prog w = .ok v w := by
  obtain ⟨i0, hi0, _, _, _⟩ := info_parts Tryz.infoI
  exact run_append_owned_none w base _ ty 53 i0 5 Tryz.underlying54 hi0 v n xs h
theorem run_append_ifs (w : World) (base : Nat) (v : Value) (ls ms : List If) (q : Option Addr) (c : Nat) (ty : TypeId) (hown : w.ownsRow base 53 5 v ls.length (rowI ls)) (hq0 : q = none → ms = [] ∧ c = 0)
    (hq : ∀ ad, q = some ad → ∀ j u, (rowI ms)[j]? = some u → w.cell? (ad.add j) = some u) (hlen : ls.length + ms.length ≤ 1000000000) (hbase : base ≤ w.heap.size) :
    ∃ v' w', (Builtin.append_ #[54, 54] ty #[v, .slice q ms.length c]).run Tryz.prog w = .ok v' w' ∧ w'.ownsRow base 53 5 v' (ls ++ ms).length (rowI (ls ++ ms)) ∧ Below base w w' := by
  obtain ⟨i0, hi0, hz0, hz1, hz2⟩ := info_parts Tryz.infoI
  cases q with
  | none =>
    obtain ⟨rfl, rfl⟩ := hq0 rfl
    exact ⟨v, w, ownsI_none hown ty, by rw [List.append_nil]; exact hown, Below.refl _ _⟩
  | some ad =>
    obtain ⟨v', w', hr, h2, h3, _⟩ := run_append_own (P := Tryz.prog) w base _ ty 53 i0 _ 5 40 Tryz.underlying54 hi0 hz0 hz1 hz2 rfl (by decide) v ls.length (rowI ls) hown ad ms.length c (rowI ms) (by rw [rowI_length]; omega) (hq ad rfl) (rowI_one ms) (by unfold maxLen; omega) (by omega) hbase
    refine ⟨v', w', hr, ?_, (Below.refl base w).grown h3 hbase fun k hk => (World.ownsRow.lt hown k hk).1⟩
    rw [List.length_append, rowI_append]
    exact h2
theorem ifsIn_none {w : World} {p : Option Addr} {rs : List If} (h : IfsIn w p rs) : p = none → rs = [] := by
  rintro rfl
  rcases h with h | ⟨g, e, _⟩
  · exact h
  · cases e
theorem ownsI_shape {w : World} {base n : Nat} {v : Value} {xs : List Value} (h : w.ownsRow base 53 5 v n xs) : ∃ q c, v = .slice q n c := by
  rcases h.2 with ⟨h1, h2⟩ | ⟨g, cap, cur, h1, _⟩
  · exact ⟨none, 0, by rw [h1, h2]⟩
  · exact ⟨_, _, h1⟩
theorem ownsI_below {w w' : World} {base n : Nat} {v : Value} {xs : List Value} (h : w.ownsRow base 53 5 v n xs) (hb : Below w.heap.size w w') : w'.ownsRow base 53 5 v n xs :=
  World.ownsRow.kept h (row := none) ⟨hb.os, hb.tape, hb.output, hb.size, fun k hk _ => hb.block k hk⟩ (by cases v.ownBlock <;> simp)
theorem ownsI_mono {w : World} {base base' n : Nat} {v : Value} {xs : List Value} (h : w.ownsRow base 53 5 v n xs) (hb : base' ≤ base) : w.ownsRow base' 53 5 v n xs := by
  rcases h.2 with ⟨h1, h2⟩ | ⟨g, cap, cur, h1, h2, h3, h4, h5, h6, h7⟩
  · exact ⟨h.1, .inl ⟨h1, h2⟩⟩
  · exact ⟨h.1, .inr ⟨g, cap, cur, h1, by omega, h3, h4, h5, h6, h7⟩⟩
theorem ownsI_opened {w : World} {base : Nat} {p : Option Addr} {cv : Nat} {es : List If} (h : w.ownsRow base 53 5 (.slice p es.length cv) es.length (rowI es)) : es = [] ∨ ∃ g rest, p = some ⟨g, 0, none⟩ ∧ base ≤ g ∧ es.length ≤ cv ∧ cv ≤ maxLen ∧ Row w g 53 (rowI es ++ rest) ∧ (rowI es ++ rest).length = cv * 5 := by
  rcases h.2 with ⟨_, h2⟩ | ⟨g, cap, cur, h1, h2, h3, h4, h5, h6, h7⟩
  · exact .inl (List.length_eq_zero_iff.1 h2)
  · simp only [Value.slice.injEq] at h1
    obtain ⟨rfl, -, rfl⟩ := h1
    refine .inr ⟨g, cur.toList.drop (es.length * 5), rfl, h2, h4, h5, ?_, ?_⟩
    · unfold Row
      rw [← h7, List.take_append_drop]
      simpa using h3
    · rw [← h7, List.take_append_drop]
      simpa using h6
theorem ownsI_shut {w : World} {base g n cv : Nat} {es : List If} {rest : List Value} (hn : n = es.length) (hb : base ≤ g) (h4 : n ≤ cv) (h5 : cv ≤ maxLen) (hr : Row w g 53 (rowI es ++ rest)) (hl : (rowI es ++ rest).length = cv * 5) : w.ownsRow base 53 5 (.slice (some ⟨g, 0, none⟩) n cv) n (rowI es) := by
  subst hn
  refine ⟨by rw [rowI_length]; omega, .inr ⟨g, cv, (rowI es ++ rest).toArray, rfl, hb, hr, h4, h5, by simpa using hl, ?_⟩⟩
  simp only [List.take_append_of_le_length (show es.length * 5 ≤ (rowI es).length by rw [rowI_length]; omega)]
  rw [List.take_of_length_le (by rw [rowI_length]; omega)]
theorem ifsIn_rest {w : World} {g : Nat} {t : TypeId} {es : List If} {rest : List Value} (h : Row w g t (rowI es ++ rest)) : IfsIn w (some ⟨g, 0, none⟩) es := .inr ⟨g, rfl, h.lt, fun j u hj => by rw [h.cell, List.getElem?_append_left (List.getElem?_eq_some_iff.1 hj).1]; exact hj⟩
theorem ownsI_in {w : World} {base : Nat} {p : Option Addr} {n cv : Nat} {es : List If} (hn : n = es.length) (h : w.ownsRow base 53 5 (.slice p n cv) n (rowI es)) : IfsIn w p es := by
  subst hn
  rcases ownsI_opened h with h0 | ⟨g, rest, rfl, -, -, -, hr, -⟩
  · exact .inl h0
  · exact ifsIn_rest hr
end Go.Proofs.YtcnadobnihbldaaGreat
/- Routes appended to a list of the call's own; a list of routes cut. -/
namespace Go.Proofs.YtcnadobnihbldaaGreat
open Go.RowKit Go.Sort

theorem ownsR_none {w : World} {base : Nat} {v : Value} {n : Nat} {xs : List Value} (h : w.ownsRow base 155 9 v n xs) (ty : TypeId) : (Builtin.append_ #[57, 57] ty #[v, .slice none 0 0]).run Tryz.prog w = .ok v w := by
  obtain ⟨i0, hi0, _, _, _⟩ := info_parts Tryz.infoR
  exact run_append_owned_none w base _ ty 155 i0 9 Tryz.underlying57 hi0 v n xs h
/-- 'append(v, x...)' of routes. -/
theorem run_append_rts (w : World) (base : Nat) (v : Value) (ls ms : List Rt) (q : Option Addr) (c : Nat) (ty : TypeId) (hown : w.ownsRow base 155 9 v ls.length (rowR ls)) (hq0 : q = none → ms = [] ∧ c = 0)
    (hq : ∀ ad, q = some ad → ∀ j u, (rowR ms)[j]? = some u → w.cell? (ad.add j) = some u) (hlen : ls.length + ms.length ≤ 1000000000) (hbase : base ≤ w.heap.size) :
    ∃ v' w', (Builtin.append_ #[57, 57] ty #[v, .slice q ms.length c]).run Tryz.prog w = .ok v' w' ∧ w'.ownsRow base 155 9 v' (ls ++ ms).length (rowR (ls ++ ms)) ∧ Below base w w' := by
  obtain ⟨i0, hi0, hz0, hz1, hz2⟩ := info_parts Tryz.infoR
  cases q with
  | none =>
    obtain ⟨rfl, rfl⟩ := hq0 rfl
    exact ⟨v, w, ownsR_none hown ty, by rw [List.append_nil]; exact hown, Below.refl _ _⟩
  | some ad =>
    obtain ⟨v', w', hr, h2, h3, _⟩ := run_append_own (P := Tryz.prog) w base _ ty 155 i0 _ 9 72 Tryz.underlying57 hi0 hz0 hz1 hz2 rfl (by decide) v ls.length (rowR ls) hown ad ms.length c (rowR ms) (by rw [rowR_length]; omega) (hq ad rfl) (rowR_one ms) (by unfold maxLen; omega) (by omega) hbase
    refine ⟨v', w', hr, ?_, (Below.refl base w).grown h3 hbase fun k hk => (World.ownsRow.lt hown k hk).1⟩
    rw [List.length_append, rowR_append]
    exact h2
theorem wpList_append_runs {P : Program} {w : World} {ops : Array Oper} {rest : List Oper} {o : Oper} {a : Act} {Q : Exit → Act → World → Prop} (hgd : o.guard = none) (s x : Operand) (t : TypeId)
    (ho : o.op = .call { callee := .builtin .append, args := #[s, x], argTypes := #[t, t] }) (vs vx : Value) (hs : a.eval s = vs) (hx : a.eval x = vx)
    {v' : Value} {w' : World} (hr : (Builtin.append_ #[t, t] o.type #[vs, vx]).run P w = .ok v' w') (h : wpList P ops Q rest (a.put o.dst v') w') : wpList P ops Q (o :: rest) a w := by
  refine wpList_plain hgd fun K hK => ?_
  unfold Oper.wp execOp
  simp only [ho, resolve, invoke, builtin, Sem.run_bind, Sem.run_pure, Result.andThen_ok, List.map_toArray, List.map_cons, List.map_nil, hs, hx, hr]
  exact hK _ _ h
theorem addR (g o j : Nat) : (⟨g, o, none⟩ : Addr).add j = ⟨g, o + j, none⟩ := by unfold Addr.add; split <;> simp_all
/-- Where the part of a list behind k begins. -/
def fromR (p : Option Addr) (cap k : Nat) : Option Addr := if cap = k then p else p.map (·.add (k * 9))
theorem sliceR_upto (p : Option Addr) (n cap k : Nat) (x : Int) (hx : x = k) (hk : k ≤ cap) (w : World) : (Instr.slice 57 (.slice p n cap) none (some (.int .i64 x)) none).run Tryz.prog w = .ok (.slice (fromR p cap 0) k cap) w := by
  subst hx
  have hb := run_sliceBound (P := Tryz.prog) w .i64 (k : Int) cap .sliceAcap (by omega) (by omega)
  unfold Instr.slice Instr.sliceBounds
  simp [Sem.run_bind, run_underlying Tryz.underlying57, hb, fromR]
theorem sliceR_from (p : Option Addr) (n cap k : Nat) (x : Int) (hx : x = k) (hk : k ≤ n) (w : World) : (Instr.slice 57 (.slice p n cap) (some (.int .i64 x)) none none).run Tryz.prog w = .ok (.slice (fromR p cap k) (n - k) (cap - k)) w := by
  subst hx
  have hb := run_sliceBound (P := Tryz.prog) w .i64 (k : Int) n .sliceB (by omega) (by omega)
  unfold Instr.slice Instr.sliceBounds
  simp [Sem.run_bind, run_underlying Tryz.underlying57, hb, fromR]
theorem fromR_none {p : Option Addr} {cap k : Nat} {rs : List Rt} (hc : p = none → cap = 0) (h : p = none → rs = []) : fromR p cap k = none → rs.drop k = [] ∧ cap - k = 0 := by
  intro e
  have hp : p = none := by
    unfold fromR at e
    split at e
    · exact e
    · simpa using e
  have := hc hp
  exact ⟨by rw [h hp]; simp, by omega⟩
theorem rtsIn_none {w : World} {p : Option Addr} {rs : List Rt} (h : RtsIn w p rs) : p = none → rs = [] := by
  rintro rfl
  rcases h with h | ⟨g, e, _⟩
  · exact h
  · cases e
theorem fromR_cells {w : World} {p : Option Addr} {cap k : Nat} {rs : List Rt} (h : RtsIn w p rs) (hl : rs.length ≤ cap) : ∀ ad, fromR p cap k = some ad → ∀ j u, (rowR (rs.drop k))[j]? = some u → w.cell? (ad.add j) = some u := by
  intro ad e j u hj
  rcases h with rfl | ⟨g, rfl, hg, hc⟩
  · simp [rowR] at hj
  · have hj9 : j < 9 * (rs.length - k) := by
      have := (List.getElem?_eq_some_iff.1 hj).1
      rw [rowR_length, List.length_drop] at this
      exact this
    unfold fromR at e
    rw [if_neg (by omega)] at e
    simp only [Option.map_some, Option.some.injEq] at e
    subst e
    have ea : ((⟨g, 0, none⟩ : Addr).add (k * 9)).add j = ⟨g, k * 9 + j, none⟩ := by rw [addR, addR, Nat.zero_add]
    rw [ea]
    refine hc _ _ ?_
    rw [← hj, ← List.take_append_drop k rs, rowR_append, List.take_append_drop, List.getElem?_append_right (by rw [rowR_length, List.length_take]; omega), rowR_length, List.length_take]
    congr 1
    omega
theorem fromR_upto {w : World} {p : Option Addr} {cap k : Nat} {rs : List Rt} (h : RtsIn w p rs) : ∀ ad, fromR p cap 0 = some ad → ∀ j u, (rowR (rs.take k))[j]? = some u → w.cell? (ad.add j) = some u := by
  intro ad e j u hj
  rcases h with rfl | ⟨g, rfl, hg, hc⟩
  · simp [rowR] at hj
  · have e' : ad = ⟨g, 0, none⟩ := by
      unfold fromR at e
      split at e
      · simpa using e.symm
      · simp only [Option.map_some, Option.some.injEq] at e
        rw [← e]; unfold Addr.add; split <;> simp_all
    subst e'
    have ea : (⟨g, 0, none⟩ : Addr).add j = ⟨g, j, none⟩ := by unfold Addr.add; split <;> simp_all
    rw [ea]
    refine hc _ _ ?_
    rw [← hj, ← List.take_append_drop k rs, rowR_append, List.take_append_drop]
    rw [List.getElem?_append_left (List.getElem?_eq_some_iff.1 hj).1]
end Go.Proofs.YtcnadobnihbldaaGreat
/- Ifaces that are unlike: by the program. (Written by gen_ifsr.py.) -/
namespace Go.Proofs.YtcnadobnihbldaaGreat
open Go.RowKit Go.Sort

def likeI (f g : If) : Bool := decide (f.d = g.d) || (decide (f.a = g.a) && decide (f.l = g.l))
def unlikeB (f : If) (rs : List If) : Bool := rs.all fun g => !likeI f g
theorem unlikeB_bad {f : If} {rs : List If} {k : Nat} (hk : k < rs.length) (h : likeI f rs[k] = true) : unlikeB f rs = false := by
  unfold unlikeB
  rw [List.all_eq_false]
  exact ⟨rs[k], List.getElem_mem hk, by simp [h]⟩
theorem unlikeB_good {f : If} {rs : List If} (h : ∀ j (hj : j < rs.length), likeI f rs[j] = false) : unlikeB f rs = true := by
  unfold unlikeB
  rw [List.all_eq_true]
  intro g hg
  obtain ⟨j, hj, rfl⟩ := List.mem_iff_getElem.1 hg
  simp [h j hj]
set_option maxRecDepth 100000 in
set_option maxHeartbeats 2000000 in
theorem unlike_any (f : If) (p : Option Addr) (cap : Nat) (rs : List If) (w : World) (h : IfsIn w p rs) (hn : rs.length ≤ 100000000) :
    Calls Tryz.prog 100 #[ifV f, .slice p rs.length cap] w fun e w' => e = .returned (.bool (unlikeB f rs)) ∧ Below w.heap.size w w' := by
  have HX : Hid (IfsIn w p rs) := h
  have HB1 : Hid (∀ k (hk : k < rs.length), likeI f rs[k] = true → unlikeB f rs = false) := fun k hk h => unlikeB_bad hk h
  have HG : Hid ((∀ j (hj : j < rs.length), likeI f rs[j] = false) → unlikeB f rs = true) := fun h => unlikeB_good h
  clear h
  generalize unlikeB f rs = R at *
  obtain ⟨d, a, l, c, u⟩ := f
  unfold ifV ifA
  simp only
  go_enter Tryz.func100, Tryz.ntmps100
  go_wp2_with fail
  go_loopw [9] (fun i wr => ∃ k : Nat, k ≤ rs.length ∧ i = .int .i64 k ∧ (∀ j (hj : j < rs.length), j < k → likeI ⟨d, a, l, c, u⟩ rs[j] = false) ∧ Row wr w.heap.size 53 [.int .i64 d, .int .i64 a, .int .i64 l, .int .i64 c, .bool u] ∧ Below w.heap.size w wr) (fun i _ => rs.length - (intOf i).toNat)
  case atStart => exact ⟨0, Nat.zero_le _, rfl, fun j _ hj => absurd hj (by omega), Row.new w 53 [.int .i64 d, .int .i64 a, .int .i64 l, .int .i64 c, .bool u], ent_new0 w _⟩
  case round =>
    obtain ⟨k, hk, rfl, ha, q, hB⟩ := hrel
    by_cases hlt : k < rs.length
    · have d1 : decide ((k : Int) < (rs.length : Int)) = true := by simpa using hlt
      obtain ⟨g, D, A, L, C, U, rfl, hg, hek, c0, c1, c2, c3, c4⟩ := (HX.out.below hB).at k hlt
      have HBad : Hid (likeI ⟨d, a, l, c, u⟩ rs[k] = true → R = false) := HB1.out k hlt
      have hNx : likeI ⟨d, a, l, c, u⟩ rs[k] = false → ∀ j (hj : j < rs.length), j < k + 1 → likeI ⟨d, a, l, c, u⟩ rs[j] = false := fun h j hj hjk => by
        rcases Nat.lt_or_ge j k with h' | h'
        · exact ha j hj h'
        · obtain rfl : j = k := by omega
          exact h
      have hBr := hB.alloc hB.size (.cells #[.int .i64 D, .int .i64 A, .int .i64 L, .int .i64 C, .bool U] 53)
      clear HB1 HG ha hB
      by_cases e0 : d = D
      · have z0 : (d == D) = true := by simpa using e0
        subst e0
        clear hNx
        have p := q.alloc (.cells #[.int .i64 d, .int .i64 A, .int .i64 L, .int .i64 C, .bool U] 53)
        have f0 : (wr.alloc (.cells #[.int .i64 d, .int .i64 A, .int .i64 L, .int .i64 C, .bool U] 53)).cell? ⟨w.heap.size, 0, none⟩ = some (.int .i64 d) := p.cell 0
        have f1 : (wr.alloc (.cells #[.int .i64 d, .int .i64 A, .int .i64 L, .int .i64 C, .bool U] 53)).cell? ⟨w.heap.size, 1, none⟩ = some (.int .i64 a) := p.cell 1
        have f2 : (wr.alloc (.cells #[.int .i64 d, .int .i64 A, .int .i64 L, .int .i64 C, .bool U] 53)).cell? ⟨w.heap.size, 2, none⟩ = some (.int .i64 l) := p.cell 2
        clear p
        go_wp2_with fail
        go_ret
        exact ⟨ret_bool (HBad.out (by rw [hek]; simp [likeI, *])).symm, hBr⟩
      · have z0 : (d == D) = false := by simpa using e0
        by_cases e1 : a = A
        · have z1 : (a == A) = true := by simpa using e1
          by_cases e2 : l = L
          · have z2 : (l == L) = true := by simpa using e2
            subst e1 e2
            clear hNx
            have p := q.alloc (.cells #[.int .i64 D, .int .i64 a, .int .i64 l, .int .i64 C, .bool U] 53)
            have f0 : (wr.alloc (.cells #[.int .i64 D, .int .i64 a, .int .i64 l, .int .i64 C, .bool U] 53)).cell? ⟨w.heap.size, 0, none⟩ = some (.int .i64 d) := p.cell 0
            have f1 : (wr.alloc (.cells #[.int .i64 D, .int .i64 a, .int .i64 l, .int .i64 C, .bool U] 53)).cell? ⟨w.heap.size, 1, none⟩ = some (.int .i64 a) := p.cell 1
            have f2 : (wr.alloc (.cells #[.int .i64 D, .int .i64 a, .int .i64 l, .int .i64 C, .bool U] 53)).cell? ⟨w.heap.size, 2, none⟩ = some (.int .i64 l) := p.cell 2
            clear p
            go_wp2_with fail
            go_ret
            exact ⟨ret_bool (HBad.out (by rw [hek]; simp [likeI, *])).symm, hBr⟩
          · have z2 : (l == L) = false := by simpa using e2
            have HNx : Hid _ := hNx (by rw [hek]; simp [likeI, e0, e2])
            clear HBad hek hNx e0 e1 e2
            have p := q.alloc (.cells #[.int .i64 D, .int .i64 A, .int .i64 L, .int .i64 C, .bool U] 53)
            have f0 : (wr.alloc (.cells #[.int .i64 D, .int .i64 A, .int .i64 L, .int .i64 C, .bool U] 53)).cell? ⟨w.heap.size, 0, none⟩ = some (.int .i64 d) := p.cell 0
            have f1 : (wr.alloc (.cells #[.int .i64 D, .int .i64 A, .int .i64 L, .int .i64 C, .bool U] 53)).cell? ⟨w.heap.size, 1, none⟩ = some (.int .i64 a) := p.cell 1
            have f2 : (wr.alloc (.cells #[.int .i64 D, .int .i64 A, .int .i64 L, .int .i64 C, .bool U] 53)).cell? ⟨w.heap.size, 2, none⟩ = some (.int .i64 l) := p.cell 2
            clear p
            go_wp2_with fail
            go_roundw
            case rel => exact ⟨k + 1, hlt, by go_num, HNx.out, q.alloc _, hBr⟩
            case measure => simp [intOf]; omega
        · have z1 : (a == A) = false := by simpa using e1
          have HNx : Hid _ := hNx (by rw [hek]; simp [likeI, e0, e1])
          clear HBad hek hNx e0 e1
          have p := q.alloc (.cells #[.int .i64 D, .int .i64 A, .int .i64 L, .int .i64 C, .bool U] 53)
          have f0 : (wr.alloc (.cells #[.int .i64 D, .int .i64 A, .int .i64 L, .int .i64 C, .bool U] 53)).cell? ⟨w.heap.size, 0, none⟩ = some (.int .i64 d) := p.cell 0
          have f1 : (wr.alloc (.cells #[.int .i64 D, .int .i64 A, .int .i64 L, .int .i64 C, .bool U] 53)).cell? ⟨w.heap.size, 1, none⟩ = some (.int .i64 a) := p.cell 1
          have f2 : (wr.alloc (.cells #[.int .i64 D, .int .i64 A, .int .i64 L, .int .i64 C, .bool U] 53)).cell? ⟨w.heap.size, 2, none⟩ = some (.int .i64 l) := p.cell 2
          clear p
          go_wp2_with fail
          go_roundw
          case rel => exact ⟨k + 1, hlt, by go_num, HNx.out, q.alloc _, hBr⟩
          case measure => simp [intOf]; omega
    · obtain rfl : k = rs.length := by omega
      have d1 : decide ((rs.length : Int) < (rs.length : Int)) = false := by simp
      have hR := HG.out (fun j hj => ha j hj hj)
      clear hlt hk HB1 HG ha
      go_wp2
      go_ret
      exact ⟨by rw [hR]; rfl, hB⟩
end Go.Proofs.YtcnadobnihbldaaGreat
/- The Ifaces of a router, right: by the program. (Written by gen_ifsr.py.) -/
namespace Go.Proofs.YtcnadobnihbldaaGreat
open Go.RowKit Go.Sort

def ifsOk (rs : List If) (k : Nat) : Bool := ifB rs[k]! && unlikeB rs[k]! (rs.take k)
def ifsB (rs : List If) : Bool := decide (rs.length ≤ 3) && (List.range rs.length).all (ifsOk rs)
theorem ifsB_bad {rs : List If} {k : Nat} (hk : k < rs.length) (h : ifsOk rs k = false) : ifsB rs = false := by
  unfold ifsB
  rw [Bool.and_eq_false_iff]
  right
  rw [List.all_eq_false]
  exact ⟨k, List.mem_range.2 hk, by simp [h]⟩
theorem ifsB_good {rs : List If} (h3 : rs.length ≤ 3) (h : ∀ j, j < rs.length → ifsOk rs j = true) : ifsB rs = true := by
  unfold ifsB
  rw [decide_eq_true h3, Bool.true_and, List.all_eq_true]
  intro j hj
  exact h j (List.mem_range.1 hj)
theorem get_bangI {rs : List If} {k : Nat} (h : k < rs.length) : rs[k]! = rs[k] := by simp [h]
theorem IfsIn.take {w : World} {p : Option Addr} {rs : List If} (h : IfsIn w p rs) (k : Nat) : IfsIn w p (rs.take k) := by
  rcases h with rfl | ⟨g, e, hg, hc⟩
  · exact .inl (by simp)
  · refine .inr ⟨g, e, hg, fun j u hj => hc j u ?_⟩
    rw [← List.take_append_drop k rs, rowI_append, List.getElem?_append_left (List.getElem?_eq_some_iff.1 hj).1]
    exact hj
theorem sliceI_upto (g n cap k : Nat) (x : Int) (hx : x = k) (hk : k ≤ cap) (w : World) : (Instr.slice 54 (.slice (some ⟨g, 0, none⟩) n cap) none (some (.int .i64 x)) none).run Tryz.prog w = .ok (.slice (some ⟨g, 0, none⟩) k cap) w := by
  subst hx
  have hb := run_sliceBound (P := Tryz.prog) w .i64 (k : Int) cap .sliceAcap (by omega) (by omega)
  have ha : (⟨g, 0, none⟩ : Addr).add 0 = ⟨g, 0, none⟩ := by unfold Addr.add; simp
  unfold Instr.slice Instr.sliceBounds
  simp [Sem.run_bind, run_underlying Tryz.underlying54, hb, ha]
set_option maxRecDepth 100000 in
set_option maxHeartbeats 4000000 in
theorem ifacesRight_any (p : Option Addr) (cap : Nat) (rs : List If) (w : World) (h : IfsIn w p rs) (hcl : rs.length ≤ cap) (hn : rs.length ≤ 100000000) :
    Calls Tryz.prog 59 #[.slice p rs.length cap] w fun e w' => e = .returned (.bool (ifsB rs)) ∧ Below w.heap.size w w' := by
  have HX : Hid (IfsIn w p rs) := h
  have HB1 : Hid (∀ k, k < rs.length → ifsOk rs k = false → ifsB rs = false) := fun k hk h => ifsB_bad hk h
  clear h
  by_cases h3 : rs.length ≤ 3
  · have d3 : decide (3 < (rs.length : Int)) = false := by simp; omega
    have HG : Hid ((∀ j, j < rs.length → ifsOk rs j = true) → ifsB rs = true) := fun h => ifsB_good h3 h
    generalize ifsB rs = R at *
    go_enter Tryz.func59, Tryz.ntmps59
    go_wp2_with fail
    go_loopw [10] (fun i wr => ∃ k : Nat, k ≤ rs.length ∧ i = .int .i64 k ∧ (∀ j, j < k → ifsOk rs j = true) ∧ Below w.heap.size w wr) (fun i _ => rs.length - (intOf i).toNat)
    case atStart => exact ⟨0, Nat.zero_le _, rfl, fun j hj => absurd hj (by omega), Below.refl _ _⟩
    case round =>
      obtain ⟨k, hk, rfl, ha, hB⟩ := hrel
      by_cases hlt : k < rs.length
      · have d1 : decide ((k : Int) < (rs.length : Int)) = true := by simpa using hlt
        obtain ⟨g, D, A, L, C, U, rfl, hg, hek, c0, c1, c2, c3, c4⟩ := (HX.out.below hB).at k hlt
        have hok : ifsOk rs k = (ifB ⟨D, A, L, C, U⟩ && unlikeB ⟨D, A, L, C, U⟩ (rs.take k)) := by unfold ifsOk; rw [get_bangI hlt, hek]
        have HI : Hid (∀ w, Calls Tryz.prog 99 #[.agg #[.int .i64 D, .int .i64 A, .int .i64 L, .int .i64 C, .bool U]] w fun e w' => e = .returned (.bool (ifB ⟨D, A, L, C, U⟩)) ∧ Below w.heap.size w w') := implIface_any ⟨D, A, L, C, U⟩
        have HU : Hid (∀ w, IfsIn w (some ⟨g, 0, none⟩) (rs.take k) → Calls Tryz.prog 100 #[.agg #[.int .i64 D, .int .i64 A, .int .i64 L, .int .i64 C, .bool U], .slice (some ⟨g, 0, none⟩) k cap] w fun e w' => e = .returned (.bool (unlikeB ⟨D, A, L, C, U⟩ (rs.take k))) ∧ Below w.heap.size w w') := fun w h => by
          have := unlike_any ⟨D, A, L, C, U⟩ (some ⟨g, 0, none⟩) cap (rs.take k) w h (by rw [List.length_take]; omega)
          rw [List.length_take, Nat.min_eq_left (by omega)] at this
          exact this
        have hX1 := ((HX.out.below hB).alloc (.cells #[.int .i64 D, .int .i64 A, .int .i64 L, .int .i64 C, .bool U] 53)).take k
        have qn := Row.new wr 53 [.int .i64 D, .int .i64 A, .int .i64 L, .int .i64 C, .bool U]
        have HBad : Hid (ifsOk rs k = false → R = false) := HB1.out k hlt
        have hNx : ifsOk rs k = true → ∀ j, j < k + 1 → ifsOk rs j = true := fun h j hj => by
          rcases Nat.lt_or_ge j k with h' | h'
          · exact ha j h'
          · obtain rfl : j = k := by omega
            exact h
        have HNx : Hid _ := hNx
        rw [hok] at HNx HBad
        have hBr := hB.alloc hB.size (.cells #[.int .i64 D, .int .i64 A, .int .i64 L, .int .i64 C, .bool U] 53)
        have hsl := sliceI_upto g rs.length cap k (k : Int) rfl (by omega)
        have y0 : (wr.alloc (.cells #[.int .i64 D, .int .i64 A, .int .i64 L, .int .i64 C, .bool U] 53)).cell? ⟨wr.heap.size, 0, none⟩ = some (.int .i64 D) := qn.cell 0
        have y1 : (wr.alloc (.cells #[.int .i64 D, .int .i64 A, .int .i64 L, .int .i64 C, .bool U] 53)).cell? ⟨wr.heap.size, 1, none⟩ = some (.int .i64 A) := qn.cell 1
        have y2 : (wr.alloc (.cells #[.int .i64 D, .int .i64 A, .int .i64 L, .int .i64 C, .bool U] 53)).cell? ⟨wr.heap.size, 2, none⟩ = some (.int .i64 L) := qn.cell 2
        have y3 : (wr.alloc (.cells #[.int .i64 D, .int .i64 A, .int .i64 L, .int .i64 C, .bool U] 53)).cell? ⟨wr.heap.size, 3, none⟩ = some (.int .i64 C) := qn.cell 3
        have y4 : (wr.alloc (.cells #[.int .i64 D, .int .i64 A, .int .i64 L, .int .i64 C, .bool U] 53)).cell? ⟨wr.heap.size, 4, none⟩ = some (.bool U) := qn.cell 4
        clear HB1 HG ha hB hok hNx qn hek
        generalize unlikeB ⟨D, A, L, C, U⟩ (rs.take k) = UB at *
        generalize ifB ⟨D, A, L, C, U⟩ = IB at *
        cases IB
        · clear HU hsl
          go_wp2_with fail
          replace y0 := cell_regrown y0
          replace y1 := cell_regrown y1
          replace y2 := cell_regrown y2
          replace y3 := cell_regrown y3
          replace y4 := cell_regrown y4
          refine wp_region_quiet_below (by kernel_rfl) (by kernel_rfl) ?_
          repeat (go_big_quiet_step (first | (go_at_call 99; exact Calls.regrown_of (HI.out _))))
          refine wpQuiet_nil ?_
          intro w1 hw'
          obtain ⟨⟨dq, osq⟩, hw''⟩ := hw'
          have hbq := below_regrown (wr.alloc (.cells #[.int .i64 D, .int .i64 A, .int .i64 L, .int .i64 C, .bool U] 53)) dq osq
          rw [← hw''] at hbq
          clear hw'' osq dq y0 y1 y2 y3 y4
          have hB2 := hBr.trans (hbq.mono hBr.size)
          clear hbq
          go_wp2
          go_ret
          exact ⟨ret_bool (HBad.out (by rfl)).symm, hB2⟩
        · cases UB
          · clear HNx
            go_wp2_with fail
            replace y0 := cell_regrown y0
            replace y1 := cell_regrown y1
            replace y2 := cell_regrown y2
            replace y3 := cell_regrown y3
            replace y4 := cell_regrown y4
            refine wp_region_quiet_below (by kernel_rfl) (by kernel_rfl) ?_
            repeat (go_big_quiet_step (first | (go_at_call 99; exact Calls.regrown_of (HI.out _)) | (go_at_call 100; exact Calls.regrown_of (HU.out _ (hX1.below (below_regrown _ _ _))))))
            refine wpQuiet_nil ?_
            intro w1 hw'
            obtain ⟨⟨dq, osq⟩, hw''⟩ := hw'
            have hbq := below_regrown (wr.alloc (.cells #[.int .i64 D, .int .i64 A, .int .i64 L, .int .i64 C, .bool U] 53)) dq osq
            rw [← hw''] at hbq
            clear hw'' osq dq y0 y1 y2 y3 y4
            have hB2 := hBr.trans (hbq.mono hBr.size)
            clear hbq
            go_wp2
            go_ret
            exact ⟨ret_bool (HBad.out (by rfl)).symm, hB2⟩
          · clear HBad
            go_wp2_with fail
            replace y0 := cell_regrown y0
            replace y1 := cell_regrown y1
            replace y2 := cell_regrown y2
            replace y3 := cell_regrown y3
            replace y4 := cell_regrown y4
            refine wp_region_quiet_below (by kernel_rfl) (by kernel_rfl) ?_
            repeat (go_big_quiet_step (first | (go_at_call 99; exact Calls.regrown_of (HI.out _)) | (go_at_call 100; exact Calls.regrown_of (HU.out _ (hX1.below (below_regrown _ _ _))))))
            refine wpQuiet_nil ?_
            intro w1 hw'
            obtain ⟨⟨dq, osq⟩, hw''⟩ := hw'
            have hbq := below_regrown (wr.alloc (.cells #[.int .i64 D, .int .i64 A, .int .i64 L, .int .i64 C, .bool U] 53)) dq osq
            rw [← hw''] at hbq
            clear hw'' osq dq y0 y1 y2 y3 y4
            have hB2 := hBr.trans (hbq.mono hBr.size)
            clear hbq
            go_wp2
            go_roundw
            case rel => exact ⟨k + 1, hlt, by go_num, HNx.out (by rfl), hB2⟩
            case measure => simp [intOf]; omega
      · obtain rfl : k = rs.length := by omega
        have d1 : decide ((rs.length : Int) < (rs.length : Int)) = false := by simp
        have hR := HG.out ha
        clear hlt hk HB1 HG ha
        go_wp2
        go_ret
        exact ⟨by rw [hR]; rfl, hB⟩
  · have d3 : decide (3 < (rs.length : Int)) = true := by simp; omega
    have hf : ifsB rs = false := by unfold ifsB; rw [decide_eq_false h3]; rfl
    rw [hf]
    clear HB1 hf
    go_enter Tryz.func59, Tryz.ntmps59
    go_wp2
    go_ret
    exact ⟨rfl, Below.refl _ _⟩
end Go.Proofs.YtcnadobnihbldaaGreat
/- The Ifaces of a router, right: by the model. (Written by gen_ifss.py.) -/
namespace Go.Proofs.YtcnadobnihbldaaGreat
open Go.RowKit Go.Sort

theorem likeI_comm (f g : If) : likeI f g = likeI g f := by
  unfold likeI
  rw [Bool.eq_iff_iff]
  simp only [Bool.or_eq_true, Bool.and_eq_true, decide_eq_true_eq]
  omega
theorem ifsOk_bad {rs : List If} {k j : Nat} (hk : k < rs.length) (hj : j < k) (h : likeI rs[j]! rs[k]! = true) : ifsOk rs k = false := by
  unfold ifsOk
  rw [Bool.and_eq_false_iff]
  right
  refine unlikeB_bad (k := j) (by rw [List.length_take]; omega) ?_
  rw [List.getElem_take, likeI_comm, ← get_bangI (by omega)]
  exact h
theorem ifsOk_good {rs : List If} {k : Nat} (hk : k < rs.length) (hi : ifB rs[k]! = true) (h : ∀ j, j < k → likeI rs[j]! rs[k]! = false) : ifsOk rs k = true := by
  unfold ifsOk
  rw [hi, Bool.true_and]
  refine unlikeB_good fun j hj => ?_
  rw [List.length_take] at hj
  rw [List.getElem_take, likeI_comm, ← get_bangI (by omega)]
  exact h j (by omega)
set_option maxRecDepth 100000 in
set_option maxHeartbeats 4000000 in
theorem l07Ifaces_any (p : Option Addr) (cap : Nat) (rs : List If) (w : World) (h : IfsIn w p rs) (hn : rs.length ≤ 100000000) :
    Calls Tryz.prog 55 #[.slice p rs.length cap] w fun e w' => e = .returned (.bool (ifsB rs)) ∧ Below w.heap.size w w' := by
  have HX : Hid (IfsIn w p rs) := h
  have HB1 : Hid (∀ k, k < rs.length → ifsOk rs k = false → ifsB rs = false) := fun k hk h => ifsB_bad hk h
  clear h
  by_cases h3 : rs.length ≤ 3
  · have d3 : decide (3 < (rs.length : Int)) = false := by simp; omega
    have HG : Hid ((∀ j, j < rs.length → ifsOk rs j = true) → ifsB rs = true) := fun h => ifsB_good h3 h
    generalize ifsB rs = R at *
    go_enter Tryz.func55, Tryz.ntmps55
    go_wp2_with fail
    go_loopw [3] (fun i wr => ∃ k : Nat, k ≤ rs.length ∧ i = .int .i64 k ∧ (∀ j, j < k → ifsOk rs j = true) ∧ Below w.heap.size w wr) (fun i _ => rs.length - (intOf i).toNat)
    case atStart => exact ⟨0, Nat.zero_le _, rfl, fun j hj => absurd hj (by omega), Below.refl _ _⟩
    case round =>
      obtain ⟨k, hk, rfl, ha, hB⟩ := hrel
      by_cases hlt : k < rs.length
      · have d1 : decide ((k : Int) < (rs.length : Int)) = true := by simpa using hlt
        obtain ⟨g, d, a, l, c, u, rfl, hg, hek, c0, c1, c2, c3, c4⟩ := (HX.out.below hB).at k hlt
        have hbk : rs[k]! = ⟨d, a, l, c, u⟩ := (get_bangI hlt).trans hek
        have HI : Hid (∀ w, Calls Tryz.prog 92 #[.agg #[.int .i64 d, .int .i64 a, .int .i64 l, .int .i64 c, .bool u]] w fun e w' => e = .returned (.bool (ifB ⟨d, a, l, c, u⟩)) ∧ Below w.heap.size w w') := specIface_any ⟨d, a, l, c, u⟩
        have HBad : Hid (ifsOk rs k = false → R = false) := HB1.out k hlt
        have HNxO : Hid (ifsOk rs k = true → ∀ j, j < k + 1 → ifsOk rs j = true) := fun h j hj => by
          rcases Nat.lt_or_ge j k with h' | h'
          · exact ha j h'
          · obtain rfl : j = k := by omega
            exact h
        have HBI : Hid (ifB ⟨d, a, l, c, u⟩ = false → ifsOk rs k = false) := fun h => by unfold ifsOk; rw [hbk, h]; rfl
        have HGo : Hid (ifB ⟨d, a, l, c, u⟩ = true → (∀ j, j < k → likeI rs[j]! rs[k]! = false) → ifsOk rs k = true) := fun h h' => ifsOk_good hlt (by rw [hbk]; exact h) h'
        have HLb : Hid (∀ j, j < k → likeI rs[j]! rs[k]! = true → ifsOk rs k = false) := fun j hj h => ifsOk_bad hlt hj h
        have HBK : Hid _ := hbk
        clear HB1 HG ha hek hbk
        go_wp2_with fail
        refine (HI.out _).mono ?_
        rintro e w1 ⟨rfl, hb1⟩
        have hB1 := hB.trans (hb1.mono hB.size)
        clear hb1 HI c0 c1 c2 c3 c4 hB
        generalize ifB ⟨d, a, l, c, u⟩ = IB at *
        cases IB
        · go_wp2
          go_ret
          exact ⟨ret_bool (HBad.out (HBI.out (by trivial))).symm, hB1⟩
        · clear HBI
          go_wp2_with fail
          go_loopw [4] (fun i wr => ∃ j : Nat, j ≤ k ∧ i = .int .i64 j ∧ (∀ t, t < j → likeI rs[t]! rs[k]! = false) ∧ Below w.heap.size w wr) (fun i _ => k - (intOf i).toNat)
          case atStart => exact ⟨0, Nat.zero_le _, rfl, fun j hj => absurd hj (by omega), hB1⟩
          case round =>
            obtain ⟨j, hj, rfl, hb, hB2⟩ := hrel
            clear hB1
            by_cases hjk : j < k
            · have d2 : decide ((j : Int) < (k : Int)) = true := by simpa using hjk
              have hjN : j < rs.length := by omega
              have d4 : decide ((j : Int) < (rs.length : Int)) = true := by simp; omega
              obtain ⟨g', D, A, L, C, U, hgg, hg', hej, x0, x1, x2, x3, x4⟩ := (HX.out.below hB2).at j hjN
              simp only [Option.some.injEq, Addr.mk.injEq, and_true] at hgg
              subst hgg
              obtain ⟨g', d', a', l', c', u', hgg, hg', hek', y0, y1, y2, y3, y4⟩ := (HX.out.below hB2).at k hlt
              simp only [Option.some.injEq, Addr.mk.injEq, and_true] at hgg
              subst hgg
              have hh := (get_bangI hlt).symm.trans HBK.out
              rw [hek'] at hh
              simp only [If.mk.injEq] at hh
              obtain ⟨rfl, rfl, rfl, rfl, rfl⟩ := hh
              have hlk : likeI rs[j]! rs[k]! = (decide (D = d') || (decide (A = a') && decide (L = l'))) := by rw [get_bangI hjN, get_bangI hlt, hej, hek']; rfl
              have HNe : Hid (likeI rs[j]! rs[k]! = false → ∀ t, t < j + 1 → likeI rs[t]! rs[k]! = false) := fun h t ht => by
                rcases Nat.lt_or_ge t j with h' | h'
                · exact hb t h'
                · obtain rfl : t = j := by omega
                  exact h
              have HLj : Hid (likeI rs[j]! rs[k]! = true → R = false) := fun h => HBad.out (HLb.out j hjk h)
              rw [hlk] at HLj
              have HNe2 : Hid ((decide (D = d') || (decide (A = a') && decide (L = l'))) = false → ∀ t, t < j + 1 → likeI rs[t]! rs[k]! = false) := fun h => HNe.out (by rw [hlk]; exact h)
              clear x3 x4 y3 y4 HNe hlk hek' hej hb HGo HLb HNxO
              by_cases e0 : D = d'
              · have z0 : (D == d') = true := by simpa using e0
                have HLk : Hid (R = false) := HLj.out (by simp [e0])
                clear e0 HLj HNe2 HBad
                go_wp2_with fail
                replace x0 := cell_regrown x0
                replace x1 := cell_regrown x1
                replace x2 := cell_regrown x2
                replace y0 := cell_regrown y0
                replace y1 := cell_regrown y1
                replace y2 := cell_regrown y2
                refine wp_region_quiet_below (by kernel_rfl) (by kernel_rfl) ?_
                repeat (go_big_quiet_step (fail))
                refine wpQuiet_nil ?_
                intro w3 hw'
                obtain ⟨⟨dq, osq⟩, hw''⟩ := hw'
                have hbq := below_regrown wr dq osq
                rw [← hw''] at hbq
                clear hw'' osq dq x0 x1 x2 y0 y1 y2
                have hB3 := hB2.trans (hbq.mono hB2.size)
                clear hbq
                go_wp2
                go_ret
                exact ⟨ret_bool HLk.out.symm, hB3⟩
              · have z0 : (D == d') = false := by simpa using e0
                by_cases e1 : A = a'
                · have z1 : (A == a') = true := by simpa using e1
                  by_cases e2 : L = l'
                  · have z2 : (L == l') = true := by simpa using e2
                    have HLk : Hid (R = false) := HLj.out (by simp [e1, e2])
                    clear e0 e1 e2 HLj HNe2 HBad
                    go_wp2_with fail
                    replace x0 := cell_regrown x0
                    replace x1 := cell_regrown x1
                    replace x2 := cell_regrown x2
                    replace y0 := cell_regrown y0
                    replace y1 := cell_regrown y1
                    replace y2 := cell_regrown y2
                    refine wp_region_quiet_below (by kernel_rfl) (by kernel_rfl) ?_
                    repeat (go_big_quiet_step (fail))
                    refine wpQuiet_nil ?_
                    intro w3 hw'
                    obtain ⟨⟨dq, osq⟩, hw''⟩ := hw'
                    have hbq := below_regrown wr dq osq
                    rw [← hw''] at hbq
                    clear hw'' osq dq x0 x1 x2 y0 y1 y2
                    have hB3 := hB2.trans (hbq.mono hB2.size)
                    clear hbq
                    go_wp2
                    go_ret
                    exact ⟨ret_bool HLk.out.symm, hB3⟩
                  · have z2 : (L == l') = false := by simpa using e2
                    have HNx : Hid _ := HNe2.out (by simp [e0, e2])
                    clear e0 e1 e2 HLj HNe2 HBad
                    go_wp2_with fail
                    replace x0 := cell_regrown x0
                    replace x1 := cell_regrown x1
                    replace x2 := cell_regrown x2
                    replace y0 := cell_regrown y0
                    replace y1 := cell_regrown y1
                    replace y2 := cell_regrown y2
                    refine wp_region_quiet_below (by kernel_rfl) (by kernel_rfl) ?_
                    repeat (go_big_quiet_step (fail))
                    refine wpQuiet_nil ?_
                    intro w3 hw'
                    obtain ⟨⟨dq, osq⟩, hw''⟩ := hw'
                    have hbq := below_regrown wr dq osq
                    rw [← hw''] at hbq
                    clear hw'' osq dq x0 x1 x2 y0 y1 y2
                    have hB3 := hB2.trans (hbq.mono hB2.size)
                    clear hbq
                    go_wp2
                    go_roundw
                    case rel => exact ⟨j + 1, hjk, by go_num, HNx.out, hB3⟩
                    case measure => simp [intOf]; omega
                · have z1 : (A == a') = false := by simpa using e1
                  have HNx : Hid _ := HNe2.out (by simp [e0, e1])
                  clear e0 e1 HLj HNe2 HBad
                  go_wp2_with fail
                  replace x0 := cell_regrown x0
                  replace x1 := cell_regrown x1
                  replace x2 := cell_regrown x2
                  replace y0 := cell_regrown y0
                  replace y1 := cell_regrown y1
                  replace y2 := cell_regrown y2
                  refine wp_region_quiet_below (by kernel_rfl) (by kernel_rfl) ?_
                  repeat (go_big_quiet_step (fail))
                  refine wpQuiet_nil ?_
                  intro w3 hw'
                  obtain ⟨⟨dq, osq⟩, hw''⟩ := hw'
                  have hbq := below_regrown wr dq osq
                  rw [← hw''] at hbq
                  clear hw'' osq dq x0 x1 x2 y0 y1 y2
                  have hB3 := hB2.trans (hbq.mono hB2.size)
                  clear hbq
                  go_wp2
                  go_roundw
                  case rel => exact ⟨j + 1, hjk, by go_num, HNx.out, hB3⟩
                  case measure => simp [intOf]; omega
            · obtain rfl : j = k := by omega
              have d2 : decide ((j : Int) < (j : Int)) = false := by simp
              have HNx : Hid _ := HNxO.out (HGo.out (by trivial) hb)
              clear hjk hj HBad HGo HLb HNxO hb
              go_wp2
              go_roundw
              case rel => exact ⟨j + 1, hlt, by go_num, HNx.out, hB2⟩
              case measure => simp [intOf]; omega
      · obtain rfl : k = rs.length := by omega
        have d1 : decide ((rs.length : Int) < (rs.length : Int)) = false := by simp
        have hR := HG.out ha
        clear hlt hk HB1 HG ha
        go_wp2
        go_ret
        exact ⟨by rw [hR]; rfl, hB⟩
  · have d3 : decide (3 < (rs.length : Int)) = true := by simp; omega
    have hf : ifsB rs = false := by unfold ifsB; rw [decide_eq_false h3]; rfl
    rw [hf]
    clear HB1 hf
    go_enter Tryz.func55, Tryz.ntmps55
    go_wp2
    go_ret
    exact ⟨rfl, Below.refl _ _⟩
end Go.Proofs.YtcnadobnihbldaaGreat
/- Is a table right? Asked by the program and by the model. (Written by gen_ribr.py.) -/
namespace Go.Proofs.YtcnadobnihbldaaGreat
open Go.RowKit Go.Sort

/-- One route's net is ahead of another one's. -/
def ltR (r s : Rt) : Bool := decide (r.a < s.a) || (r.a == s.a && decide (r.l < s.l))
/-- The route at k is right, and behind the one ahead of it. -/
def okAt (rs : List Rt) (k : Nat) : Bool := routeB rs[k]! && (decide (k = 0) || ltR rs[k - 1]! rs[k]!)
def ribB (rs : List Rt) : Bool := decide (rs.length ≤ 8) && (List.range rs.length).all (okAt rs)
theorem get_bang {rs : List Rt} {k : Nat} (h : k < rs.length) : rs[k]! = rs[k] := by simp [h]
theorem ribB_long {rs : List Rt} (h : ¬ rs.length ≤ 8) : ribB rs = false := by simp [ribB, h]
theorem ribB_bad {rs : List Rt} {k : Nat} (hk : k < rs.length) (h : okAt rs k = false) : ribB rs = false := by
  unfold ribB
  have : (List.range rs.length).all (okAt rs) = false := by
    rw [List.all_eq_false]
    exact ⟨k, List.mem_range.2 hk, by rw [h]; simp⟩
  rw [this, Bool.and_false]
theorem ribB_good {rs : List Rt} (h8 : rs.length ≤ 8) (h : ∀ j, j < rs.length → okAt rs j = true) : ribB rs = true := by
  unfold ribB
  have : (List.range rs.length).all (okAt rs) = true := by
    rw [List.all_eq_true]
    exact fun j hj => h j (List.mem_range.1 hj)
  rw [this, decide_eq_true h8]; rfl
theorem ribB_spec {rs : List Rt} (h : ribB rs = true) : rs.length ≤ 8 ∧ ∀ j, j < rs.length → okAt rs j = true := by
  simp only [ribB, Bool.and_eq_true, decide_eq_true_eq, List.all_eq_true] at h
  exact ⟨h.1, fun j hj => h.2 j (List.mem_range.2 hj)⟩
theorem okAt_route {rs : List Rt} {k : Nat} (h : okAt rs k = true) : routeB rs[k]! = true := by
  unfold okAt at h; simp only [Bool.and_eq_true] at h; exact h.1
theorem routeB_right {r : Rt} (h : routeB r = true) : rightB r.a r.l = true := by
  unfold routeB saidB entB rtE at h
  simp only [Bool.and_eq_true] at h
  exact h.1.1.1.1.1.1
theorem box1 {w w1 : World} {x : Value} {t : TypeId} (h : Below (w.alloc (.cells #[x] t)).heap.size (w.alloc (.cells #[x] t)) w1) : w1.cell? ⟨w.heap.size, 0, none⟩ = some x ∧ Below w.heap.size w w1 := by
  have q := Row.new w t [x]
  exact ⟨(q.below h q.lt).cell 0, (ent_new0 w _).trans (h.mono (by simp))⟩
set_option maxRecDepth 100000 in
set_option maxHeartbeats 1000000 in
theorem implRib_any (p : Option Addr) (cap : Nat) (rs : List Rt) (w : World) (h : RtsIn w p rs) (hn : rs.length ≤ 100000000) :
    Calls Tryz.prog 146 #[ribV p rs.length cap] w fun e w' => e = .returned (.bool (ribB rs)) ∧ Below w.heap.size w w' := by
  have HE : Hid (∀ e w, Calls Tryz.prog 170 #[rtV e] w fun r w' => r = .returned (.bool (routeB e)) ∧ Below w.heap.size w w') := implRoute_any
  have HL : Hid (∀ a l b m w, Calls Tryz.prog 171 #[.agg #[.int .i64 a, .int .i64 l], .agg #[.int .i64 b, .int .i64 m]] w fun e w' => e = .returned (.bool (lessB a l b m)) ∧ Below w.heap.size w w') := fun a l b m w => implLess_any a l b m w
  have HBd : Hid (∀ k, k < rs.length → okAt rs k = false → ribB rs = false) := fun k hk hf => ribB_bad hk hf
  have HX : Hid (RtsIn w p rs) := h
  clear h
  unfold ribV
  by_cases hl : rs.length ≤ 8
  · have d8 : decide (8 < (rs.length : Int)) = false := by simp; omega
    have HYs : Hid ((∀ j, j < rs.length → okAt rs j = true) → ribB rs = true) := fun h => ribB_good hl h
    generalize ribB rs = R at *
    go_enter Tryz.func146, Tryz.ntmps146
    go_wp2_with fail
    go_loopw [12] (fun i wr => ∃ k : Nat, k ≤ rs.length ∧ i = .int .i64 k ∧ (∀ j, j < k → okAt rs j = true) ∧ Below (w.alloc (.cells #[.slice p rs.length cap] 59)).heap.size (w.alloc (.cells #[.slice p rs.length cap] 59)) wr) (fun i _ => rs.length - (intOf i).toNat)
    case atStart => exact ⟨0, Nat.zero_le _, rfl, fun j hj => absurd hj (by omega), Below.refl _ _⟩
    case round =>
      obtain ⟨k, hk, rfl, ha, hb0⟩ := hrel
      obtain ⟨x0, hb⟩ := box1 hb0
      by_cases hlt : k < rs.length
      · have d1 : decide ((k : Int) < (rs.length : Int)) = true := by simpa using hlt
        obtain ⟨g, a, l, m, n, ii, t, u, b, c, rfl, hg, hek, c0, c1, c2, c3, c4, c5, c6, c7, c8⟩ := (HX.out.below hb).at k hlt
        have hbk : rs[k]! = ⟨a, l, m, n, ii, t, u, b, c⟩ := (get_bang hlt).trans hek
        have HEk : Hid (∀ w, Calls Tryz.prog 170 #[.agg #[.int .i64 a, .int .i64 l, .int .i64 m, .int .i64 n, .int .i64 ii, .int .i64 t, .int .i64 u, .int .i64 b, .bool c]] w fun r w' => r = .returned (.bool (routeB ⟨a, l, m, n, ii, t, u, b, c⟩)) ∧ Below w.heap.size w w') := HE.out ⟨a, l, m, n, ii, t, u, b, c⟩
        have HBk : Hid (okAt rs k = false → R = false) := HBd.out k hlt
        have HNx : Hid (okAt rs k = true → ∀ j, j < k + 1 → okAt rs j = true) := fun h j hj => by
          rcases Nat.lt_or_ge j k with h' | h'
          · exact ha j h'
          · obtain rfl : j = k := by omega
            exact h
        by_cases hz : k = 0
        · have hok : okAt rs k = routeB ⟨a, l, m, n, ii, t, u, b, c⟩ := by unfold okAt; rw [hbk, decide_eq_true hz]; simp
          rw [hok] at HBk HNx
          clear hok HE HL hek HBd ha hbk
          generalize routeB ⟨a, l, m, n, ii, t, u, b, c⟩ = B at *
          have z0 : decide (0 < k) = false := by simp; omega
          have z1 : decide (0 < (k : Int)) = false := by simp; omega
          clear hz
          have HBN : Hid (Below wr.heap.size wr (wr.alloc (.cells #[.int .i64 a, .int .i64 l, .int .i64 m, .int .i64 n, .int .i64 ii, .int .i64 t, .int .i64 u, .int .i64 b, .bool c] 155))) := ent_new0 wr _
          have HQN : Hid (Row (wr.alloc (.cells #[.int .i64 a, .int .i64 l, .int .i64 m, .int .i64 n, .int .i64 ii, .int .i64 t, .int .i64 u, .int .i64 b, .bool c] 155)) wr.heap.size 155 [.int .i64 a, .int .i64 l, .int .i64 m, .int .i64 n, .int .i64 ii, .int .i64 t, .int .i64 u, .int .i64 b, .bool c]) := Row.new wr _ _
          have HX0 : Hid ((wr.alloc (.cells #[.int .i64 a, .int .i64 l, .int .i64 m, .int .i64 n, .int .i64 ii, .int .i64 t, .int .i64 u, .int .i64 b, .bool c] 155)).cell? ⟨w.heap.size, 0, none⟩ = some (.slice (some ⟨g, 0, none⟩) rs.length cap)) := by show _ = _; rw [HBN.out.cell (p := ⟨w.heap.size, 0, none⟩) (by have := hb0.size; simp at this; show w.heap.size < wr.heap.size; omega)]; exact x0
          cases B
          · go_wp2_with fail
            clear c0 c1 c2 c3 c4 c5 c6 c7 c8 x0
            generalize (wr.alloc (.cells #[.int .i64 a, .int .i64 l, .int .i64 m, .int .i64 n, .int .i64 ii, .int .i64 t, .int .i64 u, .int .i64 b, .bool c] 155)) = WR at *
            have x0 := cell_regrown HX0.out
            have c0 : WR.cell? ⟨wr.heap.size, 0, none⟩ = some (.int .i64 a) := HQN.out.cell 0
            replace c0 := cell_regrown c0
            have c1 : WR.cell? ⟨wr.heap.size, 1, none⟩ = some (.int .i64 l) := HQN.out.cell 1
            replace c1 := cell_regrown c1
            have c2 : WR.cell? ⟨wr.heap.size, 2, none⟩ = some (.int .i64 m) := HQN.out.cell 2
            replace c2 := cell_regrown c2
            have c3 : WR.cell? ⟨wr.heap.size, 3, none⟩ = some (.int .i64 n) := HQN.out.cell 3
            replace c3 := cell_regrown c3
            have c4 : WR.cell? ⟨wr.heap.size, 4, none⟩ = some (.int .i64 ii) := HQN.out.cell 4
            replace c4 := cell_regrown c4
            have c5 : WR.cell? ⟨wr.heap.size, 5, none⟩ = some (.int .i64 t) := HQN.out.cell 5
            replace c5 := cell_regrown c5
            have c6 : WR.cell? ⟨wr.heap.size, 6, none⟩ = some (.int .i64 u) := HQN.out.cell 6
            replace c6 := cell_regrown c6
            have c7 : WR.cell? ⟨wr.heap.size, 7, none⟩ = some (.int .i64 b) := HQN.out.cell 7
            replace c7 := cell_regrown c7
            have c8 : WR.cell? ⟨wr.heap.size, 8, none⟩ = some (.bool c) := HQN.out.cell 8
            replace c8 := cell_regrown c8
            refine wp_region_quiet_below (by kernel_rfl) (by kernel_rfl) ?_
            repeat (go_big_quiet_step (first | (go_at_call 170; exact Calls.regrown_of (HEk.out _))))
            refine wpQuiet_nil ?_
            intro w1 hw'
            obtain ⟨⟨dq, osq⟩, hw''⟩ := hw'
            have hbq := below_regrown WR dq osq
            rw [← hw''] at hbq
            clear hw'' osq dq
            clear c0 c1 c2 c3 c4 c5 c6 c7 c8 x0 HQN HX0
            have hB1 := hb.trans ((HBN.out.trans (hbq.mono HBN.out.size)).mono hb.size)
            clear hbq HBN
            go_wp2
            go_ret
            exact ⟨ret_bool (HBk.out (by trivial)).symm, hB1⟩
          · go_wp2_with fail
            clear c0 c1 c2 c3 c4 c5 c6 c7 c8 x0
            generalize (wr.alloc (.cells #[.int .i64 a, .int .i64 l, .int .i64 m, .int .i64 n, .int .i64 ii, .int .i64 t, .int .i64 u, .int .i64 b, .bool c] 155)) = WR at *
            have x0 := cell_regrown HX0.out
            have c0 : WR.cell? ⟨wr.heap.size, 0, none⟩ = some (.int .i64 a) := HQN.out.cell 0
            replace c0 := cell_regrown c0
            have c1 : WR.cell? ⟨wr.heap.size, 1, none⟩ = some (.int .i64 l) := HQN.out.cell 1
            replace c1 := cell_regrown c1
            have c2 : WR.cell? ⟨wr.heap.size, 2, none⟩ = some (.int .i64 m) := HQN.out.cell 2
            replace c2 := cell_regrown c2
            have c3 : WR.cell? ⟨wr.heap.size, 3, none⟩ = some (.int .i64 n) := HQN.out.cell 3
            replace c3 := cell_regrown c3
            have c4 : WR.cell? ⟨wr.heap.size, 4, none⟩ = some (.int .i64 ii) := HQN.out.cell 4
            replace c4 := cell_regrown c4
            have c5 : WR.cell? ⟨wr.heap.size, 5, none⟩ = some (.int .i64 t) := HQN.out.cell 5
            replace c5 := cell_regrown c5
            have c6 : WR.cell? ⟨wr.heap.size, 6, none⟩ = some (.int .i64 u) := HQN.out.cell 6
            replace c6 := cell_regrown c6
            have c7 : WR.cell? ⟨wr.heap.size, 7, none⟩ = some (.int .i64 b) := HQN.out.cell 7
            replace c7 := cell_regrown c7
            have c8 : WR.cell? ⟨wr.heap.size, 8, none⟩ = some (.bool c) := HQN.out.cell 8
            replace c8 := cell_regrown c8
            refine wp_region_quiet_below (by kernel_rfl) (by kernel_rfl) ?_
            repeat (go_big_quiet_step (first | (go_at_call 170; exact Calls.regrown_of (HEk.out _))))
            refine wpQuiet_nil ?_
            intro w1 hw'
            obtain ⟨⟨dq, osq⟩, hw''⟩ := hw'
            have hbq := below_regrown WR dq osq
            rw [← hw''] at hbq
            clear hw'' osq dq
            clear c0 c1 c2 c3 c4 c5 c6 c7 c8 x0 HQN HX0
            have hB0 := hb0.trans ((HBN.out.trans (hbq.mono HBN.out.size)).mono hb0.size)
            clear hbq HBN
            go_wp2
            go_roundw
            case rel => exact ⟨k + 1, hlt, by go_num, HNx.out (by trivial), hB0⟩
            case measure => simp [intOf]; omega
        · obtain ⟨g', a', l', m', n', ii', t', u', b', c', hgg, hg', hej, d0, d1', d2, d3, d4, d5, d6, d7, d8⟩ := (HX.out.below hb).at (k - 1) (by omega)
          simp only [Option.some.injEq, Addr.mk.injEq, and_true] at hgg
          subst hgg
          have hbj : rs[k - 1]! = ⟨a', l', m', n', ii', t', u', b', c'⟩ := (get_bang (by omega)).trans hej
          have hrj := okAt_route (ha (k - 1) (by omega))
          rw [hbj] at hrj
          have hok : okAt rs k = (routeB ⟨a, l, m, n, ii, t, u, b, c⟩ && (decide (a' < a) || (a' == a && decide (l' < l)))) := by unfold okAt; rw [hbk, hbj, decide_eq_false hz]; rfl
          have HLk : Hid (∀ w, Calls Tryz.prog 171 #[.agg #[.int .i64 a', .int .i64 l'], .agg #[.int .i64 a, .int .i64 l]] w fun e w' => e = .returned (.bool (lessB a' l' a l)) ∧ Below w.heap.size w w') := HL.out a' l' a l
          have HLe : Hid (routeB ⟨a, l, m, n, ii, t, u, b, c⟩ = true → lessB a' l' a l = (decide (a' < a) || (a' == a && decide (l' < l)))) := fun h => by unfold lessB; rw [routeB_right hrj, routeB_right h]; rfl
          rw [hok] at HBk HNx
          clear hok HE HL hek hej HBd ha hbk hbj hrj
          generalize routeB ⟨a, l, m, n, ii, t, u, b, c⟩ = B at *
          have z0 : decide (0 < k) = true := by simp; omega
          have z1 : decide (0 < (k : Int)) = true := by simp; omega
          have z2 : IntKind.i64.wrap ((k : Int) - 1) = ((k - 1 : Nat) : Int) := by rw [wrap_i64_in _ (by omega) (by omega)]; omega
          have z3 : (k : Int) - 1 = ((k - 1 : Nat) : Int) := by omega
          have z4 : decide (((k - 1 : Nat) : Int) < (rs.length : Int)) = true := by simp; omega
          have z5 : k - 1 < rs.length := by omega
          have HBN : Hid (Below wr.heap.size wr (wr.alloc (.cells #[.int .i64 a, .int .i64 l, .int .i64 m, .int .i64 n, .int .i64 ii, .int .i64 t, .int .i64 u, .int .i64 b, .bool c] 155))) := ent_new0 wr _
          have HQN : Hid (Row (wr.alloc (.cells #[.int .i64 a, .int .i64 l, .int .i64 m, .int .i64 n, .int .i64 ii, .int .i64 t, .int .i64 u, .int .i64 b, .bool c] 155)) wr.heap.size 155 [.int .i64 a, .int .i64 l, .int .i64 m, .int .i64 n, .int .i64 ii, .int .i64 t, .int .i64 u, .int .i64 b, .bool c]) := Row.new wr _ _
          have HX0 : Hid ((wr.alloc (.cells #[.int .i64 a, .int .i64 l, .int .i64 m, .int .i64 n, .int .i64 ii, .int .i64 t, .int .i64 u, .int .i64 b, .bool c] 155)).cell? ⟨w.heap.size, 0, none⟩ = some (.slice (some ⟨g, 0, none⟩) rs.length cap)) := by show _ = _; rw [HBN.out.cell (p := ⟨w.heap.size, 0, none⟩) (by have := hb0.size; simp at this; show w.heap.size < wr.heap.size; omega)]; exact x0
          have HD0 : Hid ((wr.alloc (.cells #[.int .i64 a, .int .i64 l, .int .i64 m, .int .i64 n, .int .i64 ii, .int .i64 t, .int .i64 u, .int .i64 b, .bool c] 155)).cell? ⟨g, (k - 1) * 9, none⟩ = some (.int .i64 a')) := by show _ = _; rw [HBN.out.cell (p := ⟨g, (k - 1) * 9, none⟩) hg]; exact d0
          have HD1 : Hid ((wr.alloc (.cells #[.int .i64 a, .int .i64 l, .int .i64 m, .int .i64 n, .int .i64 ii, .int .i64 t, .int .i64 u, .int .i64 b, .bool c] 155)).cell? ⟨g, (k - 1) * 9 + 1, none⟩ = some (.int .i64 l')) := by show _ = _; rw [HBN.out.cell (p := ⟨g, (k - 1) * 9 + 1, none⟩) hg]; exact d1'
          clear d0 d1' d2 d3 d4 d5 d6 d7 d8
          cases B
          · clear HLk
            go_wp2_with fail
            clear c0 c1 c2 c3 c4 c5 c6 c7 c8 x0
            generalize (wr.alloc (.cells #[.int .i64 a, .int .i64 l, .int .i64 m, .int .i64 n, .int .i64 ii, .int .i64 t, .int .i64 u, .int .i64 b, .bool c] 155)) = WR at *
            have x0 := cell_regrown HX0.out
            have c0 : WR.cell? ⟨wr.heap.size, 0, none⟩ = some (.int .i64 a) := HQN.out.cell 0
            replace c0 := cell_regrown c0
            have c1 : WR.cell? ⟨wr.heap.size, 1, none⟩ = some (.int .i64 l) := HQN.out.cell 1
            replace c1 := cell_regrown c1
            have c2 : WR.cell? ⟨wr.heap.size, 2, none⟩ = some (.int .i64 m) := HQN.out.cell 2
            replace c2 := cell_regrown c2
            have c3 : WR.cell? ⟨wr.heap.size, 3, none⟩ = some (.int .i64 n) := HQN.out.cell 3
            replace c3 := cell_regrown c3
            have c4 : WR.cell? ⟨wr.heap.size, 4, none⟩ = some (.int .i64 ii) := HQN.out.cell 4
            replace c4 := cell_regrown c4
            have c5 : WR.cell? ⟨wr.heap.size, 5, none⟩ = some (.int .i64 t) := HQN.out.cell 5
            replace c5 := cell_regrown c5
            have c6 : WR.cell? ⟨wr.heap.size, 6, none⟩ = some (.int .i64 u) := HQN.out.cell 6
            replace c6 := cell_regrown c6
            have c7 : WR.cell? ⟨wr.heap.size, 7, none⟩ = some (.int .i64 b) := HQN.out.cell 7
            replace c7 := cell_regrown c7
            have c8 : WR.cell? ⟨wr.heap.size, 8, none⟩ = some (.bool c) := HQN.out.cell 8
            replace c8 := cell_regrown c8
            have d0 := cell_regrown HD0.out
            have d1' := cell_regrown HD1.out
            refine wp_region_quiet_below (by kernel_rfl) (by kernel_rfl) ?_
            repeat (go_big_quiet_step (first | (go_at_call 170; exact Calls.regrown_of (HEk.out _))))
            refine wpQuiet_nil ?_
            intro w1 hw'
            obtain ⟨⟨dq, osq⟩, hw''⟩ := hw'
            have hbq := below_regrown WR dq osq
            rw [← hw''] at hbq
            clear hw'' osq dq
            clear c0 c1 c2 c3 c4 c5 c6 c7 c8 x0 d0 d1' HQN HX0 HD0 HD1
            have hB1 := hb.trans ((HBN.out.trans (hbq.mono HBN.out.size)).mono hb.size)
            clear hbq HBN
            go_wp2
            go_ret
            exact ⟨ret_bool (HBk.out (by trivial)).symm, hB1⟩
          · have HLe' := HLe.out (by trivial)
            rw [HLe'] at HLk
            clear HLe HLe'
            generalize (decide (a' < a) || (a' == a && decide (l' < l))) = L at *
            cases L
            · go_wp2_with fail
              clear c0 c1 c2 c3 c4 c5 c6 c7 c8 x0
              generalize (wr.alloc (.cells #[.int .i64 a, .int .i64 l, .int .i64 m, .int .i64 n, .int .i64 ii, .int .i64 t, .int .i64 u, .int .i64 b, .bool c] 155)) = WR at *
              have x0 := cell_regrown HX0.out
              have c0 : WR.cell? ⟨wr.heap.size, 0, none⟩ = some (.int .i64 a) := HQN.out.cell 0
              replace c0 := cell_regrown c0
              have c1 : WR.cell? ⟨wr.heap.size, 1, none⟩ = some (.int .i64 l) := HQN.out.cell 1
              replace c1 := cell_regrown c1
              have c2 : WR.cell? ⟨wr.heap.size, 2, none⟩ = some (.int .i64 m) := HQN.out.cell 2
              replace c2 := cell_regrown c2
              have c3 : WR.cell? ⟨wr.heap.size, 3, none⟩ = some (.int .i64 n) := HQN.out.cell 3
              replace c3 := cell_regrown c3
              have c4 : WR.cell? ⟨wr.heap.size, 4, none⟩ = some (.int .i64 ii) := HQN.out.cell 4
              replace c4 := cell_regrown c4
              have c5 : WR.cell? ⟨wr.heap.size, 5, none⟩ = some (.int .i64 t) := HQN.out.cell 5
              replace c5 := cell_regrown c5
              have c6 : WR.cell? ⟨wr.heap.size, 6, none⟩ = some (.int .i64 u) := HQN.out.cell 6
              replace c6 := cell_regrown c6
              have c7 : WR.cell? ⟨wr.heap.size, 7, none⟩ = some (.int .i64 b) := HQN.out.cell 7
              replace c7 := cell_regrown c7
              have c8 : WR.cell? ⟨wr.heap.size, 8, none⟩ = some (.bool c) := HQN.out.cell 8
              replace c8 := cell_regrown c8
              have d0 := cell_regrown HD0.out
              have d1' := cell_regrown HD1.out
              refine wp_region_quiet_below (by kernel_rfl) (by kernel_rfl) ?_
              repeat (go_big_quiet_step (first | (go_at_call 170; exact Calls.regrown_of (HEk.out _)) | (go_at_call 171; exact Calls.regrown_of (HLk.out _))))
              refine wpQuiet_nil ?_
              intro w1 hw'
              obtain ⟨⟨dq, osq⟩, hw''⟩ := hw'
              have hbq := below_regrown WR dq osq
              rw [← hw''] at hbq
              clear hw'' osq dq
              clear c0 c1 c2 c3 c4 c5 c6 c7 c8 x0 d0 d1' HQN HX0 HD0 HD1
              have hB1 := hb.trans ((HBN.out.trans (hbq.mono HBN.out.size)).mono hb.size)
              clear hbq HBN
              go_wp2
              go_ret
              exact ⟨ret_bool (HBk.out (by trivial)).symm, hB1⟩
            · go_wp2_with fail
              clear c0 c1 c2 c3 c4 c5 c6 c7 c8 x0
              generalize (wr.alloc (.cells #[.int .i64 a, .int .i64 l, .int .i64 m, .int .i64 n, .int .i64 ii, .int .i64 t, .int .i64 u, .int .i64 b, .bool c] 155)) = WR at *
              have x0 := cell_regrown HX0.out
              have c0 : WR.cell? ⟨wr.heap.size, 0, none⟩ = some (.int .i64 a) := HQN.out.cell 0
              replace c0 := cell_regrown c0
              have c1 : WR.cell? ⟨wr.heap.size, 1, none⟩ = some (.int .i64 l) := HQN.out.cell 1
              replace c1 := cell_regrown c1
              have c2 : WR.cell? ⟨wr.heap.size, 2, none⟩ = some (.int .i64 m) := HQN.out.cell 2
              replace c2 := cell_regrown c2
              have c3 : WR.cell? ⟨wr.heap.size, 3, none⟩ = some (.int .i64 n) := HQN.out.cell 3
              replace c3 := cell_regrown c3
              have c4 : WR.cell? ⟨wr.heap.size, 4, none⟩ = some (.int .i64 ii) := HQN.out.cell 4
              replace c4 := cell_regrown c4
              have c5 : WR.cell? ⟨wr.heap.size, 5, none⟩ = some (.int .i64 t) := HQN.out.cell 5
              replace c5 := cell_regrown c5
              have c6 : WR.cell? ⟨wr.heap.size, 6, none⟩ = some (.int .i64 u) := HQN.out.cell 6
              replace c6 := cell_regrown c6
              have c7 : WR.cell? ⟨wr.heap.size, 7, none⟩ = some (.int .i64 b) := HQN.out.cell 7
              replace c7 := cell_regrown c7
              have c8 : WR.cell? ⟨wr.heap.size, 8, none⟩ = some (.bool c) := HQN.out.cell 8
              replace c8 := cell_regrown c8
              have d0 := cell_regrown HD0.out
              have d1' := cell_regrown HD1.out
              refine wp_region_quiet_below (by kernel_rfl) (by kernel_rfl) ?_
              repeat (go_big_quiet_step (first | (go_at_call 170; exact Calls.regrown_of (HEk.out _)) | (go_at_call 171; exact Calls.regrown_of (HLk.out _))))
              refine wpQuiet_nil ?_
              intro w1 hw'
              obtain ⟨⟨dq, osq⟩, hw''⟩ := hw'
              have hbq := below_regrown WR dq osq
              rw [← hw''] at hbq
              clear hw'' osq dq
              clear c0 c1 c2 c3 c4 c5 c6 c7 c8 x0 d0 d1' HQN HX0 HD0 HD1
              have hB0 := hb0.trans ((HBN.out.trans (hbq.mono HBN.out.size)).mono hb0.size)
              clear hbq HBN
              go_wp2
              go_roundw
              case rel => exact ⟨k + 1, hlt, by go_num, HNx.out (by trivial), hB0⟩
              case measure => simp [intOf]; omega
      · obtain rfl : k = rs.length := by omega
        have d1 : decide ((rs.length : Int) < (rs.length : Int)) = false := by simp
        have hR := HYs.out ha
        clear hlt hk
        go_wp2
        go_ret
        exact ⟨ret_bool hR.symm, hb⟩
  · rw [ribB_long hl]
    have d8 : decide (8 < (rs.length : Int)) = true := by simp; omega
    go_enter Tryz.func146, Tryz.ntmps146
    go_wp2
    go_ret
    exact ⟨rfl, ent_new0 w _⟩
set_option maxRecDepth 100000 in
set_option maxHeartbeats 1000000 in
theorem specRib_any (p : Option Addr) (cap : Nat) (rs : List Rt) (w : World) (h : RtsIn w p rs) (hn : rs.length ≤ 100000000) :
    Calls Tryz.prog 108 #[ribV p rs.length cap] w fun e w' => e = .returned (.bool (ribB rs)) ∧ Below w.heap.size w w' := by
  have HE : Hid (∀ e w, Calls Tryz.prog 140 #[rtV e] w fun r w' => r = .returned (.bool (routeB e)) ∧ Below w.heap.size w w') := specRoute_any
  have HL : Hid (∀ a l b m w, Calls Tryz.prog 135 #[.agg #[.int .i64 a, .int .i64 l], .agg #[.int .i64 b, .int .i64 m]] w fun e w' => e = .returned (.bool (decide (a < b) || (a == b && decide (l < m)))) ∧ Below w.heap.size w w') := fun a l b m w => l03Less_any a l b m w
  have HBd : Hid (∀ k, k < rs.length → okAt rs k = false → ribB rs = false) := fun k hk hf => ribB_bad hk hf
  have HX : Hid (RtsIn w p rs) := h
  clear h
  unfold ribV
  by_cases hl : rs.length ≤ 8
  · have d8 : decide (8 < (rs.length : Int)) = false := by simp; omega
    have HYs : Hid ((∀ j, j < rs.length → okAt rs j = true) → ribB rs = true) := fun h => ribB_good hl h
    generalize ribB rs = R at *
    go_enter Tryz.func108, Tryz.ntmps108
    go_wp2_with fail
    go_loopw [3] (fun i wr => ∃ k : Nat, k ≤ rs.length ∧ i = .int .i64 k ∧ (∀ j, j < k → okAt rs j = true) ∧ Below (w.alloc (.cells #[.slice p rs.length cap] 59)).heap.size (w.alloc (.cells #[.slice p rs.length cap] 59)) wr) (fun i _ => rs.length - (intOf i).toNat)
    case atStart => exact ⟨0, Nat.zero_le _, rfl, fun j hj => absurd hj (by omega), Below.refl _ _⟩
    case round =>
      obtain ⟨k, hk, rfl, ha, hb0⟩ := hrel
      obtain ⟨x0, hb⟩ := box1 hb0
      by_cases hlt : k < rs.length
      · have d1 : decide ((k : Int) < (rs.length : Int)) = true := by simpa using hlt
        obtain ⟨g, a, l, m, n, ii, t, u, b, c, rfl, hg, hek, c0, c1, c2, c3, c4, c5, c6, c7, c8⟩ := (HX.out.below hb).at k hlt
        have hbk : rs[k]! = ⟨a, l, m, n, ii, t, u, b, c⟩ := (get_bang hlt).trans hek
        have HEk : Hid (∀ w, Calls Tryz.prog 140 #[.agg #[.int .i64 a, .int .i64 l, .int .i64 m, .int .i64 n, .int .i64 ii, .int .i64 t, .int .i64 u, .int .i64 b, .bool c]] w fun r w' => r = .returned (.bool (routeB ⟨a, l, m, n, ii, t, u, b, c⟩)) ∧ Below w.heap.size w w') := HE.out ⟨a, l, m, n, ii, t, u, b, c⟩
        have HBk : Hid (okAt rs k = false → R = false) := HBd.out k hlt
        have HNx : Hid (okAt rs k = true → ∀ j, j < k + 1 → okAt rs j = true) := fun h j hj => by
          rcases Nat.lt_or_ge j k with h' | h'
          · exact ha j h'
          · obtain rfl : j = k := by omega
            exact h
        by_cases hz : k = 0
        · have hok : okAt rs k = routeB ⟨a, l, m, n, ii, t, u, b, c⟩ := by unfold okAt; rw [hbk, decide_eq_true hz]; simp
          rw [hok] at HBk HNx
          clear hok HE HL hek HBd ha hbk
          generalize routeB ⟨a, l, m, n, ii, t, u, b, c⟩ = B at *
          have z0 : decide (0 < k) = false := by simp; omega
          have z1 : decide (0 < (k : Int)) = false := by simp; omega
          clear hz
          have HBN : Hid (Below wr.heap.size wr wr) := Below.refl _ _
          cases B
          · go_wp2_with fail
            replace x0 := cell_regrown x0
            replace c0 := cell_regrown c0
            replace c1 := cell_regrown c1
            replace c2 := cell_regrown c2
            replace c3 := cell_regrown c3
            replace c4 := cell_regrown c4
            replace c5 := cell_regrown c5
            replace c6 := cell_regrown c6
            replace c7 := cell_regrown c7
            replace c8 := cell_regrown c8
            refine wp_region_quiet_below (by kernel_rfl) (by kernel_rfl) ?_
            repeat (go_big_quiet_step (first | (go_at_call 140; exact Calls.regrown_of (HEk.out _))))
            refine wpQuiet_nil ?_
            intro w1 hw'
            obtain ⟨⟨dq, osq⟩, hw''⟩ := hw'
            have hbq := below_regrown wr dq osq
            rw [← hw''] at hbq
            clear hw'' osq dq
            clear c0 c1 c2 c3 c4 c5 c6 c7 c8 x0
            have hB1 := hb.trans ((HBN.out.trans (hbq.mono HBN.out.size)).mono hb.size)
            clear hbq HBN
            go_wp2
            go_ret
            exact ⟨ret_bool (HBk.out (by trivial)).symm, hB1⟩
          · go_wp2_with fail
            replace x0 := cell_regrown x0
            replace c0 := cell_regrown c0
            replace c1 := cell_regrown c1
            replace c2 := cell_regrown c2
            replace c3 := cell_regrown c3
            replace c4 := cell_regrown c4
            replace c5 := cell_regrown c5
            replace c6 := cell_regrown c6
            replace c7 := cell_regrown c7
            replace c8 := cell_regrown c8
            refine wp_region_quiet_below (by kernel_rfl) (by kernel_rfl) ?_
            repeat (go_big_quiet_step (first | (go_at_call 140; exact Calls.regrown_of (HEk.out _))))
            refine wpQuiet_nil ?_
            intro w1 hw'
            obtain ⟨⟨dq, osq⟩, hw''⟩ := hw'
            have hbq := below_regrown wr dq osq
            rw [← hw''] at hbq
            clear hw'' osq dq
            clear c0 c1 c2 c3 c4 c5 c6 c7 c8 x0
            have hB0 := hb0.trans ((HBN.out.trans (hbq.mono HBN.out.size)).mono hb0.size)
            clear hbq HBN
            go_wp2
            go_roundw
            case rel => exact ⟨k + 1, hlt, by go_num, HNx.out (by trivial), hB0⟩
            case measure => simp [intOf]; omega
        · obtain ⟨g', a', l', m', n', ii', t', u', b', c', hgg, hg', hej, d0, d1', d2, d3, d4, d5, d6, d7, d8⟩ := (HX.out.below hb).at (k - 1) (by omega)
          simp only [Option.some.injEq, Addr.mk.injEq, and_true] at hgg
          subst hgg
          have hbj : rs[k - 1]! = ⟨a', l', m', n', ii', t', u', b', c'⟩ := (get_bang (by omega)).trans hej
          have hrj := okAt_route (ha (k - 1) (by omega))
          rw [hbj] at hrj
          have hok : okAt rs k = (routeB ⟨a, l, m, n, ii, t, u, b, c⟩ && (decide (a' < a) || (a' == a && decide (l' < l)))) := by unfold okAt; rw [hbk, hbj, decide_eq_false hz]; rfl
          have HLk : Hid (∀ w, Calls Tryz.prog 135 #[.agg #[.int .i64 a', .int .i64 l'], .agg #[.int .i64 a, .int .i64 l]] w fun e w' => e = .returned (.bool (decide (a' < a) || (a' == a && decide (l' < l)))) ∧ Below w.heap.size w w') := HL.out a' l' a l
          rw [hok] at HBk HNx
          clear hok HE HL hek hej HBd ha hbk hbj hrj
          generalize routeB ⟨a, l, m, n, ii, t, u, b, c⟩ = B at *
          have z0 : decide (0 < k) = true := by simp; omega
          have z1 : decide (0 < (k : Int)) = true := by simp; omega
          have z2 : IntKind.i64.wrap ((k : Int) - 1) = ((k - 1 : Nat) : Int) := by rw [wrap_i64_in _ (by omega) (by omega)]; omega
          have z3 : (k : Int) - 1 = ((k - 1 : Nat) : Int) := by omega
          have z4 : decide (((k - 1 : Nat) : Int) < (rs.length : Int)) = true := by simp; omega
          have z5 : k - 1 < rs.length := by omega
          have HBN : Hid (Below wr.heap.size wr wr) := Below.refl _ _
          clear d2 d3 d4 d5 d6 d7 d8
          cases B
          · clear HLk
            go_wp2_with fail
            replace x0 := cell_regrown x0
            replace c0 := cell_regrown c0
            replace c1 := cell_regrown c1
            replace c2 := cell_regrown c2
            replace c3 := cell_regrown c3
            replace c4 := cell_regrown c4
            replace c5 := cell_regrown c5
            replace c6 := cell_regrown c6
            replace c7 := cell_regrown c7
            replace c8 := cell_regrown c8
            replace d0 := cell_regrown d0
            replace d1' := cell_regrown d1'
            refine wp_region_quiet_below (by kernel_rfl) (by kernel_rfl) ?_
            repeat (go_big_quiet_step (first | (go_at_call 140; exact Calls.regrown_of (HEk.out _))))
            refine wpQuiet_nil ?_
            intro w1 hw'
            obtain ⟨⟨dq, osq⟩, hw''⟩ := hw'
            have hbq := below_regrown wr dq osq
            rw [← hw''] at hbq
            clear hw'' osq dq
            clear c0 c1 c2 c3 c4 c5 c6 c7 c8 x0 d0 d1'
            have hB1 := hb.trans ((HBN.out.trans (hbq.mono HBN.out.size)).mono hb.size)
            clear hbq HBN
            go_wp2
            go_ret
            exact ⟨ret_bool (HBk.out (by trivial)).symm, hB1⟩
          · generalize (decide (a' < a) || (a' == a && decide (l' < l))) = L at *
            cases L
            · go_wp2_with fail
              replace x0 := cell_regrown x0
              replace c0 := cell_regrown c0
              replace c1 := cell_regrown c1
              replace c2 := cell_regrown c2
              replace c3 := cell_regrown c3
              replace c4 := cell_regrown c4
              replace c5 := cell_regrown c5
              replace c6 := cell_regrown c6
              replace c7 := cell_regrown c7
              replace c8 := cell_regrown c8
              replace d0 := cell_regrown d0
              replace d1' := cell_regrown d1'
              refine wp_region_quiet_below (by kernel_rfl) (by kernel_rfl) ?_
              repeat (go_big_quiet_step (first | (go_at_call 140; exact Calls.regrown_of (HEk.out _)) | (go_at_call 135; exact Calls.regrown_of (HLk.out _))))
              refine wpQuiet_nil ?_
              intro w1 hw'
              obtain ⟨⟨dq, osq⟩, hw''⟩ := hw'
              have hbq := below_regrown wr dq osq
              rw [← hw''] at hbq
              clear hw'' osq dq
              clear c0 c1 c2 c3 c4 c5 c6 c7 c8 x0 d0 d1'
              have hB1 := hb.trans ((HBN.out.trans (hbq.mono HBN.out.size)).mono hb.size)
              clear hbq HBN
              go_wp2
              go_ret
              exact ⟨ret_bool (HBk.out (by trivial)).symm, hB1⟩
            · go_wp2_with fail
              replace x0 := cell_regrown x0
              replace c0 := cell_regrown c0
              replace c1 := cell_regrown c1
              replace c2 := cell_regrown c2
              replace c3 := cell_regrown c3
              replace c4 := cell_regrown c4
              replace c5 := cell_regrown c5
              replace c6 := cell_regrown c6
              replace c7 := cell_regrown c7
              replace c8 := cell_regrown c8
              replace d0 := cell_regrown d0
              replace d1' := cell_regrown d1'
              refine wp_region_quiet_below (by kernel_rfl) (by kernel_rfl) ?_
              repeat (go_big_quiet_step (first | (go_at_call 140; exact Calls.regrown_of (HEk.out _)) | (go_at_call 135; exact Calls.regrown_of (HLk.out _))))
              refine wpQuiet_nil ?_
              intro w1 hw'
              obtain ⟨⟨dq, osq⟩, hw''⟩ := hw'
              have hbq := below_regrown wr dq osq
              rw [← hw''] at hbq
              clear hw'' osq dq
              clear c0 c1 c2 c3 c4 c5 c6 c7 c8 x0 d0 d1'
              have hB0 := hb0.trans ((HBN.out.trans (hbq.mono HBN.out.size)).mono hb0.size)
              clear hbq HBN
              go_wp2
              go_roundw
              case rel => exact ⟨k + 1, hlt, by go_num, HNx.out (by trivial), hB0⟩
              case measure => simp [intOf]; omega
      · obtain rfl : k = rs.length := by omega
        have d1 : decide ((rs.length : Int) < (rs.length : Int)) = false := by simp
        have hR := HYs.out ha
        clear hlt hk
        go_wp2
        go_ret
        exact ⟨ret_bool hR.symm, hb⟩
  · rw [ribB_long hl]
    have d8 : decide (8 < (rs.length : Int)) = true := by simp; omega
    go_enter Tryz.func108, Tryz.ntmps108
    go_wp2
    go_ret
    exact ⟨rfl, ent_new0 w _⟩
end Go.Proofs.YtcnadobnihbldaaGreat
/- InstRight, of the program and of the model. (Written by gen_inst.py.) -/
namespace Go.Proofs.YtcnadobnihbldaaGreat
open Go.RowKit Go.Sort

def instB (is : List If) (rs : List Rt) (now : Int) : Bool := ifsB is && (ribB rs && (decide (0 ≤ now) && decide (now ≤ 999800)))
set_option maxRecDepth 100000 in
set_option maxHeartbeats 2000000 in
theorem implInst_any (x : Option Addr) (c1 : Nat) (y : Option Addr) (c2 : Nat) (is : List If) (rs : List Rt) (now : Int) (w : World) (h1 : IfsIn w x is) (hc : is.length ≤ c1) (h2 : RtsIn w y rs) (hn1 : is.length ≤ 100000000) (hn2 : rs.length ≤ 100000000) :
    Calls Tryz.prog 115 #[instV x is.length c1 y rs.length c2 now] w fun e w' => e = .returned (.bool (instB is rs now)) ∧ Below w.heap.size w w' := by
  have HI : Hid (∀ w, IfsIn w x is → Calls Tryz.prog 59 #[.slice x is.length c1] w fun e w' => e = .returned (.bool (ifsB is)) ∧ Below w.heap.size w w') := fun w h => ifacesRight_any x c1 is w h hc hn1
  have HR : Hid (∀ w, RtsIn w y rs → Calls Tryz.prog 146 #[.agg #[.slice y rs.length c2]] w fun e w' => e = .returned (.bool (ribB rs)) ∧ Below w.heap.size w w') := fun w h => implRib_any y c2 rs w h hn2
  have HX : Hid (IfsIn w x is ∧ RtsIn w y rs) := ⟨h1, h2⟩
  clear h1 h2 hc hn1 hn2
  unfold instV instB
  generalize is.length = n1 at *
  generalize rs.length = n2 at *
  generalize ifsB is = IB at *
  generalize ribB rs = RBB at *
  have q0 := Row.new w 61 [.slice x n1 c1, .slice y n2 c2, .int .i64 now]
  have HQ : Hid _ := And.intro q0 (ent_new0 w (.cells #[.slice x n1 c1, .slice y n2 c2, .int .i64 now] 61))
  clear q0
  go_enter Tryz.func115, Tryz.ntmps115
  go_wp2_with fail
  obtain ⟨q0, hB⟩ := HQ.out
  refine (HI.out _ (HX.out.1.below hB)).mono ?_
  rintro e w1 ⟨rfl, hb1⟩
  have q0 := q0.below hb1 q0.lt
  have hB := hB.trans (hb1.mono hB.size)
  clear hb1 HI HQ
  have x1 : w1.cell? ⟨w.heap.size, 1, none⟩ = some (.slice y n2 c2) := q0.cell 1
  cases IB
  · go_wp2
    go_ret
    exact ⟨rfl, hB⟩
  · go_wp2_with fail
    refine (HR.out _ (HX.out.2.below hB)).mono ?_
    rintro e w2 ⟨rfl, hb2⟩
    have q0 := q0.below hb2 q0.lt
    have hB := hB.trans (hb2.mono hB.size)
    clear hb2 HR x1
    have x2 : w2.cell? ⟨w.heap.size, 2, none⟩ = some (.int .i64 now) := q0.cell 2
    cases RBB
    · go_wp2
      go_ret
      exact ⟨rfl, hB⟩
    · by_cases k1 : 0 ≤ now
      · by_cases k2 : now ≤ 999800
        · go_wp2
          go_ret
          exact ⟨ret_bool (by simp [k1, k2]), hB⟩
        · go_wp2
          go_ret
          exact ⟨ret_bool (by simp; omega), hB⟩
      · go_wp2
        go_ret
        exact ⟨ret_bool (by simp; omega), hB⟩
set_option maxRecDepth 100000 in
set_option maxHeartbeats 2000000 in
theorem specInst_any (x : Option Addr) (c1 : Nat) (y : Option Addr) (c2 : Nat) (is : List If) (rs : List Rt) (now : Int) (w : World) (h1 : IfsIn w x is) (_hc : is.length ≤ c1) (h2 : RtsIn w y rs) (hn1 : is.length ≤ 100000000) (hn2 : rs.length ≤ 100000000) :
    Calls Tryz.prog 66 #[instV x is.length c1 y rs.length c2 now] w fun e w' => e = .returned (.bool (instB is rs now)) ∧ Below w.heap.size w w' := by
  have HI : Hid (∀ w, IfsIn w x is → Calls Tryz.prog 55 #[.slice x is.length c1] w fun e w' => e = .returned (.bool (ifsB is)) ∧ Below w.heap.size w w') := fun w h => l07Ifaces_any x c1 is w h hn1
  have HR : Hid (∀ w, RtsIn w y rs → Calls Tryz.prog 108 #[.agg #[.slice y rs.length c2]] w fun e w' => e = .returned (.bool (ribB rs)) ∧ Below w.heap.size w w') := fun w h => specRib_any y c2 rs w h hn2
  have HN : Hid (∀ w, Calls Tryz.prog 26 #[.int .i64 now, .int .i64 0, .int .i64 999800] w fun e w' => e = .returned (.bool (decide (0 ≤ now) && decide (now ≤ 999800))) ∧ w = w') := fun w => (l03Is_any now 0 999800 w).mono fun e w' h => by rw [← Bool.decide_and]; exact h
  have HX : Hid (IfsIn w x is ∧ RtsIn w y rs) := ⟨h1, h2⟩
  clear h1 h2 _hc hn1 hn2
  unfold instV instB
  generalize is.length = n1 at *
  generalize rs.length = n2 at *
  generalize ifsB is = IB at *
  generalize ribB rs = RBB at *
  have q0 := Row.new w 61 [.slice x n1 c1, .slice y n2 c2, .int .i64 now]
  have HQ : Hid _ := And.intro q0 (ent_new0 w (.cells #[.slice x n1 c1, .slice y n2 c2, .int .i64 now] 61))
  clear q0
  go_enter Tryz.func66, Tryz.ntmps66
  go_wp2_with fail
  obtain ⟨q0, hB⟩ := HQ.out
  refine (HI.out _ (HX.out.1.below hB)).mono ?_
  rintro e w1 ⟨rfl, hb1⟩
  have q0 := q0.below hb1 q0.lt
  have hB := hB.trans (hb1.mono hB.size)
  clear hb1 HI HQ
  have x1 : w1.cell? ⟨w.heap.size, 1, none⟩ = some (.slice y n2 c2) := q0.cell 1
  cases IB
  · go_wp2
    go_ret
    exact ⟨rfl, hB⟩
  · go_wp2_with fail
    refine (HR.out _ (HX.out.2.below hB)).mono ?_
    rintro e w2 ⟨rfl, hb2⟩
    have q0 := q0.below hb2 q0.lt
    have hB := hB.trans (hb2.mono hB.size)
    clear hb2 HR x1
    have x2 : w2.cell? ⟨w.heap.size, 2, none⟩ = some (.int .i64 now) := q0.cell 2
    cases RBB
    · go_wp2
      go_ret
      exact ⟨rfl, hB⟩
    · go_wp2_with fail
      refine (HN.out _).mono ?_
      rintro e w3 ⟨rfl, rfl⟩
      go_wp2
      go_ret
      exact ⟨rfl, hB⟩
end Go.Proofs.YtcnadobnihbldaaGreat
