/- Texts that stand on each other, in one file: MeshA, MeshOutL, HasI, ThereL, InstB, MarkMesh, SzSum, OpMesh, DistM, ApartS. -/
import Derived.Test.YtcnadobnihbldaaGreatPack17
import Derived.Test.YtcnadobnihbldaaGreatPack18
import Derived.Test.YtcnadobnihbldaaGreatPack13
import Derived.Test.YtcnadobnihbldaaGreatTail
import Derived.Lib.QuietBelow
import Derived.BigQuiet
import Derived.Test.YtcnadobnihbldaaGreatPack16
import Derived.Test.YtcnadobnihbldaaGreatPack8
/- A Mesh: its value; measured, handed over, alike. (Written by gen_mesha.py.) -/
namespace Go.Proofs.YtcnadobnihbldaaGreat
open Go.RowKit Go.Sort

theorem box2m {w w1 : World} {x0 x1 : Value} {t : TypeId} (h : Below (w.alloc (.cells #[x0, x1] t)).heap.size (w.alloc (.cells #[x0, x1] t)) w1) :
    Row w1 w.heap.size t [x0, x1] ∧ Below w.heap.size w w1 := by
  have q := Row.new w t [x0, x1]
  exact ⟨q.below h q.lt, (ent_new0 w _).trans (h.mono (by simp))⟩
set_option maxRecDepth 100000 in
set_option maxHeartbeats 4000000 in
theorem szMesh_any (p : Option Addr) (c1 : Nat) (q : Option Addr) (c2 : Nat) (ps : List IvP) (ls : List Li) (L : Int) (w : World) (h : ArgIvs w p ps.length ps ∧ ArgLi w q ls.length ls) (h0 : 0 ≤ L) (hL : L ≤ 1048576) :
    Calls Tryz.prog 15 #[.agg #[.slice p ps.length c1, .slice q ls.length c2], .int .i64 L] w fun e w' => (∃ v : Int, e = .returned (.int .i64 v) ∧ v ≤ L ∧ (v < 0 ∨ 0 ≤ v ∧ ps.length ≤ 1048576 ∧ ls.length ≤ 1048576 ∧ ∀ e ∈ ps, IvS e.2)) ∧ Below w.heap.size w w' := by
  have HA : Hid (∀ w1, Below w.heap.size w w1 → Calls Tryz.prog 34 #[.slice p ps.length c1, .int .i64 L] w1 fun e w' => (∃ v : Int, e = .returned (.int .i64 v) ∧ v ≤ L ∧ (v < 0 ∨ 0 ≤ v ∧ ps.length ≤ 1048576 ∧ ∀ e ∈ ps, IvS e.2)) ∧ Below w1.heap.size w1 w') := fun w1 hb => szInstS_any p c1 ps L w1 (h.1.below hb) h0 hL
  have HC : Hid (∀ L : Int, 0 ≤ L → L ≤ 1048576 → ∀ w, Calls Tryz.prog 35 #[.slice q ls.length c2, .int .i64 L] w fun e w' => e = .returned (.int .i64 (if (ls.length : Int) ≤ L then L - (ls.length : Int) else -1)) ∧ w = w') := fun L a b w => szLinkS_any q ls.length c2 L w h.2.2.1 a b
  clear h
  generalize ps.length = n1 at *
  generalize ls.length = n2 at *
  go_enter Tryz.func15, Tryz.ntmps15
  go_wp2_with fail
  refine (HA.out _ (ent_new0 w _)).mono ?_
  rintro e w1 ⟨⟨v1, rfl, hv1, hc1⟩, hb1⟩
  obtain ⟨r0, hB⟩ := box2m hb1
  clear hb1 HA
  rcases hc1 with hc1 | ⟨g1, m1, m2⟩
  · have d1 : decide (v1 < 0) = true := by simpa using hc1
    clear hc1
    go_wp2
    go_ret
    exact ⟨⟨_, rfl, by omega, .inl (by omega)⟩, hB⟩
  have d1 : decide (v1 < 0) = false := by simp; omega
  have y1 : w1.cell? ⟨w.heap.size, 1, none⟩ = some (.slice q n2 c2) := r0.cell 1
  go_wp2_with fail
  refine (HC.out v1 (by omega) (by omega) _).mono ?_
  rintro e w2 ⟨rfl, rfl⟩
  clear y1
  by_cases k2 : (n2 : Int) ≤ v1
  case neg =>
    rw [if_neg k2]
    go_wp2
    go_ret
    exact ⟨⟨_, rfl, by omega, .inl (by omega)⟩, hB⟩
  rw [if_pos k2]
  have d2 : decide (v1 - (n2 : Int) < 0) = false := by simp; omega
  go_wp2
  go_ret
  exact ⟨⟨_, rfl, by omega, .inr ⟨by omega, m1, by omega, m2⟩⟩, hB⟩
set_option maxRecDepth 100000 in
set_option maxHeartbeats 4000000 in
theorem toMesh_any (p : Option Addr) (c1 : Nat) (q : Option Addr) (c2 : Nat) (ps : List IvP) (ls : List Li) (w : World) (h : ArgIvs w p ps.length ps ∧ ArgLi w q ls.length ls) (hn : ps.length ≤ 1048576 ∧ ls.length ≤ 1048576 ∧ ∀ e ∈ ps, IvS e.2) :
    Calls Tryz.prog 17 #[.agg #[.slice p ps.length c1, .slice q ls.length c2]] w fun e w' => ∃ (g : Nat) (qs : List IvP) (h : Nat), e = .returned (.agg #[.slice (some ⟨g, 0, none⟩) ps.length ps.length, .slice (some ⟨h, 0, none⟩) ls.length ls.length]) ∧ w.heap.size ≤ g ∧ w.heap.size ≤ h ∧ qs.map (·.2) = ps.map (·.2) ∧ Row w' g 61 (rowIv qs) ∧ (∀ e ∈ qs, PlIv w' (g + 1) e.1 e.2) ∧ Row w' h 56 (rowLi ls) ∧ Below w.heap.size w w' := by
  have HI : Hid (∀ w, ArgIvs w p ps.length ps → Calls Tryz.prog 39 #[.slice p ps.length c1] w fun e w' => ∃ (g : Nat) (qs : List IvP), e = .returned (.slice (some ⟨g, 0, none⟩) ps.length ps.length) ∧ w.heap.size ≤ g ∧ qs.map (·.2) = ps.map (·.2) ∧ Row w' g 61 (rowIv qs) ∧ (∀ e ∈ qs, PlIv w' (g + 1) e.1 e.2) ∧ Below w.heap.size w w') := fun w h => toInstS_any p c1 ps w h hn.1 hn.2.2
  have HS : Hid (∀ w, ArgLi w q ls.length ls → Calls Tryz.prog 40 #[.slice q ls.length c2] w fun e w' => ∃ g, e = .returned (.slice (some ⟨g, 0, none⟩) ls.length ls.length) ∧ w.heap.size ≤ g ∧ Row w' g 56 (rowLi ls) ∧ Below w.heap.size w w') := fun w h => toLinkS_any q c2 ls w h hn.2.1
  have HX : Hid (ArgIvs w p ps.length ps ∧ ArgLi w q ls.length ls) := h
  clear h hn
  generalize ps.length = n1 at *
  generalize ls.length = n2 at *
  obtain ⟨W, hW, q0, q1, q2, hB, hS⟩ := three_new w [.slice p n1 c1, .slice q n2 c2] [.slice none 0 0, .slice none 0 0] [.slice none 0 0, .slice none 0 0] 39 26 26
  have HW : Hid _ := hW
  have HQ : Hid _ := And.intro q0 (And.intro q1 (And.intro q2 (And.intro hB hS)))
  clear hW q0 q1 q2 hB hS
  go_enter Tryz.func17, Tryz.ntmps17
  go_wp2_with fail
  rw [← HW.out]
  obtain ⟨q0, q1, q2, hB, hS⟩ := HQ.out
  refine (HI.out _ (HX.out.1.below hB)).mono ?_
  rintro e w1 ⟨g, qs, rfl, hg, hqm, rg, hp, hb1⟩
  have q0 := q0.below hb1 q0.lt
  have q1 := q1.below hb1 q1.lt
  have q2 := q2.below hb1 q2.lt
  have hB := hB.trans (hb1.mono hB.size)
  have hs := hb1.size
  clear hb1
  clear HI HW HQ
  have x1 : w1.cell? ⟨w.heap.size, 1, none⟩ = some (.slice q n2 c2) := q0.cell 1
  have a0 : w1.cell? ⟨(w.heap.size + 1 + 1), 0, none⟩ = some (.slice none 0 0) := q2.cell 0
  have f0 : w1.frozen? ⟨(w.heap.size + 1 + 1), 0, none⟩ = false := q2.frozen 0
  have ng : g ≠ (w.heap.size + 1 + 1) := by omega
  have HE : Hid (Row (w1.setCell ⟨(w.heap.size + 1 + 1), 0, none⟩ (.slice (some ⟨g, 0, none⟩) n1 n1)) w.heap.size 39 [.slice p n1 c1, .slice q n2 c2] ∧ Row (w1.setCell ⟨(w.heap.size + 1 + 1), 0, none⟩ (.slice (some ⟨g, 0, none⟩) n1 n1)) (w.heap.size + 1) 26 [.slice none 0 0, .slice none 0 0] ∧ Row (w1.setCell ⟨(w.heap.size + 1 + 1), 0, none⟩ (.slice (some ⟨g, 0, none⟩) n1 n1)) (w.heap.size + 1 + 1) 26 [.slice (some ⟨g, 0, none⟩) n1 n1, .slice none 0 0] ∧ Row (w1.setCell ⟨(w.heap.size + 1 + 1), 0, none⟩ (.slice (some ⟨g, 0, none⟩) n1 n1)) g 61 (rowIv qs) ∧ (∀ e ∈ qs, PlIv (w1.setCell ⟨(w.heap.size + 1 + 1), 0, none⟩ (.slice (some ⟨g, 0, none⟩) n1 n1)) (g + 1) e.1 e.2) ∧ Below w.heap.size w (w1.setCell ⟨(w.heap.size + 1 + 1), 0, none⟩ (.slice (some ⟨g, 0, none⟩) n1 n1)) ∧ (w1.setCell ⟨(w.heap.size + 1 + 1), 0, none⟩ (.slice (some ⟨g, 0, none⟩) n1 n1)).heap.size = w1.heap.size) := ⟨(q0).other 0 (.slice (some ⟨g, 0, none⟩) n1 n1) (by omega), (q1).other 0 (.slice (some ⟨g, 0, none⟩) n1 n1) (by omega), (q2).set 0 (.slice (some ⟨g, 0, none⟩) n1 n1), (rg).other 0 (.slice (some ⟨g, 0, none⟩) n1 n1) ng, fun e he => (hp e he).kept (w' := _) (b := (w.heap.size + 1 + 1)) (by omega) (fun b_ t_ l_ hne hr => hr.other 0 (.slice (some ⟨g, 0, none⟩) n1 n1) hne), (hB.setCell (p := ⟨(w.heap.size + 1 + 1), 0, none⟩) (by show w.heap.size ≤ (w.heap.size + 1 + 1); omega) (.slice (some ⟨g, 0, none⟩) n1 n1)), by simp⟩
  clear q0 q1 q2 hB hp rg
  go_wp2_with fail
  generalize (w1.setCell ⟨(w.heap.size + 1 + 1), 0, none⟩ (.slice (some ⟨g, 0, none⟩) n1 n1)) = W1 at *
  obtain ⟨q0, q1, q2, rg, hp, hB, hS⟩ := HE.out
  clear HE a0 f0 ng
  refine (HS.out _ (HX.out.2.below hB)).mono ?_
  rintro e w3 ⟨h, rfl, hh, rh, hb2⟩
  have q0 := q0.below hb2 q0.lt
  have q1 := q1.below hb2 q1.lt
  have q2 := q2.below hb2 q2.lt
  have rg := rg.below hb2 rg.lt
  have hp := fun e he => (hp e he).below hb2
  have hB := hB.trans (hb2.mono hB.size)
  have hs := hb2.size
  clear hb2
  clear HS HX x1
  have a0 : w3.cell? ⟨(w.heap.size + 1 + 1), 0, none⟩ = some (.slice (some ⟨g, 0, none⟩) n1 n1) := q2.cell 0
  have a1 : w3.cell? ⟨(w.heap.size + 1 + 1), 1, none⟩ = some (.slice none 0 0) := q2.cell 1
  have f1 : w3.frozen? ⟨(w.heap.size + 1 + 1), 1, none⟩ = false := q2.frozen 1
  have b0 : w3.cell? ⟨(w.heap.size + 1), 0, none⟩ = some (.slice none 0 0) := q1.cell 0
  have b1 : w3.cell? ⟨(w.heap.size + 1), 1, none⟩ = some (.slice none 0 0) := q1.cell 1
  have e0 : w3.frozen? ⟨(w.heap.size + 1), 0, none⟩ = false := q1.frozen 0
  have e1 : w3.frozen? ⟨(w.heap.size + 1), 1, none⟩ = false := q1.frozen 1
  have ng2 : g ≠ (w.heap.size + 1 + 1) := by omega
  have nh2 : h ≠ (w.heap.size + 1 + 1) := by omega
  have ng1 : g ≠ (w.heap.size + 1) := by omega
  have nh1 : h ≠ (w.heap.size + 1) := by omega
  have n12 : (w.heap.size + 1) ≠ (w.heap.size + 1 + 1) := by omega
  have HF : Hid (Row (((w3.setCell ⟨(w.heap.size + 1 + 1), 1, none⟩ (.slice (some ⟨h, 0, none⟩) n2 n2)).setCell ⟨(w.heap.size + 1), 0, none⟩ (.slice (some ⟨g, 0, none⟩) n1 n1)).setCell ⟨(w.heap.size + 1), 1, none⟩ (.slice (some ⟨h, 0, none⟩) n2 n2)) (w.heap.size + 1) 26 [.slice (some ⟨g, 0, none⟩) n1 n1, .slice (some ⟨h, 0, none⟩) n2 n2] ∧ Row (((w3.setCell ⟨(w.heap.size + 1 + 1), 1, none⟩ (.slice (some ⟨h, 0, none⟩) n2 n2)).setCell ⟨(w.heap.size + 1), 0, none⟩ (.slice (some ⟨g, 0, none⟩) n1 n1)).setCell ⟨(w.heap.size + 1), 1, none⟩ (.slice (some ⟨h, 0, none⟩) n2 n2)) g 61 (rowIv qs) ∧ Row (((w3.setCell ⟨(w.heap.size + 1 + 1), 1, none⟩ (.slice (some ⟨h, 0, none⟩) n2 n2)).setCell ⟨(w.heap.size + 1), 0, none⟩ (.slice (some ⟨g, 0, none⟩) n1 n1)).setCell ⟨(w.heap.size + 1), 1, none⟩ (.slice (some ⟨h, 0, none⟩) n2 n2)) h 56 (rowLi ls) ∧ (∀ e ∈ qs, PlIv (((w3.setCell ⟨(w.heap.size + 1 + 1), 1, none⟩ (.slice (some ⟨h, 0, none⟩) n2 n2)).setCell ⟨(w.heap.size + 1), 0, none⟩ (.slice (some ⟨g, 0, none⟩) n1 n1)).setCell ⟨(w.heap.size + 1), 1, none⟩ (.slice (some ⟨h, 0, none⟩) n2 n2)) (g + 1) e.1 e.2) ∧ Below w.heap.size w (((w3.setCell ⟨(w.heap.size + 1 + 1), 1, none⟩ (.slice (some ⟨h, 0, none⟩) n2 n2)).setCell ⟨(w.heap.size + 1), 0, none⟩ (.slice (some ⟨g, 0, none⟩) n1 n1)).setCell ⟨(w.heap.size + 1), 1, none⟩ (.slice (some ⟨h, 0, none⟩) n2 n2))) := ⟨(((q1).other 1 (.slice (some ⟨h, 0, none⟩) n2 n2) n12).set 0 (.slice (some ⟨g, 0, none⟩) n1 n1)).set 1 (.slice (some ⟨h, 0, none⟩) n2 n2), (((rg).other 1 (.slice (some ⟨h, 0, none⟩) n2 n2) ng2).other 0 (.slice (some ⟨g, 0, none⟩) n1 n1) ng1).other 1 (.slice (some ⟨h, 0, none⟩) n2 n2) ng1, (((rh).other 1 (.slice (some ⟨h, 0, none⟩) n2 n2) nh2).other 0 (.slice (some ⟨g, 0, none⟩) n1 n1) nh1).other 1 (.slice (some ⟨h, 0, none⟩) n2 n2) nh1, fun e he => (((hp e he).kept (b := (w.heap.size + 1 + 1)) (by omega) (fun b_ t_ l_ hne hr => hr.other 1 (.slice (some ⟨h, 0, none⟩) n2 n2) hne)).kept (b := (w.heap.size + 1)) (by omega) (fun b_ t_ l_ hne hr => hr.other 0 (.slice (some ⟨g, 0, none⟩) n1 n1) hne)).kept (b := (w.heap.size + 1)) (by omega) (fun b_ t_ l_ hne hr => hr.other 1 (.slice (some ⟨h, 0, none⟩) n2 n2) hne), (((hB.setCell (p := ⟨(w.heap.size + 1 + 1), 1, none⟩) (by show w.heap.size ≤ (w.heap.size + 1 + 1); omega) (.slice (some ⟨h, 0, none⟩) n2 n2)).setCell (p := ⟨(w.heap.size + 1), 0, none⟩) (by show w.heap.size ≤ (w.heap.size + 1); omega) (.slice (some ⟨g, 0, none⟩) n1 n1)).setCell (p := ⟨(w.heap.size + 1), 1, none⟩) (by show w.heap.size ≤ (w.heap.size + 1); omega) (.slice (some ⟨h, 0, none⟩) n2 n2))⟩
  clear q0 q1 q2 rg rh hB hp
  go_wp2_with fail
  have hF := HF.out
  clear HF a0 b0 e0 a1 b1 e1 f1
  generalize (((w3.setCell ⟨(w.heap.size + 1 + 1), 1, none⟩ (.slice (some ⟨h, 0, none⟩) n2 n2)).setCell ⟨(w.heap.size + 1), 0, none⟩ (.slice (some ⟨g, 0, none⟩) n1 n1)).setCell ⟨(w.heap.size + 1), 1, none⟩ (.slice (some ⟨h, 0, none⟩) n2 n2)) = Y at *
  obtain ⟨k1, k2, k3, k5, k6⟩ := hF
  have e0 : Y.cell? ⟨(w.heap.size + 1), 0, none⟩ = some (.slice (some ⟨g, 0, none⟩) n1 n1) := k1.cell 0
  have e1 : Y.cell? ⟨(w.heap.size + 1), 1, none⟩ = some (.slice (some ⟨h, 0, none⟩) n2 n2) := k1.cell 1
  exact bodyPost_ret (v := .agg #[.slice (some ⟨g, 0, none⟩) n1 n1, .slice (some ⟨h, 0, none⟩) n2 n2]) (by simp [results, Tryz.results17, go_sem, e0, e1]) rfl ⟨g, qs, h, rfl, by omega, by omega, hqm, k2, k5, k3, k6⟩
set_option maxRecDepth 100000 in
set_option maxHeartbeats 4000000 in
theorem eqMesh_any (p0 : Option Addr) (a1 : Nat) (q0 : Option Addr) (a2 : Nat) (p1 : Option Addr) (b1 : Nat) (q1 : Option Addr) (b2 : Nat) (ps qs : List IvP) (ls : List Li) (w : World) (h : (IvsIn w p0 ps ∧ LisIn w q0 ls) ∧ (IvsIn w p1 qs ∧ LisIn w q1 ls)) (hpq : ps.map (·.2) = qs.map (·.2)) (hn : ps.length ≤ 1048576 ∧ ls.length ≤ 1048576 ∧ ∀ e ∈ ps, IvS e.2) :
    Calls Tryz.prog 19 #[.agg #[.slice p0 ps.length a1, .slice q0 ls.length a2], .agg #[.slice p1 ps.length b1, .slice q1 ls.length b2]] w fun e w' => e = .returned (.bool true) ∧ Below w.heap.size w w' := by
  have HI : Hid (∀ w, IvsIn w p0 ps → IvsIn w p1 qs → Calls Tryz.prog 46 #[.slice p0 ps.length a1, .slice p1 ps.length b1] w fun e w' => e = .returned (.bool true) ∧ Below w.heap.size w w') := fun w a b => eqInstS_any p0 p1 a1 b1 ps qs w a b hpq (by omega) (fun e he => by have := hn.2.2 e he; unfold IvS at this; omega)
  have HS : Hid (∀ w, LisIn w q0 ls → LisIn w q1 ls → Calls Tryz.prog 47 #[.slice q0 ls.length a2, .slice q1 ls.length b2] w fun e w' => e = .returned (.bool true) ∧ Below w.heap.size w w') := fun w a b => eqLinkS_any q0 q1 a2 b2 ls w a b (by omega)
  have HX : Hid ((IvsIn w p0 ps ∧ LisIn w q0 ls) ∧ (IvsIn w p1 qs ∧ LisIn w q1 ls)) := h
  clear h hn hpq
  generalize ps.length = n1 at *
  generalize ls.length = n2 at *
  have k0 := (Row.new w 26 [.slice p0 n1 a1, .slice q0 n2 a2]).alloc (.cells #[.slice p1 n1 b1, .slice q1 n2 b2] 26)
  have k1 := Row.new (w.alloc (.cells #[.slice p0 n1 a1, .slice q0 n2 a2] 26)) 26 [.slice p1 n1 b1, .slice q1 n2 b2]
  rw [show (w.alloc (.cells #[.slice p0 n1 a1, .slice q0 n2 a2] 26)).heap.size = w.heap.size + 1 by simp] at k1
  have hB : Below w.heap.size w ((w.alloc (.cells #[.slice p0 n1 a1, .slice q0 n2 a2] 26)).alloc (.cells #[.slice p1 n1 b1, .slice q1 n2 b2] 26)) := (ent_new0 w _).alloc (by simp) _
  have HQ : Hid _ := And.intro k0 (And.intro k1 hB)
  clear k0 k1 hB
  go_enter Tryz.func19, Tryz.ntmps19
  go_wp2_with fail
  obtain ⟨k0, k1, hB⟩ := HQ.out
  clear HQ
  refine (HI.out _ (HX.out.1.1.below hB) (HX.out.2.1.below hB)).mono ?_
  rintro e w1 ⟨rfl, hb1⟩
  have k0 := k0.below hb1 k0.lt
  have k1 := k1.below hb1 k1.lt
  have hB := hB.trans (hb1.mono hB.size)
  clear hb1
  have s0 : w1.cell? ⟨w.heap.size, 0, none⟩ = some (.slice p0 n1 a1) := k0.cell 0
  have s1 : w1.cell? ⟨w.heap.size, 1, none⟩ = some (.slice q0 n2 a2) := k0.cell 1
  have t0 : w1.cell? ⟨w.heap.size + 1, 0, none⟩ = some (.slice p1 n1 b1) := k1.cell 0
  have t1 : w1.cell? ⟨w.heap.size + 1, 1, none⟩ = some (.slice q1 n2 b2) := k1.cell 1
  go_wp2_with fail
  clear s0 s1 t0 t1
  refine (HS.out _ (HX.out.1.2.below hB) (HX.out.2.2.below hB)).mono ?_
  rintro e w2 ⟨rfl, hb2⟩
  have k0 := k0.below hb2 k0.lt
  have k1 := k1.below hb2 k1.lt
  have hB := hB.trans (hb2.mono hB.size)
  clear hb2
  go_wp2
  go_ret
  exact ⟨rfl, hB⟩
end Go.Proofs.YtcnadobnihbldaaGreat
/- The laws' own marks in a Mesh and in a MeshOut: written, looked for again; alike. (Written by gen_meshout.py.) -/
namespace Go.Proofs.YtcnadobnihbldaaGreat
open Go.RowKit Go.Sort

theorem owns_row {w : World} {base sz n cv b : Nat} {ty : TypeId} {xs : List Value} (h : w.ownsRow base ty sz (.slice (some ⟨b, 0, none⟩) n cv) n xs) : ∃ l, Row w b ty l := by
  rcases h.2 with ⟨h1, _⟩ | ⟨g', cap, cur, h1, _, h3, _⟩
  · simp at h1
  · simp only [Value.slice.injEq, Option.some.injEq, Addr.mk.injEq, and_true] at h1
    obtain ⟨rfl, _⟩ := h1
    exact ⟨cur.toList, by unfold Row; simpa using h3⟩
/-- Owned lists of unlike kinds lie in unlike blocks. -/
theorem owns_apart {w : World} {base base' sz sz' n cv n' cv' b : Nat} {ty ty' : TypeId} {p q : Option Addr} {xs ys : List Value} (h : w.ownsRow base ty sz (.slice p n cv) n xs) (h' : w.ownsRow base' ty' sz' (.slice q n' cv') n' ys) (ht : ty ≠ ty') (e : p = some ⟨b, 0, none⟩) : q ≠ some ⟨b, 0, none⟩ := by
  subst e
  obtain ⟨l, hl⟩ := owns_row h
  exact owns_ne h' hl ht
/-- A Mesh that is one's own. -/
def OwnMesh (w : World) (base : Nat) (p : Option Addr) (n c : Nat) (q : Option Addr) (m d : Nat) (qs : List IvP) (ls : List Li) : Prop :=
  w.ownsRow base 61 3 (.slice p n c) n (rowIv qs) ∧ (∀ j (hj : j < qs.length), OwnIv w base qs[j].1 qs[j].2) ∧ ApQ qs ∧ w.ownsRow base 56 4 (.slice q m d) m (rowLi ls)
theorem OwnMesh.below {w w' : World} {base : Nat} {p : Option Addr} {n c : Nat} {q : Option Addr} {m d : Nat} {qs : List IvP} {ls : List Li} (h : OwnMesh w base p n c q m d qs ls) (hb : Below w.heap.size w w') : OwnMesh w' base p n c q m d qs ls :=
  ⟨owns_below h.1 hb, fun j hj => (h.2.1 j hj).below hb, h.2.2.1, owns_below h.2.2.2 hb⟩
theorem OwnMesh.mono {w : World} {base base' : Nat} {p : Option Addr} {n c : Nat} {q : Option Addr} {m d : Nat} {qs : List IvP} {ls : List Li} (h : OwnMesh w base p n c q m d qs ls) (hb : base' ≤ base) : OwnMesh w base' p n c q m d qs ls :=
  ⟨owns_mono h.1 hb, fun j hj => (h.2.1 j hj).mono hb, h.2.2.1, owns_mono h.2.2.2 hb⟩
theorem OwnMesh.alloc {w : World} {base : Nat} {p : Option Addr} {n c : Nat} {q : Option Addr} {m d : Nat} {qs : List IvP} {ls : List Li} (h : OwnMesh w base p n c q m d qs ls) (o : Obj) : OwnMesh (w.alloc o) base p n c q m d qs ls := h.below (ent_new0 w o)
theorem OwnMesh.kept {w w' : World} {base : Nat} {p : Option Addr} {n c : Nat} {q : Option Addr} {m d : Nat} {qs : List IvP} {ls : List Li} (h : OwnMesh w base p n c q m d qs ls) (hk : ∀ b t l, t = 61 ∨ t = 56 ∨ t = 53 ∨ t = 155 → Row w b t l → Row w' b t l) : OwnMesh w' base p n c q m d qs ls := by
  obtain ⟨h1, h2, h3, h4⟩ := h
  have key : ∀ (ty : TypeId) {sz : Nat} {p : Option Addr} {n cv : Nat} {xs : List Value}, (ty = 61 ∨ ty = 56 ∨ ty = 53 ∨ ty = 155) → w.ownsRow base ty sz (.slice p n cv) n xs → w'.ownsRow base ty sz (.slice p n cv) n xs := by
    intro ty sz p n cv xs ht h
    refine owns_kept h (fun b t l e hr => ?_)
    subst e
    obtain ⟨l', hl'⟩ := owns_row h
    have : t = ty := by
      unfold Row at hr hl'
      rw [hr] at hl'
      simp only [Option.some.injEq, Obj.cells.injEq] at hl'
      exact hl'.2.1
    subst this
    exact hk b _ l ht hr
  exact ⟨key _ (.inl rfl) h1, fun j hj => ⟨key _ (.inr (.inr (.inl rfl))) (h2 j hj).1, key _ (.inr (.inr (.inr rfl))) (h2 j hj).2⟩, h3, key _ (.inr (.inl rfl)) h4⟩
theorem apQ_mix {K : Nat} {qs : List IvP} {k : Nat} (h : ApQ qs) : ApQ (mixQ K qs k) := by
  intro i j hi hj hne g
  have hi' : i < qs.length := by rw [mixQ_length] at hi; exact hi
  have hj' : j < qs.length := by rw [mixQ_length] at hj; exact hj
  rw [mixQ_at K qs k i hi', mixQ_at K qs k j hj']
  exact h i j hi' hj' hne g
theorem own_mix {w : World} {base K : Nat} {qs : List IvP} {k : Nat} (h : ∀ j (hj : j < qs.length), OwnIv w base qs[j].1 (mixT K (qs.map (·.2)) k j)) : ∀ j (hj : j < (mixQ K qs k).length), OwnIv w base (mixQ K qs k)[j].1 (mixQ K qs k)[j].2 := by
  intro j hj
  have hj' : j < qs.length := by rw [mixQ_length] at hj; exact hj
  rw [mixQ_at K qs k j hj']
  exact h j hj'
set_option maxRecDepth 100000 in
set_option maxHeartbeats 4000000 in
theorem markMesh_any (K : Nat) (p : Option Addr) (n c : Nat) (q : Option Addr) (m d : Nat) (base : Nat) (qs : List IvP) (ls : List Li) (w : World) (hn : n = qs.length) (hm : m = ls.length) (h8 : n ≤ 100000000) (h9 : m ≤ 100000000) (hK : kAt K (qs.map (·.2)) n ≤ 100000000) (h : OwnMesh w base p n c q m d qs ls) (hbs : base ≤ w.heap.size) :
    Calls Tryz.prog 20 #[.agg #[.slice p n c, .slice q m d], .int .i64 K] w fun e w' => e = .returned (.int .i64 (((kAt K (qs.map (·.2)) n : Nat) : Int) + 4 * (m : Int))) ∧ OwnMesh w' base p n c q m d (mixQ K qs n) (marksL (kAt K (qs.map (·.2)) n) m) ∧ Below base w w' ∧ ∀ b t l, t ≠ 61 → t ≠ 56 → t ≠ 53 → t ≠ 155 → Row w b t l → Row w' b t l := by
  have HM : Hid (∀ w, OwnMesh w base p n c q m d qs ls → Calls Tryz.prog 48 #[.slice p n c, .int .i64 K] w fun e w' => e = .returned (.int .i64 ((kAt K (qs.map (·.2)) n : Nat) : Int)) ∧ OwnMesh w' base p n c q m d (mixQ K qs n) ls ∧ Below base w w' ∧ ∀ b t l, t ≠ 61 → t ≠ 53 → t ≠ 155 → Row w b t l → Row w' b t l) := fun w h => by
    refine (markInstS_any K p n c base qs w hn h8 (by rw [← hn]; exact hK) h.1 h.2.1 h.2.2.1).mono ?_
    rintro e w' ⟨he, o1, o2, hb, hk⟩
    refine ⟨he, ⟨o1, own_mix o2, apQ_mix h.2.2.1, ?_⟩, hb, ?_⟩
    · refine owns_kept h.2.2.2 (fun b t l e hr => hk b t l ?_ (fun j hj => ⟨?_, ?_⟩) hr)
      · exact owns_apart h.2.2.2 h.1 (by decide) e
      · exact owns_apart h.2.2.2 (h.2.1 j hj).1 (by decide) e
      · exact owns_apart h.2.2.2 (h.2.1 j hj).2 (by decide) e
    · exact fun b t l h1 h2 h3 hr => hk b t l (owns_ne h.1 hr h1) (fun j hj => ⟨owns_ne (h.2.1 j hj).1 hr h2, owns_ne (h.2.1 j hj).2 hr h3⟩) hr
  have HR : Hid (∀ qs w, OwnMesh w base p n c q m d qs ls → ∀ K, K ≤ 100000000 → Calls Tryz.prog 49 #[.slice q m d, .int .i64 (K : Nat)] w fun e w' => e = .returned (.int .i64 ((K : Int) + 4 * (m : Int))) ∧ OwnMesh w' base p n c q m d qs (marksL K m) ∧ Below base w w' ∧ ∀ b t l, t ≠ 56 → Row w b t l → Row w' b t l) := fun qs w h K hK => by
    refine (markLinkS_any K q m d base ls w hm hK h9 h.2.2.2).mono ?_
    rintro e w' ⟨he, o1, hb, hk⟩
    refine ⟨he, ⟨?_, fun j hj => (h.2.1 j hj).kept (fun b t l e hr => hk b t l ?_ hr), h.2.2.1, o1⟩, hb, ?_⟩
    · exact owns_kept h.1 (fun b t l e hr => hk b t l (owns_apart h.1 h.2.2.2 (by decide) e) hr)
    · rcases e with e | e
      · exact owns_apart (h.2.1 j hj).1 h.2.2.2 (by decide) e
      · exact owns_apart (h.2.1 j hj).2 h.2.2.2 (by decide) e
    · exact fun b t l h1 hr => hk b t l (owns_ne h.2.2.2 hr h1) hr
  have HH : Hid (OwnMesh (w.alloc (.cells #[.slice p n c, .slice q m d] 26)) base p n c q m d qs ls) := h.alloc _
  have HKK : Hid (kAt K (qs.map (·.2)) n ≤ 100000000) := hK
  have r0 := Row.new w 26 [.slice p n c, .slice q m d]
  have hB0 := (Below.refl base w).alloc hbs (.cells #[.slice p n c, .slice q m d] 26)
  have HKp : Hid (∀ b t l, Row w b t l → Row (w.alloc (.cells #[.slice p n c, .slice q m d] 26)) b t l) := fun b t l h => h.alloc _
  have HA : Hid _ := And.intro r0 hB0
  clear h hn hm h8 h9 hK r0 hB0
  go_enter Tryz.func20, Tryz.ntmps20
  go_wp2_with fail
  obtain ⟨r0, hB⟩ := HA.out
  generalize w.alloc (.cells #[.slice p n c, .slice q m d] 26) = W at *
  refine (HM.out _ HH.out).mono ?_
  rintro e w1 ⟨rfl, om, hb1, hk1⟩
  replace r0 := hk1 _ _ _ (by decide) (by decide) (by decide) r0
  replace hB := hB.trans hb1
  have HK1 : Hid (∀ b t l, t ≠ 61 → t ≠ 53 → t ≠ 155 → Row w b t l → Row w1 b t l) := fun b t l x y z h => hk1 b t l x y z (HKp.out b t l h)
  clear hb1 hk1 HM HA HH HKp
  have y1 : w1.cell? ⟨w.heap.size, 1, none⟩ = some (.slice q m d) := r0.cell 1
  go_wp2_with fail
  refine (HR.out _ _ om _ HKK.out).mono ?_
  rintro e w2 ⟨rfl, om, hb2, hk2⟩
  replace hB := hB.trans hb2
  have HK2 : Hid (∀ b t l, t ≠ 61 → t ≠ 56 → t ≠ 53 → t ≠ 155 → Row w b t l → Row w2 b t l) := fun b t l x u y z h => hk2 b t l u (HK1.out b t l x y z h)
  clear hb2 hk2 HR HK1 y1 r0 HKK
  go_wp2
  go_ret
  exact ⟨rfl, om, hB, HK2.out⟩
set_option maxRecDepth 100000 in
set_option maxHeartbeats 4000000 in
theorem heldMesh_any (K : Nat) (p : Option Addr) (n c : Nat) (q : Option Addr) (m d : Nat) (ts : List Iv) (ps : List IvP) (w : World) (hn : n = ps.length) (h8 : n ≤ 100000000) (h9 : m ≤ 100000000) (hK : kAt K ts n ≤ 100000000) (hI : IvsIn w p ps) (hM : ∀ j (hj : j < ps.length), ps[j].2 = markT (kAt K ts j) ts[j]!) (hL : LisIn w q (marksL (kAt K ts n) m)) :
    Calls Tryz.prog 33 #[.agg #[.slice p n c, .slice q m d], .int .i64 K] w fun e w' => e = .returned (.int .i64 (((kAt K ts n : Nat) : Int) + 4 * (m : Int))) ∧ Below w.heap.size w w' := by
  have HM : Hid (Calls Tryz.prog 63 #[.slice p n c, .int .i64 K] (w.alloc (.cells #[.slice p n c, .slice q m d] 26)) fun e w' => e = .returned (.int .i64 ((kAt K ts n : Nat) : Int)) ∧ w.alloc (.cells #[.slice p n c, .slice q m d] 26) = w') := heldInstS_any K p n c ts ps _ hn h8 hK (hI.below (ent_new0 w (.cells #[.slice p n c, .slice q m d] 26))) hM
  have HR : Hid (Calls Tryz.prog 64 #[.slice q m d, .int .i64 ((kAt K ts n : Nat) : Int)] (w.alloc (.cells #[.slice p n c, .slice q m d] 26)) fun e w' => e = .returned (.int .i64 (((kAt K ts n : Nat) : Int) + 4 * (m : Int))) ∧ w.alloc (.cells #[.slice p n c, .slice q m d] 26) = w') := heldLinkS_in (kAt K ts n) q m d _ hK h9 (hL.below (ent_new0 w (.cells #[.slice p n c, .slice q m d] 26)))
  have r0 := Row.new w 26 [.slice p n c, .slice q m d]
  have y1 : (w.alloc (.cells #[.slice p n c, .slice q m d] 26)).cell? ⟨w.heap.size, 1, none⟩ = some (.slice q m d) := r0.cell 1
  have hB0 := ent_new0 w (.cells #[.slice p n c, .slice q m d] 26)
  generalize kAt K ts n = KA at *
  have d1 : decide ((KA : Int) < 0) = false := decide_eq_false (by omega)
  have d2 : decide ((KA : Int) + 4 * (m : Int) < 0) = false := decide_eq_false (by omega)
  clear hI hM hL hK h8 h9 r0 hn
  go_enter Tryz.func33, Tryz.ntmps33
  go_wp2_with fail
  refine (HM.out).mono ?_
  rintro e w1 ⟨rfl, rfl⟩
  go_wp2_with fail
  refine (HR.out).mono ?_
  rintro e w2 ⟨rfl, rfl⟩
  go_wp2
  go_ret
  exact ⟨rfl, hB0⟩
set_option maxRecDepth 100000 in
set_option maxHeartbeats 4000000 in
theorem markMeshOut_any (K : Nat) (p : Option Addr) (n c : Nat) (q : Option Addr) (m d : Nat) (cc : Int) (base : Nat) (qs : List IvP) (ls : List Li) (w : World) (hn : n = qs.length) (hm : m = ls.length) (h8 : n ≤ 100000000) (h9 : m ≤ 100000000) (hK : kAt K (qs.map (·.2)) n ≤ 100000000) (h : OwnMesh w base p n c q m d qs ls) (hbs : base ≤ w.heap.size) :
    Calls Tryz.prog 13 #[.agg #[.slice p n c, .slice q m d, .int .i64 cc], .int .i64 K] w fun e w' => e = .returned (.int .i64 (((kAt K (qs.map (·.2)) n : Nat) : Int) + 4 * (m : Int))) ∧ OwnMesh w' base p n c q m d (mixQ K qs n) (marksL (kAt K (qs.map (·.2)) n) m) ∧ Below base w w' ∧ ∀ b t l, t ≠ 61 → t ≠ 56 → t ≠ 53 → t ≠ 155 → Row w b t l → Row w' b t l := by
  have HM : Hid (Calls Tryz.prog 20 #[.agg #[.slice p n c, .slice q m d], .int .i64 K] (w.alloc (.cells #[.slice p n c, .slice q m d, .int .i64 cc] 28)) fun e w' => e = .returned (.int .i64 (((kAt K (qs.map (·.2)) n : Nat) : Int) + 4 * (m : Int))) ∧ OwnMesh w' base p n c q m d (mixQ K qs n) (marksL (kAt K (qs.map (·.2)) n) m) ∧ Below base (w.alloc (.cells #[.slice p n c, .slice q m d, .int .i64 cc] 28)) w' ∧ ∀ b t l, t ≠ 61 → t ≠ 56 → t ≠ 53 → t ≠ 155 → Row (w.alloc (.cells #[.slice p n c, .slice q m d, .int .i64 cc] 28)) b t l → Row w' b t l) := markMesh_any K p n c q m d base qs ls _ hn hm h8 h9 hK (h.alloc _) (Nat.le_trans hbs (by simp))
  have hB0 := (Below.refl base w).alloc hbs (.cells #[.slice p n c, .slice q m d, .int .i64 cc] 28)
  have HKp : Hid (∀ b t l, Row w b t l → Row (w.alloc (.cells #[.slice p n c, .slice q m d, .int .i64 cc] 28)) b t l) := fun b t l h => h.alloc _
  clear h hn hm h8 h9 hK
  go_enter Tryz.func13, Tryz.ntmps13
  go_wp2_with fail
  refine (HM.out).mono ?_
  rintro e w1 ⟨rfl, om, hb1, hk1⟩
  have hB := hB0.trans hb1
  have HK1 : Hid (∀ b t l, t ≠ 61 → t ≠ 56 → t ≠ 53 → t ≠ 155 → Row w b t l → Row w1 b t l) := fun b t l x u y z h => hk1 b t l x u y z (HKp.out b t l h)
  clear hb1 hk1 HM HKp hB0
  go_wp2
  go_ret
  exact ⟨rfl, om, hB, HK1.out⟩
set_option maxRecDepth 100000 in
set_option maxHeartbeats 4000000 in
theorem heldMeshOut_any (K : Nat) (p : Option Addr) (n c : Nat) (q : Option Addr) (m d : Nat) (cc : Int) (ts : List Iv) (ps : List IvP) (w : World) (hn : n = ps.length) (h8 : n ≤ 100000000) (h9 : m ≤ 100000000) (hK : kAt K ts n ≤ 100000000) (hI : IvsIn w p ps) (hM : ∀ j (hj : j < ps.length), ps[j].2 = markT (kAt K ts j) ts[j]!) (hL : LisIn w q (marksL (kAt K ts n) m)) :
    Calls Tryz.prog 14 #[.agg #[.slice p n c, .slice q m d, .int .i64 cc], .int .i64 K] w fun e w' => e = .returned (.int .i64 (((kAt K ts n : Nat) : Int) + 4 * (m : Int))) ∧ Below w.heap.size w w' := by
  have HM : Hid (Calls Tryz.prog 33 #[.agg #[.slice p n c, .slice q m d], .int .i64 K] (w.alloc (.cells #[.slice p n c, .slice q m d, .int .i64 cc] 28)) fun e w' => e = .returned (.int .i64 (((kAt K ts n : Nat) : Int) + 4 * (m : Int))) ∧ Below (w.alloc (.cells #[.slice p n c, .slice q m d, .int .i64 cc] 28)).heap.size (w.alloc (.cells #[.slice p n c, .slice q m d, .int .i64 cc] 28)) w') := heldMesh_any K p n c q m d ts ps _ hn h8 h9 hK (hI.below (ent_new0 w (.cells #[.slice p n c, .slice q m d, .int .i64 cc] 28))) hM (hL.below (ent_new0 w (.cells #[.slice p n c, .slice q m d, .int .i64 cc] 28)))
  have hB0 := ent_new0 w (.cells #[.slice p n c, .slice q m d, .int .i64 cc] 28)
  generalize kAt K ts n = KA at *
  have d2 : decide ((KA : Int) + 4 * (m : Int) < 0) = false := decide_eq_false (by omega)
  clear hI hM hL hK h8 h9 hn
  go_enter Tryz.func14, Tryz.ntmps14
  go_wp2_with fail
  refine (HM.out).mono ?_
  rintro e w2 ⟨rfl, hb2⟩
  have hB := hB0.trans (hb2.mono (by simp))
  clear hb2
  go_wp2
  go_ret
  exact ⟨rfl, hB⟩
set_option maxRecDepth 100000 in
set_option maxHeartbeats 4000000 in
theorem eqMeshOut_any (cc : Int) (p0 : Option Addr) (a1 : Nat) (q0 : Option Addr) (a2 : Nat) (p1 : Option Addr) (b1 : Nat) (q1 : Option Addr) (b2 : Nat) (ps qs : List IvP) (ls : List Li) (w : World) (h : (IvsIn w p0 ps ∧ LisIn w q0 ls) ∧ (IvsIn w p1 qs ∧ LisIn w q1 ls)) (hpq : ps.map (·.2) = qs.map (·.2)) (hn : ps.length ≤ 1048576 ∧ ls.length ≤ 1048576 ∧ ∀ e ∈ ps, IvS e.2) :
    Calls Tryz.prog 10 #[.agg #[.slice p0 ps.length a1, .slice q0 ls.length a2, .int .i64 cc], .agg #[.slice p1 ps.length b1, .slice q1 ls.length b2, .int .i64 cc]] w fun e w' => e = .returned (.bool true) ∧ Below w.heap.size w w' := by
  have HE : Hid (∀ w, (IvsIn w p0 ps ∧ LisIn w q0 ls) ∧ (IvsIn w p1 qs ∧ LisIn w q1 ls) → Calls Tryz.prog 19 #[.agg #[.slice p0 ps.length a1, .slice q0 ls.length a2], .agg #[.slice p1 ps.length b1, .slice q1 ls.length b2]] w fun e w' => e = .returned (.bool true) ∧ Below w.heap.size w w') := fun w h => eqMesh_any p0 a1 q0 a2 p1 b1 q1 b2 ps qs ls w h hpq hn
  have HX : Hid ((IvsIn w p0 ps ∧ LisIn w q0 ls) ∧ (IvsIn w p1 qs ∧ LisIn w q1 ls)) := h
  clear h hpq hn
  generalize ps.length = n0 at *
  generalize ls.length = m0 at *
  have k0 := (Row.new w 28 [.slice p0 n0 a1, .slice q0 m0 a2, .int .i64 cc]).alloc (.cells #[.slice p1 n0 b1, .slice q1 m0 b2, .int .i64 cc] 28)
  have k1 := Row.new (w.alloc (.cells #[.slice p0 n0 a1, .slice q0 m0 a2, .int .i64 cc] 28)) 28 [.slice p1 n0 b1, .slice q1 m0 b2, .int .i64 cc]
  rw [show (w.alloc (.cells #[.slice p0 n0 a1, .slice q0 m0 a2, .int .i64 cc] 28)).heap.size = w.heap.size + 1 by simp] at k1
  have hB : Below w.heap.size w ((w.alloc (.cells #[.slice p0 n0 a1, .slice q0 m0 a2, .int .i64 cc] 28)).alloc (.cells #[.slice p1 n0 b1, .slice q1 m0 b2, .int .i64 cc] 28)) := (ent_new0 w _).alloc (by simp) _
  have HQ : Hid _ := And.intro k0 (And.intro k1 hB)
  clear k0 k1 hB
  go_enter Tryz.func10, Tryz.ntmps10
  go_wp2_with fail
  obtain ⟨k0, k1, hB⟩ := HQ.out
  clear HQ
  refine (HE.out _ ⟨⟨HX.out.1.1.below hB, HX.out.1.2.below hB⟩, ⟨HX.out.2.1.below hB, HX.out.2.2.below hB⟩⟩).mono ?_
  rintro e w1 ⟨rfl, hb1⟩
  replace k0 := k0.below hb1 k0.lt
  replace k1 := k1.below hb1 k1.lt
  replace hB := hB.trans (hb1.mono hB.size)
  clear hb1 HE HX
  have y0 : w1.cell? ⟨w.heap.size, 2, none⟩ = some (.int .i64 cc) := k0.cell 2
  have y1 : w1.cell? ⟨w.heap.size + 1, 2, none⟩ = some (.int .i64 cc) := k1.cell 2
  clear k0 k1
  go_wp2_with fail
  go_ret
  exact ⟨rfl, hB⟩
end Go.Proofs.YtcnadobnihbldaaGreat
/- What a mesh has: hasRouter, hasEnd, ifaceAt, fitting of the program. (Written by gen_hasi.py.) -/
namespace Go.Proofs.YtcnadobnihbldaaGreat
open Go.RowKit Go.Sort

set_option maxRecDepth 100000 in
set_option maxHeartbeats 4000000 in
theorem hasRouter_any (p : Option Addr) (n1 c1 : Nat) (q : Option Addr) (m1 c2 : Nat) (r : Int) (w : World) (_hn : n1 ≤ 100000000) :
    Calls Tryz.prog 148 #[.agg #[.slice p n1 c1, .slice q m1 c2], .int .i64 r] w fun e w' => e = .returned (.bool (hasR n1 r)) ∧ Below w.heap.size w w' := by
  have HB : Hid (Below w.heap.size w (w.alloc (.cells #[.slice p n1 c1, .slice q m1 c2] 26))) := ent_new0 w _
  unfold hasR
  by_cases h1 : 0 ≤ r
  · have d1 : decide (0 ≤ r) = true := by simpa using h1
    rw [d1, Bool.true_and]
    generalize hD : decide (r < (n1 : Int)) = D
    go_enter Tryz.func148, Tryz.ntmps148
    go_wp2
    go_ret
    exact ⟨rfl, HB.out⟩
  · have d1 : decide (0 ≤ r) = false := by simpa using h1
    rw [d1, Bool.false_and]
    go_enter Tryz.func148, Tryz.ntmps148
    go_wp2
    go_ret
    exact ⟨rfl, HB.out⟩
set_option maxRecDepth 100000 in
set_option maxHeartbeats 4000000 in
theorem hasEnd_any (p : Option Addr) (c1 : Nat) (ps : List IvP) (q : Option Addr) (m1 c2 : Nat) (e0 e1 : Int) (w : World) (h : IvsIn w p ps) (hn : ps.length ≤ 100000000) :
    Calls Tryz.prog 117 #[.agg #[.slice p ps.length c1, .slice q m1 c2], .agg #[.int .i64 e0, .int .i64 e1]] w fun e w' => e = .returned (.bool (endB (ps.map (·.2)) (e0, e1))) ∧ Below w.heap.size w w' := by
  have HC : Hid (∀ w, Calls Tryz.prog 148 #[.agg #[.slice p ps.length c1, .slice q m1 c2], .int .i64 e0] w fun e w' => e = .returned (.bool (hasR ps.length e0)) ∧ Below w.heap.size w w') := fun w => hasRouter_any p ps.length c1 q m1 c2 e0 w hn
  have HR : Hid (endB (ps.map (·.2)) (e0, e1) = (hasR ps.length e0 && (decide (0 ≤ e1) && decide (e1 < (((ps.map (fun x : IvP => x.2))[e0.toNat]!).is.length : Int))))) := by show _ = _; unfold endB; rw [List.length_map]
  generalize endB (ps.map (·.2)) (e0, e1) = RES at *
  have q0 := (Row.new w 26 [.slice p ps.length c1, .slice q m1 c2]).alloc (.cells #[.int .i64 e0, .int .i64 e1] 135)
  have q1 := Row.new (w.alloc (.cells #[.slice p ps.length c1, .slice q m1 c2] 26)) 135 [.int .i64 e0, .int .i64 e1]
  rw [show (w.alloc (.cells #[.slice p ps.length c1, .slice q m1 c2] 26)).heap.size = w.heap.size + 1 by simp] at q1
  have hB : Below w.heap.size w ((w.alloc (.cells #[.slice p ps.length c1, .slice q m1 c2] 26)).alloc (.cells #[.int .i64 e0, .int .i64 e1] 135)) := (ent_new0 w _).alloc (by simp) _
  have HX : Hid (IvsIn w p ps) := h
  have HQ : Hid _ := And.intro q0 (And.intro q1 hB)
  clear q0 q1 hB h
  go_enter Tryz.func117, Tryz.ntmps117
  go_wp2_with fail
  obtain ⟨q0, q1, hB⟩ := HQ.out
  have hX := HX.out.below hB
  clear HQ HX
  generalize ((w.alloc (.cells #[.slice p ps.length c1, .slice q m1 c2] 26)).alloc (.cells #[.int .i64 e0, .int .i64 e1] 135)) = W at *
  have s0 : W.cell? ⟨w.heap.size, 0, none⟩ = some (.slice p ps.length c1) := q0.cell 0
  have s1 : W.cell? ⟨w.heap.size, 1, none⟩ = some (.slice q m1 c2) := q0.cell 1
  have t0 : W.cell? ⟨w.heap.size + 1, 0, none⟩ = some (.int .i64 e0) := q1.cell 0
  have t1 : W.cell? ⟨w.heap.size + 1, 1, none⟩ = some (.int .i64 e1) := q1.cell 1
  have HB : Hid _ := hB
  have HCr : Hid (∀ d os, Calls Tryz.prog 148 #[.agg #[.slice p ps.length c1, .slice q m1 c2], .int .i64 e0] (grow (redrawn W d) os) fun e w'' => e = .returned (.bool (hasR ps.length e0)) ∧ ∃ p : Regrown, w'' = grow (redrawn W p.d) p.os) := fun d os => Calls.regrown_of (HC.out _)
  have hR := HR.out
  clear q0 q1 hB HC HR
  replace s0 := cell_regrown s0
  replace s1 := cell_regrown s1
  replace t0 := cell_regrown t0
  replace t1 := cell_regrown t1
  cases hh : hasR ps.length e0
  · rw [hh, Bool.false_and] at hR
    rw [hh] at HCr
    clear hX hh
    refine wp_region_quiet_below (by kernel_rfl) (by kernel_rfl) ?_
    repeat (go_big_quiet_step ((go_at_call 148; exact HCr.out _ _)))
    refine wpQuiet_nil ?_
    intro w1 hw'
    obtain ⟨⟨dq, osq⟩, hw''⟩ := hw'
    have hbq := below_regrown W dq osq
    rw [← hw''] at hbq
    clear hw'' osq dq
    clear s0 s1 t0 t1 HCr
    have hB := HB.out.trans (hbq.mono HB.out.size)
    clear hbq HB
    go_wp2
    go_ret
    exact ⟨by first | rfl | (rw [hR]; rfl), hB⟩
  rw [hh, Bool.true_and] at hR
  rw [hh] at HCr
  unfold hasR at hh
  simp only [Bool.and_eq_true, decide_eq_true_eq] at hh
  obtain ⟨m, rfl⟩ : ∃ m : Nat, e0 = (m : Int) := ⟨e0.toNat, by omega⟩
  have hm : m < ps.length := by omega
  obtain ⟨g, a, t, rfl, hg, hek, -, y0, -, -⟩ := hX.at m hm
  rw [Int.toNat_natCast, iv_at hm hek] at hR
  have dm : decide ((m : Int) < (ps.length : Int)) = true := by simpa using hm
  clear hh hX hek
  generalize t.is.length = tn1 at *
  generalize a.x = ax at *
  generalize a.c1 = ac1 at *
  replace y0 := cell_regrown y0
  by_cases h2 : 0 ≤ e1
  case neg =>
    have d2 : decide (0 ≤ e1) = false := by simpa using h2
    rw [d2, Bool.false_and] at hR
    refine wp_region_quiet_below (by kernel_rfl) (by kernel_rfl) ?_
    repeat (go_big_quiet_step ((go_at_call 148; exact HCr.out _ _)))
    refine wpQuiet_nil ?_
    intro w1 hw'
    obtain ⟨⟨dq, osq⟩, hw''⟩ := hw'
    have hbq := below_regrown W dq osq
    rw [← hw''] at hbq
    clear hw'' osq dq
    clear s0 s1 t0 t1 y0 HCr
    have hB := HB.out.trans (hbq.mono HB.out.size)
    clear hbq HB
    go_wp2
    go_ret
    exact ⟨by first | rfl | (rw [hR]; rfl), hB⟩
  have d2 : decide (0 ≤ e1) = true := by simpa using h2
  rw [d2, Bool.true_and] at hR
  by_cases h3 : e1 < (tn1 : Int)
  · have d3 : decide (e1 < (tn1 : Int)) = true := by simpa using h3
    rw [d3] at hR
    refine wp_region_quiet_below (by kernel_rfl) (by kernel_rfl) ?_
    repeat (go_big_quiet_step ((go_at_call 148; exact HCr.out _ _)))
    refine wpQuiet_nil ?_
    intro w1 hw'
    obtain ⟨⟨dq, osq⟩, hw''⟩ := hw'
    have hbq := below_regrown W dq osq
    rw [← hw''] at hbq
    clear hw'' osq dq
    clear s0 s1 t0 t1 y0 HCr
    have hB := HB.out.trans (hbq.mono HB.out.size)
    clear hbq HB
    go_wp2
    go_ret
    exact ⟨by first | rfl | (rw [hR]; rfl), hB⟩
  · have d3 : decide (e1 < (tn1 : Int)) = false := by simpa using h3
    rw [d3] at hR
    refine wp_region_quiet_below (by kernel_rfl) (by kernel_rfl) ?_
    repeat (go_big_quiet_step ((go_at_call 148; exact HCr.out _ _)))
    refine wpQuiet_nil ?_
    intro w1 hw'
    obtain ⟨⟨dq, osq⟩, hw''⟩ := hw'
    have hbq := below_regrown W dq osq
    rw [← hw''] at hbq
    clear hw'' osq dq
    clear s0 s1 t0 t1 y0 HCr
    have hB := HB.out.trans (hbq.mono HB.out.size)
    clear hbq HB
    go_wp2
    go_ret
    exact ⟨by first | rfl | (rw [hR]; rfl), hB⟩
theorem below_drewM {w W : World} {B : Nat} (h : Below B w W) (n : Nat) : Below B w (W.drewN n) := h.trans ⟨rfl, rfl, rfl, Nat.le_refl _, fun _ _ => rfl⟩
set_option maxRecDepth 100000 in
set_option maxHeartbeats 4000000 in
theorem ifaceAt_any (p : Option Addr) (c1 : Nat) (ps : List IvP) (q : Option Addr) (m1 c2 : Nat) (r i : Nat) (w : World) (h : IvsIn w p ps) (hr : r < ps.length) (hi : i < ((ps.map (fun x : IvP => x.2))[r]!).is.length) (_hn : ps.length ≤ 100000000) :
    Calls Tryz.prog 149 #[.agg #[.slice p ps.length c1, .slice q m1 c2], .agg #[.int .i64 (r : Int), .int .i64 (i : Int)]] w fun e w' => e = .returned (ifV (ifAtE (ps.map (·.2)) ((r : Int), (i : Int)))) ∧ Below w.heap.size w w' := by
  obtain ⟨W, hW, q0, q1, q2, hB, hS⟩ := three_new w [.slice p ps.length c1, .slice q m1 c2] [.int .i64 (r : Int), .int .i64 (i : Int)] [.int .i64 0, .int .i64 0, .int .i64 0, .int .i64 0, .bool false] 26 135 53
  have hX := h.below hB
  obtain ⟨g, a, t, rfl, hg, hek, hI, y0, -, -⟩ := hX.at r hr
  rw [iv_at hr hek] at hi
  obtain ⟨b, fd, fa, fl, fc, fu, hbx, hb, hfk, z0, z1, z2, z3, z4⟩ := hI.1.at i hi
  have hR : ifAtE (ps.map (·.2)) ((r : Int), (i : Int)) = ⟨fd, fa, fl, fc, fu⟩ := by
    unfold ifAtE
    rw [Int.toNat_natCast, Int.toNat_natCast, iv_at hr hek, getElem!_pos t.is i hi, hfk]
  rw [hR]
  have HW : Hid _ := hW
  have hs0 := hS
  have dr : decide ((r : Int) < (ps.length : Int)) = true := by simpa using hr
  have di : decide ((i : Int) < (t.is.length : Int)) = true := by simpa using hi
  rw [hbx] at y0
  clear hW hX h hI hek hfk hR hbx
  generalize t.is.length = tn1 at *
  generalize a.c1 = ac1 at *
  have s0 : W.cell? ⟨w.heap.size, 0, none⟩ = some (.slice (some ⟨g, 0, none⟩) ps.length c1) := q0.cell 0
  have s1 : W.cell? ⟨w.heap.size, 1, none⟩ = some (.slice q m1 c2) := q0.cell 1
  have t0 : W.cell? ⟨w.heap.size + 1, 0, none⟩ = some (.int .i64 (r : Int)) := q1.cell 0
  have t1 : W.cell? ⟨w.heap.size + 1, 1, none⟩ = some (.int .i64 (i : Int)) := q1.cell 1
  have HQ : Hid _ := And.intro q2 hB
  clear q0 q1 q2 hB hS
  go_enter Tryz.func149, Tryz.ntmps149
  go_wp2_with fail
  rw [← HW.out]
  clear HW
  refine wp_region_tail 11 (by kernel_rfl) (by kernel_rfl) ?_
  simp only [List.take_succ_cons, List.take_zero, List.drop_succ_cons, List.drop_zero]
  repeat (quiet_step (fail))
  refine wpQuiet_nil ?_
  intro _ hw'
  obtain ⟨nq, hw''⟩ := hw'
  subst hw''
  obtain ⟨q2, hB⟩ := HQ.out
  have q2 := q2.drewN nq
  have hB := below_drewM hB nq
  clear HQ s0 s1 t0 t1 y0 z0 z1 z2 z3 z4
  generalize W.drewN nq = V at *
  have a0 : V.cell? ⟨w.heap.size + 1 + 1, 0, none⟩ = some (.int .i64 0) := q2.cell 0
  have a1 : V.cell? ⟨w.heap.size + 1 + 1, 1, none⟩ = some (.int .i64 0) := q2.cell 1
  have a2 : V.cell? ⟨w.heap.size + 1 + 1, 2, none⟩ = some (.int .i64 0) := q2.cell 2
  have a3 : V.cell? ⟨w.heap.size + 1 + 1, 3, none⟩ = some (.int .i64 0) := q2.cell 3
  have a4 : V.cell? ⟨w.heap.size + 1 + 1, 4, none⟩ = some (.bool false) := q2.cell 4
  have f0 : V.frozen? ⟨w.heap.size + 1 + 1, 0, none⟩ = false := q2.frozen 0
  have f1 : V.frozen? ⟨w.heap.size + 1 + 1, 1, none⟩ = false := q2.frozen 1
  have f2 : V.frozen? ⟨w.heap.size + 1 + 1, 2, none⟩ = false := q2.frozen 2
  have f3 : V.frozen? ⟨w.heap.size + 1 + 1, 3, none⟩ = false := q2.frozen 3
  have f4 : V.frozen? ⟨w.heap.size + 1 + 1, 4, none⟩ = false := q2.frozen 4
  have HF : Hid (Row (((((V.setCell ⟨w.heap.size + 1 + 1, 0, none⟩ (.int .i64 fd)).setCell ⟨w.heap.size + 1 + 1, 1, none⟩ (.int .i64 fa)).setCell ⟨w.heap.size + 1 + 1, 2, none⟩ (.int .i64 fl)).setCell ⟨w.heap.size + 1 + 1, 3, none⟩ (.int .i64 fc)).setCell ⟨w.heap.size + 1 + 1, 4, none⟩ (.bool fu)) (w.heap.size + 1 + 1) 53 [.int .i64 fd, .int .i64 fa, .int .i64 fl, .int .i64 fc, .bool fu] ∧ Below w.heap.size w (((((V.setCell ⟨w.heap.size + 1 + 1, 0, none⟩ (.int .i64 fd)).setCell ⟨w.heap.size + 1 + 1, 1, none⟩ (.int .i64 fa)).setCell ⟨w.heap.size + 1 + 1, 2, none⟩ (.int .i64 fl)).setCell ⟨w.heap.size + 1 + 1, 3, none⟩ (.int .i64 fc)).setCell ⟨w.heap.size + 1 + 1, 4, none⟩ (.bool fu))) := ⟨(((((q2.set 0 (.int .i64 fd)).set 1 (.int .i64 fa)).set 2 (.int .i64 fl)).set 3 (.int .i64 fc)).set 4 (.bool fu)), (((((hB.setCell (p := ⟨w.heap.size + 1 + 1, 0, none⟩) (by show w.heap.size ≤ w.heap.size + 1 + 1; omega) (.int .i64 fd)).setCell (p := ⟨w.heap.size + 1 + 1, 1, none⟩) (by show w.heap.size ≤ w.heap.size + 1 + 1; omega) (.int .i64 fa)).setCell (p := ⟨w.heap.size + 1 + 1, 2, none⟩) (by show w.heap.size ≤ w.heap.size + 1 + 1; omega) (.int .i64 fl)).setCell (p := ⟨w.heap.size + 1 + 1, 3, none⟩) (by show w.heap.size ≤ w.heap.size + 1 + 1; omega) (.int .i64 fc)).setCell (p := ⟨w.heap.size + 1 + 1, 4, none⟩) (by show w.heap.size ≤ w.heap.size + 1 + 1; omega) (.bool fu))⟩
  clear q2 hB
  go_wp2_with fail
  have hF := HF.out
  clear HF a0 f0 a1 f1 a2 f2 a3 f3 a4 f4
  generalize (((((V.setCell ⟨w.heap.size + 1 + 1, 0, none⟩ (.int .i64 fd)).setCell ⟨w.heap.size + 1 + 1, 1, none⟩ (.int .i64 fa)).setCell ⟨w.heap.size + 1 + 1, 2, none⟩ (.int .i64 fl)).setCell ⟨w.heap.size + 1 + 1, 3, none⟩ (.int .i64 fc)).setCell ⟨w.heap.size + 1 + 1, 4, none⟩ (.bool fu)) = Y at *
  obtain ⟨k1, k2⟩ := hF
  have e0 : Y.cell? ⟨w.heap.size + 1 + 1, 0, none⟩ = some (.int .i64 fd) := k1.cell 0
  have e1 : Y.cell? ⟨w.heap.size + 1 + 1, 1, none⟩ = some (.int .i64 fa) := k1.cell 1
  have e2 : Y.cell? ⟨w.heap.size + 1 + 1, 2, none⟩ = some (.int .i64 fl) := k1.cell 2
  have e3 : Y.cell? ⟨w.heap.size + 1 + 1, 3, none⟩ = some (.int .i64 fc) := k1.cell 3
  have e4 : Y.cell? ⟨w.heap.size + 1 + 1, 4, none⟩ = some (.bool fu) := k1.cell 4
  exact bodyPost_ret (v := .agg #[.int .i64 fd, .int .i64 fa, .int .i64 fl, .int .i64 fc, .bool fu]) (by simp [results, Tryz.results149, go_sem, e0, e1, e2, e3, e4]) rfl ⟨rfl, k2⟩
theorem fieldNet_run (fd fa fl fc : Int) (fu : Bool) (w : World) : (Instr.field 53 (.agg #[.int .i64 fd, .int .i64 fa, .int .i64 fl, .int .i64 fc, .bool fu]) 1).run Tryz.prog w = .ok (.agg #[.int .i64 fa, .int .i64 fl]) w := by kernel_rfl
set_option maxRecDepth 100000 in
set_option maxHeartbeats 4000000 in
theorem fitting_any (p : Option Addr) (c1 : Nat) (ps : List IvP) (q : Option Addr) (m1 c2 : Nat) (r i s j : Nat) (w : World) (h : IvsIn w p ps) (hr : r < ps.length) (hi : i < ((ps.map (fun x : IvP => x.2))[r]!).is.length) (hs : s < ps.length) (hj : j < ((ps.map (fun x : IvP => x.2))[s]!).is.length) (hn : ps.length ≤ 100000000) :
    Calls Tryz.prog 118 #[.agg #[.slice p ps.length c1, .slice q m1 c2], .agg #[.int .i64 (r : Int), .int .i64 (i : Int)], .agg #[.int .i64 (s : Int), .int .i64 (j : Int)]] w fun e w' => e = .returned (.bool (fitB (ps.map (·.2)) ((r : Int), (i : Int)) ((s : Int), (j : Int)))) ∧ Below w.heap.size w w' := by
  obtain ⟨W, hW, q0, q1, q2, hB, hS⟩ := three_new w [.slice p ps.length c1, .slice q m1 c2] [.int .i64 (r : Int), .int .i64 (i : Int)] [.int .i64 (s : Int), .int .i64 (j : Int)] 26 135 135
  have hX := h.below hB
  have HA : Hid (∀ d os, Calls Tryz.prog 149 #[.agg #[.slice p ps.length c1, .slice q m1 c2], .agg #[.int .i64 (r : Int), .int .i64 (i : Int)]] (grow (redrawn W d) os) fun e w'' => e = .returned (ifV (ifAtE (ps.map (·.2)) ((r : Int), (i : Int)))) ∧ ∃ p : Regrown, w'' = grow (redrawn W p.d) p.os) := fun d os => Calls.regrown_of (ifaceAt_any p c1 ps q m1 c2 r i _ (hX.below (below_regrown W d os)) hr hi hn)
  have HC : Hid (∀ d os, Calls Tryz.prog 149 #[.agg #[.slice p ps.length c1, .slice q m1 c2], .agg #[.int .i64 (s : Int), .int .i64 (j : Int)]] (grow (redrawn W d) os) fun e w'' => e = .returned (ifV (ifAtE (ps.map (·.2)) ((s : Int), (j : Int)))) ∧ ∃ p : Regrown, w'' = grow (redrawn W p.d) p.os) := fun d os => Calls.regrown_of (ifaceAt_any p c1 ps q m1 c2 s j _ (hX.below (below_regrown W d os)) hs hj hn)
  have HR : Hid (fitB (ps.map (·.2)) ((r : Int), (i : Int)) ((s : Int), (j : Int)) = (decide ((r : Int) ≠ (s : Int)) && (decide ((ifAtE (ps.map (·.2)) ((r : Int), (i : Int))).a = (ifAtE (ps.map (·.2)) ((s : Int), (j : Int))).a) && decide ((ifAtE (ps.map (·.2)) ((r : Int), (i : Int))).l = (ifAtE (ps.map (·.2)) ((s : Int), (j : Int))).l)))) := rfl
  generalize fitB (ps.map (·.2)) ((r : Int), (i : Int)) ((s : Int), (j : Int)) = RES at *
  generalize ifAtE (ps.map (·.2)) ((r : Int), (i : Int)) = F at *
  generalize ifAtE (ps.map (·.2)) ((s : Int), (j : Int)) = G at *
  obtain ⟨fd, fa, fl, fc, fu⟩ := F
  obtain ⟨gd, ga, gl, gc, gu⟩ := G
  unfold ifV ifA at HA HC
  simp only at HA HC
  have hR := HR.out
  simp only at hR
  clear HR hX h hi hj
  have HW : Hid _ := hW
  have s0 : W.cell? ⟨w.heap.size, 0, none⟩ = some (.slice p ps.length c1) := q0.cell 0
  have s1 : W.cell? ⟨w.heap.size, 1, none⟩ = some (.slice q m1 c2) := q0.cell 1
  have t0 : W.cell? ⟨w.heap.size + 1, 0, none⟩ = some (.int .i64 (r : Int)) := q1.cell 0
  have t1 : W.cell? ⟨w.heap.size + 1, 1, none⟩ = some (.int .i64 (i : Int)) := q1.cell 1
  have u0 : W.cell? ⟨w.heap.size + 1 + 1, 0, none⟩ = some (.int .i64 (s : Int)) := q2.cell 0
  have u1 : W.cell? ⟨w.heap.size + 1 + 1, 1, none⟩ = some (.int .i64 (j : Int)) := q2.cell 1
  have HB : Hid _ := hB
  clear hW q0 q1 q2 hB hS
  replace s0 := cell_regrown s0
  replace s1 := cell_regrown s1
  replace t0 := cell_regrown t0
  replace t1 := cell_regrown t1
  replace u0 := cell_regrown u0
  replace u1 := cell_regrown u1
  have n1 : ∀ w, (Instr.field 53 (.agg #[.int .i64 fd, .int .i64 fa, .int .i64 fl, .int .i64 fc, .bool fu]) 1).run Tryz.prog w = .ok (.agg #[.int .i64 fa, .int .i64 fl]) w := fun w => fieldNet_run fd fa fl fc fu w
  have n2 : ∀ w, (Instr.field 53 (.agg #[.int .i64 gd, .int .i64 ga, .int .i64 gl, .int .i64 gc, .bool gu]) 1).run Tryz.prog w = .ok (.agg #[.int .i64 ga, .int .i64 gl]) w := fun w => fieldNet_run gd ga gl gc gu w
  go_enter Tryz.func118, Tryz.ntmps118
  go_wp2_with fail
  rw [← HW.out]
  clear HW
  by_cases k1 : (r : Int) = (s : Int)
  · have d1 : ((r : Int) != (s : Int)) = false := by simpa using k1
    rw [decide_eq_false (fun h => h k1), Bool.false_and] at hR
    clear HA HC n1 n2
    refine wp_region_quiet_below (by kernel_rfl) (by kernel_rfl) ?_
    repeat (go_big_quiet_step (fail))
    refine wpQuiet_nil ?_
    intro w1 hw'
    obtain ⟨⟨dq, osq⟩, hw''⟩ := hw'
    have hbq := below_regrown W dq osq
    rw [← hw''] at hbq
    clear hw'' osq dq
    clear s0 s1 t0 t1 u0 u1 
    have hB := HB.out.trans (hbq.mono HB.out.size)
    clear hbq HB
    go_wp2
    go_ret
    exact ⟨by first | rfl | (rw [hR]; rfl), hB⟩
  have d1 : ((r : Int) != (s : Int)) = true := by simpa using k1
  rw [decide_eq_true k1, Bool.true_and] at hR
  by_cases k2 : fa = ga
  case neg =>
    have d2 : (fa == ga) = false := by simpa using k2
    rw [decide_eq_false k2, Bool.false_and] at hR
    refine wp_region_quiet_below (by kernel_rfl) (by kernel_rfl) ?_
    repeat (go_big_quiet_step (first | (go_at_call_of 149 (#[Value.agg #[Value.slice p ps.length c1, Value.slice q m1 c2], Value.agg #[Value.int IntKind.i64 (r : Int), Value.int IntKind.i64 (i : Int)]]); exact HA.out _ _) | (go_at_call_of 149 (#[Value.agg #[Value.slice p ps.length c1, Value.slice q m1 c2], Value.agg #[Value.int IntKind.i64 (s : Int), Value.int IntKind.i64 (j : Int)]]); exact HC.out _ _)))
    refine wpQuiet_nil ?_
    intro w1 hw'
    obtain ⟨⟨dq, osq⟩, hw''⟩ := hw'
    have hbq := below_regrown W dq osq
    rw [← hw''] at hbq
    clear hw'' osq dq
    clear s0 s1 t0 t1 u0 u1 HA HC
    have hB := HB.out.trans (hbq.mono HB.out.size)
    clear hbq HB
    go_wp2
    go_ret
    exact ⟨by first | rfl | (rw [hR]; rfl), hB⟩
  have d2 : (fa == ga) = true := by simpa using k2
  rw [decide_eq_true k2, Bool.true_and] at hR
  clear k2
  by_cases k3 : fl = gl
  · have d3 : (fl == gl) = true := by simpa using k3
    rw [decide_eq_true k3] at hR
    clear k3
    refine wp_region_quiet_below (by kernel_rfl) (by kernel_rfl) ?_
    repeat (go_big_quiet_step (first | (go_at_call_of 149 (#[Value.agg #[Value.slice p ps.length c1, Value.slice q m1 c2], Value.agg #[Value.int IntKind.i64 (r : Int), Value.int IntKind.i64 (i : Int)]]); exact HA.out _ _) | (go_at_call_of 149 (#[Value.agg #[Value.slice p ps.length c1, Value.slice q m1 c2], Value.agg #[Value.int IntKind.i64 (s : Int), Value.int IntKind.i64 (j : Int)]]); exact HC.out _ _)))
    refine wpQuiet_nil ?_
    intro w1 hw'
    obtain ⟨⟨dq, osq⟩, hw''⟩ := hw'
    have hbq := below_regrown W dq osq
    rw [← hw''] at hbq
    clear hw'' osq dq
    clear s0 s1 t0 t1 u0 u1 HA HC
    have hB := HB.out.trans (hbq.mono HB.out.size)
    clear hbq HB
    go_wp2
    go_ret
    exact ⟨by first | rfl | (rw [hR]; rfl), hB⟩
  · have d3 : (fl == gl) = false := by simpa using k3
    rw [decide_eq_false k3] at hR
    refine wp_region_quiet_below (by kernel_rfl) (by kernel_rfl) ?_
    repeat (go_big_quiet_step (first | (go_at_call_of 149 (#[Value.agg #[Value.slice p ps.length c1, Value.slice q m1 c2], Value.agg #[Value.int IntKind.i64 (r : Int), Value.int IntKind.i64 (i : Int)]]); exact HA.out _ _) | (go_at_call_of 149 (#[Value.agg #[Value.slice p ps.length c1, Value.slice q m1 c2], Value.agg #[Value.int IntKind.i64 (s : Int), Value.int IntKind.i64 (j : Int)]]); exact HC.out _ _)))
    refine wpQuiet_nil ?_
    intro w1 hw'
    obtain ⟨⟨dq, osq⟩, hw''⟩ := hw'
    have hbq := below_regrown W dq osq
    rw [← hw''] at hbq
    clear hw'' osq dq
    clear s0 s1 t0 t1 u0 u1 HA HC
    have hB := HB.out.trans (hbq.mono HB.out.size)
    clear hbq HB
    go_wp2
    go_ret
    exact ⟨by first | rfl | (rw [hR]; rfl), hB⟩
end Go.Proofs.YtcnadobnihbldaaGreat
/- Is there such an iface? By the model. -/
namespace Go.Proofs.YtcnadobnihbldaaGreat
open Go.RowKit Go.Sort

set_option maxRecDepth 100000 in
set_option maxHeartbeats 2000000 in
theorem l07There_any (x : Option Addr) (n1 c1 : Nat) (y : Option Addr) (n2 c2 : Nat) (now i : Int) (w : World) (hn : n1 ≤ 100000000) :
    Calls Tryz.prog 109 #[instV x n1 c1 y n2 c2 now, .int .i64 i] w fun e w' => e = .returned (.bool (decide (0 ≤ i ∧ i ≤ (n1 : Int) - 1))) ∧ Below w.heap.size w w' := by
  have HI : Hid (∀ w, Calls Tryz.prog 26 #[.int .i64 i, .int .i64 0, .int .i64 ((n1 : Int) - 1)] w fun e w' => e = .returned (.bool (decide (0 ≤ i ∧ i ≤ (n1 : Int) - 1))) ∧ w = w') := fun w => l03Is_any i 0 ((n1 : Int) - 1) w
  generalize decide (0 ≤ i ∧ i ≤ (n1 : Int) - 1) = R at *
  unfold instV
  go_enter Tryz.func109, Tryz.ntmps109
  go_wp2_with fail
  refine (HI.out _).mono ?_
  rintro e w1 ⟨rfl, rfl⟩
  go_wp2
  go_ret
  exact ⟨rfl, ent_new0 w _⟩
end Go.Proofs.YtcnadobnihbldaaGreat
/- Is there an Iface, and is it near: by the model. (Written by gen_near2.py.) -/
namespace Go.Proofs.YtcnadobnihbldaaGreat
open Go.RowKit Go.Sort

theorem ifsB_right {is : List If} (h : ifsB is = true) (k : Nat) (hk : k < is.length) : rightB is[k].a is[k].l = true := by
  unfold ifsB at h
  simp only [Bool.and_eq_true, List.all_eq_true, List.mem_range] at h
  have := h.2 k hk
  unfold ifsOk at this
  rw [getElem!_pos is k hk] at this
  simp only [Bool.and_eq_true] at this
  have h1 := this.1
  unfold ifB at h1
  simp only [Bool.and_eq_true] at h1
  have h2 := h1.1
  unfold coversB at h2
  simp only [Bool.and_eq_true] at h2
  exact h2.1
theorem instB_ifs {is : List If} {rs : List Rt} {now : Int} (h : instB is rs now = true) : ifsB is = true ∧ ribB rs = true ∧ 0 ≤ now ∧ now ≤ 999800 := by
  unfold instB at h
  simp only [Bool.and_eq_true, decide_eq_true_eq] at h
  exact h
end Go.Proofs.YtcnadobnihbldaaGreat
/- Marks in a Mesh and in a MeshOut touch nothing but its own lists. (Turned from MeshOutL by hand.) -/
namespace Go.Proofs.YtcnadobnihbldaaGreat
open Go.RowKit Go.Sort

set_option maxRecDepth 100000 in
set_option maxHeartbeats 4000000 in
theorem markMeshX_any (K : Nat) (p : Option Addr) (n c : Nat) (q : Option Addr) (m d : Nat) (base : Nat) (qs : List IvP) (ls : List Li) (w : World) (hn : n = qs.length) (hm : m = ls.length) (h8 : n ≤ 100000000) (h9 : m ≤ 100000000) (hK : kAt K (qs.map (·.2)) n ≤ 100000000) (h : OwnMesh w base p n c q m d qs ls) (hbs : base ≤ w.heap.size) :
    Calls Tryz.prog 20 #[.agg #[.slice p n c, .slice q m d], .int .i64 K] w fun e w' => e = .returned (.int .i64 (((kAt K (qs.map (·.2)) n : Nat) : Int) + 4 * (m : Int))) ∧ OwnMesh w' base p n c q m d (mixQ K qs n) (marksL (kAt K (qs.map (·.2)) n) m) ∧ Below base w w' ∧ ∀ b t l, p ≠ some ⟨b, 0, none⟩ → q ≠ some ⟨b, 0, none⟩ → (∀ j (hj : j < qs.length), qs[j].1.x ≠ some ⟨b, 0, none⟩ ∧ qs[j].1.y ≠ some ⟨b, 0, none⟩) → Row w b t l → Row w' b t l := by
  have HM : Hid (∀ w, OwnMesh w base p n c q m d qs ls → Calls Tryz.prog 48 #[.slice p n c, .int .i64 K] w fun e w' => e = .returned (.int .i64 ((kAt K (qs.map (·.2)) n : Nat) : Int)) ∧ OwnMesh w' base p n c q m d (mixQ K qs n) ls ∧ Below base w w' ∧ ∀ b t l, p ≠ some ⟨b, 0, none⟩ → (∀ j (hj : j < qs.length), qs[j].1.x ≠ some ⟨b, 0, none⟩ ∧ qs[j].1.y ≠ some ⟨b, 0, none⟩) → Row w b t l → Row w' b t l) := fun w h => by
    refine (markInstS_any K p n c base qs w hn h8 (by rw [← hn]; exact hK) h.1 h.2.1 h.2.2.1).mono ?_
    rintro e w' ⟨he, o1, o2, hb, hk⟩
    refine ⟨he, ⟨o1, own_mix o2, apQ_mix h.2.2.1, ?_⟩, hb, ?_⟩
    · refine owns_kept h.2.2.2 (fun b t l e hr => hk b t l ?_ (fun j hj => ⟨?_, ?_⟩) hr)
      · exact owns_apart h.2.2.2 h.1 (by decide) e
      · exact owns_apart h.2.2.2 (h.2.1 j hj).1 (by decide) e
      · exact owns_apart h.2.2.2 (h.2.1 j hj).2 (by decide) e
    · exact fun b t l h1 h2 hr => hk b t l h1 h2 hr
  have HR : Hid (∀ qs w, OwnMesh w base p n c q m d qs ls → ∀ K, K ≤ 100000000 → Calls Tryz.prog 49 #[.slice q m d, .int .i64 (K : Nat)] w fun e w' => e = .returned (.int .i64 ((K : Int) + 4 * (m : Int))) ∧ OwnMesh w' base p n c q m d qs (marksL K m) ∧ Below base w w' ∧ ∀ b t l, q ≠ some ⟨b, 0, none⟩ → Row w b t l → Row w' b t l) := fun qs w h K hK => by
    refine (markLinkS_any K q m d base ls w hm hK h9 h.2.2.2).mono ?_
    rintro e w' ⟨he, o1, hb, hk⟩
    refine ⟨he, ⟨?_, fun j hj => (h.2.1 j hj).kept (fun b t l e hr => hk b t l ?_ hr), h.2.2.1, o1⟩, hb, ?_⟩
    · exact owns_kept h.1 (fun b t l e hr => hk b t l (owns_apart h.1 h.2.2.2 (by decide) e) hr)
    · rcases e with e | e
      · exact owns_apart (h.2.1 j hj).1 h.2.2.2 (by decide) e
      · exact owns_apart (h.2.1 j hj).2 h.2.2.2 (by decide) e
    · exact fun b t l h1 hr => hk b t l h1 hr
  have HH : Hid (OwnMesh (w.alloc (.cells #[.slice p n c, .slice q m d] 26)) base p n c q m d qs ls) := h.alloc _
  have HKK : Hid (kAt K (qs.map (·.2)) n ≤ 100000000) := hK
  have r0 := Row.new w 26 [.slice p n c, .slice q m d]
  have hB0 := (Below.refl base w).alloc hbs (.cells #[.slice p n c, .slice q m d] 26)
  have HKp : Hid (∀ b t l, Row w b t l → Row (w.alloc (.cells #[.slice p n c, .slice q m d] 26)) b t l) := fun b t l h => h.alloc _
  have HA : Hid _ := And.intro r0 hB0
  clear h hn hm h8 h9 hK r0 hB0
  go_enter Tryz.func20, Tryz.ntmps20
  go_wp2_with fail
  obtain ⟨r0, hB⟩ := HA.out
  generalize w.alloc (.cells #[.slice p n c, .slice q m d] 26) = W at *
  refine (HM.out _ HH.out).mono ?_
  rintro e w1 ⟨rfl, om, hb1, hk1⟩
  replace r0 := hk1 _ _ _ (owns_ne HH.out.1 r0 (by decide)) (fun j hj => ⟨owns_ne (HH.out.2.1 j hj).1 r0 (by decide), owns_ne (HH.out.2.1 j hj).2 r0 (by decide)⟩) r0
  replace hB := hB.trans hb1
  have HK1 : Hid (∀ b t l, p ≠ some ⟨b, 0, none⟩ → (∀ j (hj : j < qs.length), qs[j].1.x ≠ some ⟨b, 0, none⟩ ∧ qs[j].1.y ≠ some ⟨b, 0, none⟩) → Row w b t l → Row w1 b t l) := fun b t l x y h => hk1 b t l x y (HKp.out b t l h)
  clear hb1 hk1 HM HA HH HKp
  have y1 : w1.cell? ⟨w.heap.size, 1, none⟩ = some (.slice q m d) := r0.cell 1
  go_wp2_with fail
  refine (HR.out _ _ om _ HKK.out).mono ?_
  rintro e w2 ⟨rfl, om, hb2, hk2⟩
  replace hB := hB.trans hb2
  have HK2 : Hid (∀ b t l, p ≠ some ⟨b, 0, none⟩ → q ≠ some ⟨b, 0, none⟩ → (∀ j (hj : j < qs.length), qs[j].1.x ≠ some ⟨b, 0, none⟩ ∧ qs[j].1.y ≠ some ⟨b, 0, none⟩) → Row w b t l → Row w2 b t l) := fun b t l x u y h => hk2 b t l u (HK1.out b t l x y h)
  clear hb2 hk2 HR HK1 y1 r0 HKK
  go_wp2
  go_ret
  exact ⟨rfl, om, hB, HK2.out⟩
set_option maxRecDepth 100000 in
set_option maxHeartbeats 4000000 in
theorem markMeshOutX_any (K : Nat) (p : Option Addr) (n c : Nat) (q : Option Addr) (m d : Nat) (cc : Int) (base : Nat) (qs : List IvP) (ls : List Li) (w : World) (hn : n = qs.length) (hm : m = ls.length) (h8 : n ≤ 100000000) (h9 : m ≤ 100000000) (hK : kAt K (qs.map (·.2)) n ≤ 100000000) (h : OwnMesh w base p n c q m d qs ls) (hbs : base ≤ w.heap.size) :
    Calls Tryz.prog 13 #[.agg #[.slice p n c, .slice q m d, .int .i64 cc], .int .i64 K] w fun e w' => e = .returned (.int .i64 (((kAt K (qs.map (·.2)) n : Nat) : Int) + 4 * (m : Int))) ∧ OwnMesh w' base p n c q m d (mixQ K qs n) (marksL (kAt K (qs.map (·.2)) n) m) ∧ Below base w w' ∧ ∀ b t l, p ≠ some ⟨b, 0, none⟩ → q ≠ some ⟨b, 0, none⟩ → (∀ j (hj : j < qs.length), qs[j].1.x ≠ some ⟨b, 0, none⟩ ∧ qs[j].1.y ≠ some ⟨b, 0, none⟩) → Row w b t l → Row w' b t l := by
  have HM : Hid (Calls Tryz.prog 20 #[.agg #[.slice p n c, .slice q m d], .int .i64 K] (w.alloc (.cells #[.slice p n c, .slice q m d, .int .i64 cc] 28)) fun e w' => e = .returned (.int .i64 (((kAt K (qs.map (·.2)) n : Nat) : Int) + 4 * (m : Int))) ∧ OwnMesh w' base p n c q m d (mixQ K qs n) (marksL (kAt K (qs.map (·.2)) n) m) ∧ Below base (w.alloc (.cells #[.slice p n c, .slice q m d, .int .i64 cc] 28)) w' ∧ ∀ b t l, p ≠ some ⟨b, 0, none⟩ → q ≠ some ⟨b, 0, none⟩ → (∀ j (hj : j < qs.length), qs[j].1.x ≠ some ⟨b, 0, none⟩ ∧ qs[j].1.y ≠ some ⟨b, 0, none⟩) → Row (w.alloc (.cells #[.slice p n c, .slice q m d, .int .i64 cc] 28)) b t l → Row w' b t l) := markMeshX_any K p n c q m d base qs ls _ hn hm h8 h9 hK (h.alloc _) (Nat.le_trans hbs (by simp))
  have hB0 := (Below.refl base w).alloc hbs (.cells #[.slice p n c, .slice q m d, .int .i64 cc] 28)
  have HKp : Hid (∀ b t l, Row w b t l → Row (w.alloc (.cells #[.slice p n c, .slice q m d, .int .i64 cc] 28)) b t l) := fun b t l h => h.alloc _
  clear h hn hm h8 h9 hK
  go_enter Tryz.func13, Tryz.ntmps13
  go_wp2_with fail
  refine (HM.out).mono ?_
  rintro e w1 ⟨rfl, om, hb1, hk1⟩
  have hB := hB0.trans hb1
  have HK1 : Hid (∀ b t l, p ≠ some ⟨b, 0, none⟩ → q ≠ some ⟨b, 0, none⟩ → (∀ j (hj : j < qs.length), qs[j].1.x ≠ some ⟨b, 0, none⟩ ∧ qs[j].1.y ≠ some ⟨b, 0, none⟩) → Row w b t l → Row w1 b t l) := fun b t l x u y h => hk1 b t l x u y (HKp.out b t l h)
  clear hb1 hk1 HM HKp hB0
  go_wp2
  go_ret
  exact ⟨rfl, om, hB, HK1.out⟩
end Go.Proofs.YtcnadobnihbldaaGreat
/- A Mesh measured: what is left and all its lengths are no more than what was there. (Written by gen_szsum.py.) -/
namespace Go.Proofs.YtcnadobnihbldaaGreat
open Go.ChangeShapes Go.WideShapes Go.RowKit Go.Sort Go.Deep Go.Joins

/-- The lengths of all lists of Insts. -/
def sumL (ps : List IvP) : Nat := (ps.map fun e => e.2.is.length + e.2.rs.length).sum
theorem sumL_snoc (ps : List IvP) (e : IvP) : sumL (ps ++ [e]) = sumL ps + e.2.is.length + e.2.rs.length := by
  unfold sumL
  simp only [List.map_append, List.map_cons, List.map_nil, List.sum_append, List.sum_cons, List.sum_nil]
  omega
theorem sumL_mem {ps : List IvP} {e : IvP} (h : e ∈ ps) : e.2.is.length + e.2.rs.length ≤ sumL ps := by
  unfold sumL
  induction ps with
  | nil => cases h
  | cons a l ih =>
    simp only [List.map_cons, List.sum_cons]
    rcases List.mem_cons.1 h with rfl | h
    · omega
    · have := ih h; omega
/-- The marks of Insts stay small. -/
theorem kAt_sum (K : Nat) (ps : List IvP) (n : Nat) (hn : n ≤ ps.length) : kAt K (ps.map (·.2)) n ≤ K + 9 * sumL (ps.take n) + n := by
  induction n with
  | zero => simp [kAt]
  | succ n ih =>
    have h1 := ih (by omega)
    rw [List.take_succ_eq_append_getElem (by omega), sumL_snoc, kAt, szT, map_at (by omega)]
    omega
theorem kAt_small {ps : List IvP} {L : Nat} (h : sumL ps + ps.length ≤ L) (hL : L ≤ 1048576) : kAt 1 (ps.map (·.2)) ps.length ≤ 100000000 := by
  have := kAt_sum 1 ps ps.length (Nat.le_refl _)
  rw [List.take_length] at this
  omega
set_option maxRecDepth 100000 in
set_option maxHeartbeats 4000000 in
theorem szInstU_any (x : Option Addr) (n1 c1 : Nat) (y : Option Addr) (n2 c2 : Nat) (now L : Int) (w : World) (h1 : n1 ≤ maxLen) (h2 : n2 ≤ maxLen) (h0 : 0 ≤ L) (hL : L ≤ 1048576) :
    Calls Tryz.prog 65 #[instV x n1 c1 y n2 c2 now, .int .i64 L] w fun e w' => (∃ v : Int, e = .returned (.int .i64 v) ∧ v ≤ L ∧ (v < 0 ∨ 0 ≤ v ∧ v + (n1 : Int) + (n2 : Int) ≤ L)) ∧ Below w.heap.size w w' := by
  have HA : Hid (∀ w, Calls Tryz.prog 106 #[.slice x n1 c1, .int .i64 L] w fun e w' => e = .returned (.int .i64 (if (n1 : Int) ≤ L then L - (n1 : Int) else -1)) ∧ w = w') := fun w => szIfaceSL_any x n1 c1 L w h1 h0 hL
  have HB : Hid (∀ L : Int, 0 ≤ L → L ≤ 1048576 → ∀ w, Calls Tryz.prog 107 #[.agg #[.slice y n2 c2], .int .i64 L] w fun e w' => e = .returned (.int .i64 (if (n2 : Int) ≤ L then L - (n2 : Int) else -1)) ∧ Below w.heap.size w w') := fun L a b w => szRibL_any y n2 c2 L w h2 a b
  unfold instV
  by_cases k1 : (n1 : Int) ≤ L
  · rw [if_pos k1] at HA
    have HB1 : Hid _ := HB.out (L - (n1 : Int)) (by omega) (by omega)
    have d1 : decide (L - (n1 : Int) < 0) = false := by simp; omega
    clear HB h1 h2
    by_cases k2 : (n2 : Int) ≤ L - (n1 : Int)
    · rw [if_pos k2] at HB1
      have d2 : decide (L - (n1 : Int) - (n2 : Int) < 0) = false := by simp; omega
      go_enter Tryz.func65, Tryz.ntmps65
      go_wp2_with fail
      refine (HA.out _).mono ?_
      rintro e w1 ⟨rfl, rfl⟩
      go_wp2_with fail
      refine (HB1.out _).mono ?_
      rintro e w2 ⟨rfl, hb2⟩
      obtain ⟨-, hB⟩ := box3i hb2
      clear hb2
      go_wp2
      go_ret
      exact ⟨⟨_, rfl, by omega, .inr ⟨by omega, by omega⟩⟩, hB⟩
    · rw [if_neg k2] at HB1
      go_enter Tryz.func65, Tryz.ntmps65
      go_wp2_with fail
      refine (HA.out _).mono ?_
      rintro e w1 ⟨rfl, rfl⟩
      go_wp2_with fail
      refine (HB1.out _).mono ?_
      rintro e w2 ⟨rfl, hb2⟩
      obtain ⟨-, hB⟩ := box3i hb2
      clear hb2
      go_wp2
      go_ret
      exact ⟨⟨_, rfl, by omega, .inl (by omega)⟩, hB⟩
  · rw [if_neg k1] at HA
    clear HB h1 h2
    go_enter Tryz.func65, Tryz.ntmps65
    go_wp2_with fail
    refine (HA.out _).mono ?_
    rintro e w1 ⟨rfl, rfl⟩
    go_wp2
    go_ret
    exact ⟨⟨_, rfl, by omega, .inl (by omega)⟩, ent_new0 w _⟩
set_option maxRecDepth 100000 in
set_option maxHeartbeats 4000000 in
theorem szInstSU_any (x : Option Addr) (cap : Nat) (ps : List IvP) (L : Int) (w : World) (h : ArgIvs w x ps.length ps) (h0 : 0 ≤ L) (h1 : L ≤ 1048576) : Calls Tryz.prog 34 #[.slice x ps.length cap, .int .i64 L] w fun e w' => (∃ v : Int, e = .returned (.int .i64 v) ∧ v ≤ L ∧ (v < 0 ∨ 0 ≤ v ∧ v + (sumL ps : Int) + (ps.length : Int) ≤ L)) ∧ Below w.heap.size w w' := by
  have hl := h.2.1
  unfold maxLen at hl
  have HE : Hid (∀ (a : Ip) (t : Iv) (L : Int) (w : World), ArgIv w a t → IvW t → 0 ≤ L → L ≤ 1048576 → Calls Tryz.prog 65 #[.agg #[.slice a.x t.is.length a.c1, .slice a.y t.rs.length a.c2, .int .i64 t.now], .int .i64 L] w fun e w' => (∃ v : Int, e = .returned (.int .i64 v) ∧ v ≤ L ∧ (v < 0 ∨ 0 ≤ v ∧ v + (t.is.length : Int) + (t.rs.length : Int) ≤ L)) ∧ Below w.heap.size w w') := fun a t L w hA hW k0 k1 => szInstU_any a.x t.is.length a.c1 a.y t.rs.length a.c2 t.now L w hA.1.2.1 hA.2.2.1 k0 k1
  have HX : Hid (ArgIvs w x ps.length ps) := h
  have z : IntKind.i64.wrap (L - (ps.length : Int)) = L - (ps.length : Int) := wrap_i64_in _ (by omega) (by omega)
  clear h
  by_cases hL : (ps.length : Int) ≤ L
  case neg =>
    have d : decide (L - (ps.length : Int) < 0) = true := by simp; omega
    clear HE HX
    go_enter Tryz.func34, Tryz.ntmps34
    go_wp2
    go_ret
    exact ⟨⟨_, rfl, by omega, .inl (by omega)⟩, Below.refl _ _⟩
  have d : decide (L - (ps.length : Int) < 0) = false := by simp; omega
  go_enter Tryz.func34, Tryz.ntmps34
  go_wp2_with fail
  go_loopw [5, 1] (fun i m wr => ∃ (k : Nat) (v : Int), k ≤ ps.length ∧ i = .int .i64 k ∧ m = .int .i64 v ∧ 0 ≤ v ∧ v ≤ L ∧ v + (sumL (ps.take k) : Int) + (ps.length : Int) ≤ L ∧ Below w.heap.size w wr) (fun i _ _ => ps.length - (intOf i).toNat)
  case atStart => exact ⟨0, _, Nat.zero_le _, rfl, rfl, by omega, by omega, by simp [sumL], Below.refl _ _⟩
  case round =>
    obtain ⟨k, v, hk, rfl, rfl, hv0, hvL, ha, hB⟩ := hrel
    by_cases hlt : k < ps.length
    · have d1 : decide ((k : Int) < (ps.length : Int)) = true := by simpa using hlt
      obtain ⟨p, a, t, rfl, hek, hA, hW, c0, c1, c2⟩ := (HX.out.below hB).at k hlt
      have HEk : Hid (Calls Tryz.prog 65 #[.agg #[.slice a.x t.is.length a.c1, .slice a.y t.rs.length a.c2, .int .i64 t.now], .int .i64 v] wr fun e w' => (∃ v' : Int, e = .returned (.int .i64 v') ∧ v' ≤ v ∧ (v' < 0 ∨ 0 ≤ v' ∧ v' + (t.is.length : Int) + (t.rs.length : Int) ≤ v)) ∧ Below wr.heap.size wr w') := HE.out a t v wr hA hW hv0 (by omega)
      have HK : Hid (sumL (ps.take (k + 1)) = sumL (ps.take k) + t.is.length + t.rs.length) := by
        show _ = _
        rw [List.take_succ_eq_append_getElem hlt, sumL_snoc, hek]
      generalize a.x = ax at *
      generalize a.y = ay at *
      generalize a.c1 = ac1 at *
      generalize a.c2 = ac2 at *
      generalize t.is.length = tn1 at *
      generalize t.rs.length = tn2 at *
      generalize t.now = tw at *
      have HA : Hid (v + (sumL (ps.take k) : Int) + (ps.length : Int) ≤ L) := ha
      clear HE hek ha hA hW
      go_wp2_with fail
      refine (HEk.out).mono ?_
      rintro e w1 ⟨⟨v', rfl, hv', hc⟩, hb1⟩
      have hB := hB.trans (hb1.mono hB.size)
      clear c0 c1 c2 hb1 HEk
      rcases hc with hc | ⟨hc, hS⟩
      · have d2 : decide (v' < 0) = true := by simpa using hc
        clear hc
        go_wp2
        go_ret
        exact ⟨⟨_, rfl, by omega, .inl (by omega)⟩, hB⟩
      · have d2 : decide (v' < 0) = false := by simp; omega
        have HB : Hid _ := And.intro hS hB
        clear hB hS
        go_wp2
        go_roundw
        case rel => exact ⟨k + 1, _, hlt, by go_num, rfl, by omega, by omega, (by have h1 := HB.out.1; have h2 := HA.out; have h3 := HK.out; omega), HB.out.2⟩
        case measure => simp [intOf]; omega
    · have d1 : decide ((k : Int) < (ps.length : Int)) = false := by simpa using hlt
      clear HE HX
      go_wp2
      go_ret
      obtain rfl : k = ps.length := by omega
      rw [List.take_length] at ha
      exact ⟨⟨_, rfl, hvL, .inr ⟨hv0, ha⟩⟩, hB⟩
set_option maxRecDepth 100000 in
set_option maxHeartbeats 4000000 in
theorem szMeshU_any (p : Option Addr) (c1 : Nat) (q : Option Addr) (c2 : Nat) (ps : List IvP) (ls : List Li) (L : Int) (w : World) (h : ArgIvs w p ps.length ps ∧ ArgLi w q ls.length ls) (h0 : 0 ≤ L) (hL : L ≤ 1048576) :
    Calls Tryz.prog 15 #[.agg #[.slice p ps.length c1, .slice q ls.length c2], .int .i64 L] w fun e w' => (∃ v : Int, e = .returned (.int .i64 v) ∧ v ≤ L ∧ (v < 0 ∨ 0 ≤ v ∧ v + (sumL ps : Int) + (ps.length : Int) + (ls.length : Int) ≤ L)) ∧ Below w.heap.size w w' := by
  have HA : Hid (∀ w1, Below w.heap.size w w1 → Calls Tryz.prog 34 #[.slice p ps.length c1, .int .i64 L] w1 fun e w' => (∃ v : Int, e = .returned (.int .i64 v) ∧ v ≤ L ∧ (v < 0 ∨ 0 ≤ v ∧ v + (sumL ps : Int) + (ps.length : Int) ≤ L)) ∧ Below w1.heap.size w1 w') := fun w1 hb => szInstSU_any p c1 ps L w1 (h.1.below hb) h0 hL
  have HC : Hid (∀ L : Int, 0 ≤ L → L ≤ 1048576 → ∀ w, Calls Tryz.prog 35 #[.slice q ls.length c2, .int .i64 L] w fun e w' => e = .returned (.int .i64 (if (ls.length : Int) ≤ L then L - (ls.length : Int) else -1)) ∧ w = w') := fun L a b w => szLinkS_any q ls.length c2 L w h.2.2.1 a b
  clear h
  generalize ps.length = n1 at *
  generalize sumL ps = s1 at *
  generalize ls.length = n2 at *
  go_enter Tryz.func15, Tryz.ntmps15
  go_wp2_with fail
  refine (HA.out _ (ent_new0 w _)).mono ?_
  rintro e w1 ⟨⟨v1, rfl, hv1, hc1⟩, hb1⟩
  obtain ⟨r0, hB⟩ := box2m hb1
  clear hb1 HA
  rcases hc1 with hc1 | ⟨g1, m1⟩
  · have d1 : decide (v1 < 0) = true := by simpa using hc1
    clear hc1
    go_wp2
    go_ret
    exact ⟨⟨_, rfl, by omega, .inl (by omega)⟩, hB⟩
  have d1 : decide (v1 < 0) = false := by simp; omega
  have y1 : w1.cell? ⟨w.heap.size, 1, none⟩ = some (.slice q n2 c2) := r0.cell 1
  go_wp2_with fail
  refine (HC.out v1 (by omega) (by omega) _).mono ?_
  rintro e w2 ⟨rfl, rfl⟩
  clear y1
  by_cases k2 : (n2 : Int) ≤ v1
  case neg =>
    rw [if_neg k2]
    go_wp2
    go_ret
    exact ⟨⟨_, rfl, by omega, .inl (by omega)⟩, hB⟩
  rw [if_pos k2]
  have d2 : decide (v1 - (n2 : Int) < 0) = false := by simp; omega
  go_wp2
  go_ret
  exact ⟨⟨_, rfl, by omega, .inr ⟨by omega, by omega⟩⟩, hB⟩
end Go.Proofs.YtcnadobnihbldaaGreat
/- The laws' own Meshes handed in: opened. (Written by gen_mesha.py.) -/
namespace Go.Proofs.YtcnadobnihbldaaGreat
open Go.ChangeShapes Go.WideShapes Go.RowKit Go.Sort Go.Deep Go.Joins Go.WideElems Go.Maps

theorem Tryz.cellsMesh : Tryz.prog.cellsOf 39 = 2 := by kernel_rfl
theorem Tryz.cellsMeshR : Tryz.prog.cellsOf 36 = 1 := by kernel_rfl
theorem Tryz.cellsMeshL : Tryz.prog.cellsOf 37 = 1 := by kernel_rfl
/-- The Mesh that was handed in: its lists, each opened. -/
def ArgM (w : World) (p : Option Addr) (ps : List IvP) (q : Option Addr) (ls : List Li) : Prop := ArgIvs w p ps.length ps ∧ ArgLi w q ls.length ls
theorem ArgM.below {w w' : World} {p : Option Addr} {ps : List IvP} {q : Option Addr} {ls : List Li} (h : ArgM w p ps q ls) (hb : Below w.heap.size w w') : ArgM w' p ps q ls := ⟨h.1.below hb, h.2.below hb⟩
def meshV (p : Option Addr) (c1 : Nat) (q : Option Addr) (c2 : Nat) (ps : List IvP) (ls : List Li) : Value := .agg #[.slice p ps.length c1, .slice q ls.length c2]
section
variable {H : Type} {enc : TypeId × Value → H} {w : World} {base : Nat} {spare : Nat → Bool} {held : Bool}
set_option maxRecDepth 100000 in
set_option maxHeartbeats 4000000 in
theorem open_meshV {r_ : Reach} {b0 : Nat} {v : Value} {d : DataW H} {pp : List MemPlace} (hv : Value.okWide Tryz.prog w r_ b0 39 v) (h : DataW.Trod enc Tryz.prog w base spare held 39 v d pp) :
    ∃ p c1 q c2 ps ls, v = meshV p c1 q c2 ps ls ∧ ArgM w p ps q ls := by
  obtain ⟨cs, rfl, hsz⟩ := okWide_struct Tryz.underlying39 hv
  rw [Tryz.cellsMesh] at hsz
  obtain ⟨li⟩ := cs
  obtain ⟨fuel, hf⟩ := h
  obtain ⟨xs, n, _, _, hl, hx, hg⟩ := DataW.trod_struct Tryz.underlying39 hf
  match li, hsz, xs, hx with
  | [c0, c1], _, [y0, y1], _ =>
    have h0 : DataW.trod enc Tryz.prog w base spare held n 36 ((([c0, c1] : List Value).drop 0).take (Tryz.prog.cellsOf 36)) = [y0, y1][0]? := hg 0 _ rfl
    rw [Tryz.cellsMeshR] at h0
    replace h0 : DataW.trod enc Tryz.prog w base spare held n 36 [c0] = some y0 := h0
    have h1 : DataW.trod enc Tryz.prog w base spare held n 37 ((([c0, c1] : List Value).drop 1).take (Tryz.prog.cellsOf 37)) = [y0, y1][1]? := hg 1 _ rfl
    rw [Tryz.cellsMeshL] at h1
    replace h1 : DataW.trod enc Tryz.prog w base spare held n 37 [c1] = some y1 := h1
    obtain ⟨p, n1, k1, ps, rfl, hT⟩ := open_ivs h0
    obtain ⟨q, n2, k2, ls, rfl, hB⟩ := open_lis h1
    obtain rfl : ps.length = n1 := hT.1
    obtain rfl : ls.length = n2 := hB.1
    exact ⟨p, k1, q, k2, ps, ls, rfl, ⟨hT, hB⟩⟩
end
end Go.Proofs.YtcnadobnihbldaaGreat
/- How far it is at least, in plain lists. (By hand.) -/
namespace Go.Proofs.YtcnadobnihbldaaGreat
open Go.RowKit Go.Sort

def upY (ts : List Iv) (y : Wy) : Bool := (ifAtE ts y.1).u && (ifAtE ts y.2).u
def egY (ts : List Iv) (y : Wy) : Eg := (y.1.1.toNat, y.2.1.toNat, (ifAtE ts y.1).c)
def egs (ts : List Iv) (ys : List Wy) : List Eg := (ys.filter (upY ts)).map (egY ts)
def handB (a l : Int) (f : If) : Bool := f.u && (f.a == a && f.l == l)
def handV (a l : Int) (is : List If) : Int := if is.any (handB a l) = true then 1 else 16
def far0 (a l : Int) (ts : List Iv) : List Int := ts.map fun t => handV a l t.is
def fn (d : List Int) (i : Nat) : Int := d.getD i 0
def distO (ts : List Iv) (ls : List Li) (r a l : Int) : Int := if (meshB ts ls && (hasR ts.length r && rightB a l)) = true then rnd (egs ts (wayL ls)) ts.length (fn (far0 a l ts)) r.toNat else 0
theorem fn_set (d : List Int) (u : Nat) (x : Int) (h : u < d.length) : fn (d.set u x) = fun i => if i = u then x else fn d i := by
  funext i
  unfold fn
  rw [List.getD_eq_getElem?_getD, List.getD_eq_getElem?_getD]
  by_cases hi : i = u
  · subst hi
    rw [if_pos rfl, List.getElem?_set_self h]
    rfl
  · rw [if_neg hi, List.getElem?_set_ne (fun e => hi e.symm)]
theorem fn_at (d : List Int) (i : Nat) (h : i < d.length) : fn d i = d[i] := by
  unfold fn
  rw [List.getD_eq_getElem?_getD, List.getElem?_eq_getElem h]
  rfl
theorem egs_append (ts : List Iv) (a b : List Wy) : egs ts (a ++ b) = egs ts a ++ egs ts b := by unfold egs; rw [List.filter_append, List.map_append]
theorem upY_symm (ts : List Iv) (x : Li) : upY ts (wayBA x) = upY ts (wayAB x) := by unfold upY wayAB wayBA; exact Bool.and_comm _ _
/-- The model's step. -/
theorem egs_link (ts : List Iv) (ls : List Li) (j : Nat) (hj : j < ls.length) : egs ts (wayL (ls.take (j + 1))) = egs ts (wayL (ls.take j)) ++ (if upY ts (wayAB ls[j]) = true then [egY ts (wayAB ls[j]), egY ts (wayBA ls[j])] else []) := by
  rw [List.take_succ_eq_append_getElem hj, wayL_append, egs_append]
  congr 1
  show egs ts [wayAB ls[j], wayBA ls[j]] = _
  unfold egs
  by_cases h : upY ts (wayAB ls[j]) = true
  · rw [if_pos h, List.filter_cons_of_pos h, List.filter_cons_of_pos (by rw [upY_symm]; exact h)]
    rfl
  · rw [if_neg h, List.filter_cons_of_neg h, List.filter_cons_of_neg (by rw [upY_symm]; exact h)]
    rfl
/-- The edges of each router behind one another. -/
def egP (E : List Eg) : Nat → List Eg
  | 0 => []
  | u + 1 => egP E u ++ E.filter (fun e => e.1 == u)
theorem egP_mem (E : List Eg) (N : Nat) (e : Eg) : e ∈ egP E N ↔ e ∈ E ∧ e.1 < N := by
  induction N with
  | zero => simp [egP]
  | succ N ih =>
    simp only [egP, List.mem_append, ih, List.mem_filter, beq_iff_eq]
    constructor
    · rintro (⟨h1, h2⟩ | ⟨h1, h2⟩)
      · exact ⟨h1, by omega⟩
      · exact ⟨h1, by omega⟩
    · rintro ⟨h1, h2⟩
      by_cases h : e.1 = N
      · exact .inr ⟨h1, h⟩
      · exact .inl ⟨h1, by omega⟩
/-- What one router hears of all its neighbours at once. -/
theorem fold_at (u : Nat) : ∀ (L : List Eg), (∀ e ∈ L, e.1 = u ∧ e.2.1 ≠ u) → ∀ (f : Nat → Int), L.foldl rlx f = fun i => if i = u then (L.map fun e => e.2.2 + f e.2.1).foldl min (f u) else f i := by
  intro L
  induction L with
  | nil =>
    intro _ f
    funext i
    show f i = if i = u then f u else f i
    split
    · rename_i h; rw [h]
    · rfl
  | cons e L ih =>
    intro hL f
    have he := hL e (by simp)
    have := ih (fun e he => hL e (by simp [he])) (rlx f e)
    show L.foldl rlx (rlx f e) = _
    rw [this]
    have hf : ∀ v, v ≠ u → rlx f e v = f v := fun v hv => by unfold rlx; rw [if_neg (by rw [he.1]; exact hv)]
    have hu : rlx f e u = min (f u) (e.2.2 + f e.2.1) := by unfold rlx; rw [if_pos he.1.symm, he.1]
    have hm : (L.map fun e' => e'.2.2 + rlx f e e'.2.1) = L.map fun e' => e'.2.2 + f e'.2.1 := List.map_congr_left fun e' he' => by rw [hf _ (hL e' (by simp [he'])).2]
    funext i
    by_cases hi : i = u
    · rw [if_pos hi, if_pos hi, hm, hu]
      rfl
    · rw [if_neg hi, if_neg hi, hf i hi]
theorem wayL_mem {ls : List Li} {y : Wy} (h : y ∈ wayL ls) : ∃ k, ∃ hk : k < ls.length, y = wayAB ls[k] ∨ y = wayBA ls[k] := by
  unfold wayL at h
  obtain ⟨x, hx, hy⟩ := List.mem_flatMap.1 h
  obtain ⟨k, hk, rfl⟩ := List.mem_iff_getElem.1 hx
  simp only [List.mem_cons, List.not_mem_nil, or_false] at hy
  exact ⟨k, hk, hy⟩
theorem way_right {ts : List Iv} {ls : List Li} (h : meshB ts ls = true) {y : Wy} (hy : y ∈ wayL ls) : wayB ts y = true := by
  unfold meshB linksB at h
  simp only [Bool.and_eq_true, List.all_eq_true, List.mem_range] at h
  obtain ⟨k, hk, hy⟩ := wayL_mem hy
  have h1 := h.2.2 k hk
  unfold linkAt at h1
  rw [getElem!_pos ls k hk, Bool.and_eq_true] at h1
  have w1 := (linkB_ways ts ls[k]).1.1 h1.1
  rcases hy with rfl | rfl
  · exact w1
  · exact (linkB_ways ts ls[k]).2.2 w1
theorem router_right {ts : List Iv} {ls : List Li} (h : meshB ts ls = true) {k : Nat} (hk : k < ts.length) : ivB ts[k] = true := by
  unfold meshB routersB at h
  simp only [Bool.and_eq_true, List.all_eq_true] at h
  exact h.1.2 _ (List.getElem_mem hk)
theorem mesh_few {ts : List Iv} {ls : List Li} (h : meshB ts ls = true) : 1 ≤ ts.length ∧ ts.length ≤ 4 ∧ ls.length ≤ 4 := by
  unfold meshB routersB linksB at h
  simp only [Bool.and_eq_true, decide_eq_true_eq] at h
  exact ⟨h.1.1.1, h.1.1.2, h.2.1⟩
theorem if_right {ts : List Iv} {ls : List Li} (h : meshB ts ls = true) {k i : Nat} (hk : k < ts.length) (hi : i < ts[k].is.length) : ifB ts[k].is[i] = true := by
  have := router_right h hk
  unfold ivB instB ifsB at this
  simp only [Bool.and_eq_true, List.all_eq_true, List.mem_range] at this
  have := this.1.2 i hi
  unfold ifsOk at this
  simp only [Bool.and_eq_true] at this
  have := this.1
  rw [getElem!_pos _ i hi] at this
  exact this
/-- A way of a right mesh, in numbers. -/
structure Wok (ts : List Iv) (y : Wy) (r i s j : Nat) : Prop where
  eq : y = (((r : Int), (i : Int)), ((s : Int), (j : Int)))
  hr : r < ts.length
  hi : i < ts[r]!.is.length
  hs : s < ts.length
  hj : j < ts[s]!.is.length
  ne : r ≠ s
  c1 : 1 ≤ (ifAtE ts ((r : Int), (i : Int))).c ∧ (ifAtE ts ((r : Int), (i : Int))).c ≤ 15
theorem wok_of {ts : List Iv} {ls : List Li} (h : meshB ts ls = true) {y : Wy} (hy : y ∈ wayL ls) : ∃ r i s j, Wok ts y r i s j := by
  have hw := way_right h hy
  unfold wayB at hw
  simp only [Bool.and_eq_true] at hw
  obtain ⟨h1, h2, h3⟩ := hw
  obtain ⟨r, i, e1, hr, hi⟩ := endB_spec h1
  obtain ⟨s, j, e2, hs, hj⟩ := endB_spec h2
  unfold fitB at h3
  simp only [Bool.and_eq_true, decide_eq_true_eq] at h3
  have hc : ifB (ifAtE ts ((r : Int), (i : Int))) = true := by
    unfold ifAtE
    simp only [Int.toNat_natCast]
    rw [getElem!_pos ts r hr] at hi ⊢
    rw [getElem!_pos _ i hi]
    exact if_right h hr hi
  unfold ifB at hc
  simp only [Bool.and_eq_true, decide_eq_true_eq] at hc
  refine ⟨r, i, s, j, ?_, hr, hi, hs, hj, ?_, ⟨hc.2.1, hc.2.2⟩⟩
  · obtain ⟨ya, yb⟩ := y
    simp only at e1 e2
    rw [e1, e2]
  · have := h3.1
    rw [e1, e2] at this
    simp only at this
    omega
theorem egs_right {ts : List Iv} {ls : List Li} (h : meshB ts ls = true) : ∀ e ∈ egs ts (wayL ls), (e.1 < ts.length ∧ e.2.1 < ts.length) ∧ e.2.1 ≠ e.1 ∧ 1 ≤ e.2.2 := by
  intro e he
  unfold egs at he
  obtain ⟨y, hy, rfl⟩ := List.mem_map.1 he
  obtain ⟨r, i, s, j, hw⟩ := wok_of h (List.mem_filter.1 hy).1
  have e0 := hw.eq
  subst e0
  unfold egY
  simp only [Int.toNat_natCast]
  exact ⟨⟨hw.hr, hw.hs⟩, fun e => hw.ne e.symm, hw.c1.1⟩
theorem handV_in (a l : Int) (is : List If) : 1 ≤ handV a l is ∧ handV a l is ≤ 16 := by unfold handV; split <;> omega
theorem far_nn (a l : Int) (ts : List Iv) (i : Nat) : 0 ≤ fn (far0 a l ts) i ∧ fn (far0 a l ts) i ≤ 16 := by
  unfold fn far0
  rw [List.getD_eq_getElem?_getD, List.getElem?_map]
  cases ts[i]? with
  | none => simp
  | some t => have := handV_in a l t.is; simp only [Option.map_some, Option.getD_some]; omega
/-- Router by router reaches what link by link reaches. -/
theorem dist_same {ts : List Iv} {ls : List Li} (h : meshB ts ls = true) (a l : Int) : rnd (egP (egs ts (wayL ls)) ts.length) ts.length (fn (far0 a l ts)) = rnd (egs ts (wayL ls)) ts.length (fn (far0 a l ts)) :=
  same_sums ts.length (fun e he => (egs_right h e he).1) (fun e he => (egs_right h e he).2.2) _ (fun i => (far_nn a l ts i).1) _ fun e => by
    rw [egP_mem]
    exact ⟨fun h => h.1, fun he => ⟨he, (egs_right h e he).1.1⟩⟩
/-- All sums stay small. -/
theorem rnd_in {ts : List Iv} {ls : List Li} (h : meshB ts ls = true) (a l : Int) (L : List Eg) (hL : ∀ e ∈ L, e ∈ egs ts (wayL ls)) (n : Nat) (i : Nat) : 0 ≤ rnd L n (fn (far0 a l ts)) i ∧ rnd L n (fn (far0 a l ts)) i ≤ 16 := by
  constructor
  · exact rnd_low (E := egs ts (wayL ls)) (D := fun _ => 0) (fun e he => by have := (egs_right h e he).2.2; show (0 : Int) ≤ e.2.2 + 0; omega) L hL _ (fun i => (far_nn a l ts i).1) n i
  · exact Int.le_trans (rnd_le L n _ i) (far_nn a l ts i).2
theorem fold_in {ts : List Iv} {ls : List Li} (h : meshB ts ls = true) (L : List Eg) (hL : ∀ e ∈ L, e ∈ egs ts (wayL ls)) (f : Nat → Int) (hf : ∀ i, 0 ≤ f i ∧ f i ≤ 16) (i : Nat) : 0 ≤ L.foldl rlx f i ∧ L.foldl rlx f i ≤ 16 := by
  constructor
  · exact fold_low (E := egs ts (wayL ls)) (D := fun _ => 0) (fun e he => by have := (egs_right h e he).2.2; show (0 : Int) ≤ e.2.2 + 0; omega) L hL f (fun i => (hf i).1) i
  · exact Int.le_trans (fold_le L f i) (hf i).2
end Go.Proofs.YtcnadobnihbldaaGreat
/- l10Apart of the model. (Written by gen_meshs.py.) -/
namespace Go.Proofs.YtcnadobnihbldaaGreat
open Go.RowKit Go.Sort

set_option maxRecDepth 100000 in
set_option maxHeartbeats 4000000 in
theorem l10Apart_any (x0 x1 x2 x3 y0 y1 y2 y3 : Int) (w : World) :
    Calls Tryz.prog 68 #[.agg #[.int .i64 x0, .int .i64 x1, .int .i64 x2, .int .i64 x3], .agg #[.int .i64 y0, .int .i64 y1, .int .i64 y2, .int .i64 y3]] w fun e w' => e = .returned (.bool (decide (((x0 ≠ y0 ∨ x1 ≠ y1) ∧ (x0 ≠ y2 ∨ x1 ≠ y3)) ∧ ((x2 ≠ y0 ∨ x3 ≠ y1) ∧ (x2 ≠ y2 ∨ x3 ≠ y3))))) ∧ Below w.heap.size w w' := by
  have HQ : Hid (Below w.heap.size w ((w.alloc (.cells #[.int .i64 x0, .int .i64 x1, .int .i64 x2, .int .i64 x3] 56)).alloc (.cells #[.int .i64 y0, .int .i64 y1, .int .i64 y2, .int .i64 y3] 56))) := (ent_new0 w _).alloc (by simp) _
  go_enter Tryz.func68, Tryz.ntmps68
  by_cases e0 : x0 = y0
  · have n0 : (x0 != y0) = false := by simpa using e0
    by_cases f0 : x1 = y1
    · have m0 : (x1 != y1) = false := by simpa using f0
      have hR : decide (((x0 ≠ y0 ∨ x1 ≠ y1) ∧ (x0 ≠ y2 ∨ x1 ≠ y3)) ∧ ((x2 ≠ y0 ∨ x3 ≠ y1) ∧ (x2 ≠ y2 ∨ x3 ≠ y3))) = false := by rw [decide_eq_false_iff_not]; omega
      clear e0 f0
      go_wp2
      go_ret
      exact ⟨by first | rfl | (rw [hR]; rfl), HQ.out⟩
    · have m0 : (x1 != y1) = true := by simpa using f0
      by_cases e1 : x0 = y2
      · have n1 : (x0 != y2) = false := by simpa using e1
        by_cases f1 : x1 = y3
        · have m1 : (x1 != y3) = false := by simpa using f1
          have hR : decide (((x0 ≠ y0 ∨ x1 ≠ y1) ∧ (x0 ≠ y2 ∨ x1 ≠ y3)) ∧ ((x2 ≠ y0 ∨ x3 ≠ y1) ∧ (x2 ≠ y2 ∨ x3 ≠ y3))) = false := by rw [decide_eq_false_iff_not]; omega
          clear e0 f0 e1 f1
          go_wp2
          go_ret
          exact ⟨by first | rfl | (rw [hR]; rfl), HQ.out⟩
        · have m1 : (x1 != y3) = true := by simpa using f1
          by_cases e2 : x2 = y0
          · have n2 : (x2 != y0) = false := by simpa using e2
            by_cases f2 : x3 = y1
            · have m2 : (x3 != y1) = false := by simpa using f2
              have hR : decide (((x0 ≠ y0 ∨ x1 ≠ y1) ∧ (x0 ≠ y2 ∨ x1 ≠ y3)) ∧ ((x2 ≠ y0 ∨ x3 ≠ y1) ∧ (x2 ≠ y2 ∨ x3 ≠ y3))) = false := by rw [decide_eq_false_iff_not]; omega
              clear e0 f0 e1 f1 e2 f2
              go_wp2
              go_ret
              exact ⟨by first | rfl | (rw [hR]; rfl), HQ.out⟩
            · have m2 : (x3 != y1) = true := by simpa using f2
              by_cases e3 : x2 = y2
              · have n3 : (x2 != y2) = false := by simpa using e3
                by_cases f3 : x3 = y3
                · have m3 : (x3 != y3) = false := by simpa using f3
                  have hR : decide (((x0 ≠ y0 ∨ x1 ≠ y1) ∧ (x0 ≠ y2 ∨ x1 ≠ y3)) ∧ ((x2 ≠ y0 ∨ x3 ≠ y1) ∧ (x2 ≠ y2 ∨ x3 ≠ y3))) = false := by rw [decide_eq_false_iff_not]; omega
                  clear e0 f0 e1 f1 e2 f2 e3 f3
                  go_wp2
                  go_ret
                  exact ⟨by first | rfl | (rw [hR]; rfl), HQ.out⟩
                · have m3 : (x3 != y3) = true := by simpa using f3
                  have hR : decide (((x0 ≠ y0 ∨ x1 ≠ y1) ∧ (x0 ≠ y2 ∨ x1 ≠ y3)) ∧ ((x2 ≠ y0 ∨ x3 ≠ y1) ∧ (x2 ≠ y2 ∨ x3 ≠ y3))) = true := by rw [decide_eq_true_eq]; omega
                  clear e0 f0 e1 f1 e2 f2 e3 f3
                  go_wp2
                  go_ret
                  exact ⟨by first | rfl | (rw [hR]; rfl), HQ.out⟩
              · have n3 : (x2 != y2) = true := by simpa using e3
                have hR : decide (((x0 ≠ y0 ∨ x1 ≠ y1) ∧ (x0 ≠ y2 ∨ x1 ≠ y3)) ∧ ((x2 ≠ y0 ∨ x3 ≠ y1) ∧ (x2 ≠ y2 ∨ x3 ≠ y3))) = true := by rw [decide_eq_true_eq]; omega
                clear e0 f0 e1 f1 e2 f2 e3
                go_wp2
                go_ret
                exact ⟨by first | rfl | (rw [hR]; rfl), HQ.out⟩
          · have n2 : (x2 != y0) = true := by simpa using e2
            by_cases e3 : x2 = y2
            · have n3 : (x2 != y2) = false := by simpa using e3
              by_cases f3 : x3 = y3
              · have m3 : (x3 != y3) = false := by simpa using f3
                have hR : decide (((x0 ≠ y0 ∨ x1 ≠ y1) ∧ (x0 ≠ y2 ∨ x1 ≠ y3)) ∧ ((x2 ≠ y0 ∨ x3 ≠ y1) ∧ (x2 ≠ y2 ∨ x3 ≠ y3))) = false := by rw [decide_eq_false_iff_not]; omega
                clear e0 f0 e1 f1 e2 e3 f3
                go_wp2
                go_ret
                exact ⟨by first | rfl | (rw [hR]; rfl), HQ.out⟩
              · have m3 : (x3 != y3) = true := by simpa using f3
                have hR : decide (((x0 ≠ y0 ∨ x1 ≠ y1) ∧ (x0 ≠ y2 ∨ x1 ≠ y3)) ∧ ((x2 ≠ y0 ∨ x3 ≠ y1) ∧ (x2 ≠ y2 ∨ x3 ≠ y3))) = true := by rw [decide_eq_true_eq]; omega
                clear e0 f0 e1 f1 e2 e3 f3
                go_wp2
                go_ret
                exact ⟨by first | rfl | (rw [hR]; rfl), HQ.out⟩
            · have n3 : (x2 != y2) = true := by simpa using e3
              have hR : decide (((x0 ≠ y0 ∨ x1 ≠ y1) ∧ (x0 ≠ y2 ∨ x1 ≠ y3)) ∧ ((x2 ≠ y0 ∨ x3 ≠ y1) ∧ (x2 ≠ y2 ∨ x3 ≠ y3))) = true := by rw [decide_eq_true_eq]; omega
              clear e0 f0 e1 f1 e2 e3
              go_wp2
              go_ret
              exact ⟨by first | rfl | (rw [hR]; rfl), HQ.out⟩
      · have n1 : (x0 != y2) = true := by simpa using e1
        by_cases e2 : x2 = y0
        · have n2 : (x2 != y0) = false := by simpa using e2
          by_cases f2 : x3 = y1
          · have m2 : (x3 != y1) = false := by simpa using f2
            have hR : decide (((x0 ≠ y0 ∨ x1 ≠ y1) ∧ (x0 ≠ y2 ∨ x1 ≠ y3)) ∧ ((x2 ≠ y0 ∨ x3 ≠ y1) ∧ (x2 ≠ y2 ∨ x3 ≠ y3))) = false := by rw [decide_eq_false_iff_not]; omega
            clear e0 f0 e1 e2 f2
            go_wp2
            go_ret
            exact ⟨by first | rfl | (rw [hR]; rfl), HQ.out⟩
          · have m2 : (x3 != y1) = true := by simpa using f2
            by_cases e3 : x2 = y2
            · have n3 : (x2 != y2) = false := by simpa using e3
              by_cases f3 : x3 = y3
              · have m3 : (x3 != y3) = false := by simpa using f3
                have hR : decide (((x0 ≠ y0 ∨ x1 ≠ y1) ∧ (x0 ≠ y2 ∨ x1 ≠ y3)) ∧ ((x2 ≠ y0 ∨ x3 ≠ y1) ∧ (x2 ≠ y2 ∨ x3 ≠ y3))) = false := by rw [decide_eq_false_iff_not]; omega
                clear e0 f0 e1 e2 f2 e3 f3
                go_wp2
                go_ret
                exact ⟨by first | rfl | (rw [hR]; rfl), HQ.out⟩
              · have m3 : (x3 != y3) = true := by simpa using f3
                have hR : decide (((x0 ≠ y0 ∨ x1 ≠ y1) ∧ (x0 ≠ y2 ∨ x1 ≠ y3)) ∧ ((x2 ≠ y0 ∨ x3 ≠ y1) ∧ (x2 ≠ y2 ∨ x3 ≠ y3))) = true := by rw [decide_eq_true_eq]; omega
                clear e0 f0 e1 e2 f2 e3 f3
                go_wp2
                go_ret
                exact ⟨by first | rfl | (rw [hR]; rfl), HQ.out⟩
            · have n3 : (x2 != y2) = true := by simpa using e3
              have hR : decide (((x0 ≠ y0 ∨ x1 ≠ y1) ∧ (x0 ≠ y2 ∨ x1 ≠ y3)) ∧ ((x2 ≠ y0 ∨ x3 ≠ y1) ∧ (x2 ≠ y2 ∨ x3 ≠ y3))) = true := by rw [decide_eq_true_eq]; omega
              clear e0 f0 e1 e2 f2 e3
              go_wp2
              go_ret
              exact ⟨by first | rfl | (rw [hR]; rfl), HQ.out⟩
        · have n2 : (x2 != y0) = true := by simpa using e2
          by_cases e3 : x2 = y2
          · have n3 : (x2 != y2) = false := by simpa using e3
            by_cases f3 : x3 = y3
            · have m3 : (x3 != y3) = false := by simpa using f3
              have hR : decide (((x0 ≠ y0 ∨ x1 ≠ y1) ∧ (x0 ≠ y2 ∨ x1 ≠ y3)) ∧ ((x2 ≠ y0 ∨ x3 ≠ y1) ∧ (x2 ≠ y2 ∨ x3 ≠ y3))) = false := by rw [decide_eq_false_iff_not]; omega
              clear e0 f0 e1 e2 e3 f3
              go_wp2
              go_ret
              exact ⟨by first | rfl | (rw [hR]; rfl), HQ.out⟩
            · have m3 : (x3 != y3) = true := by simpa using f3
              have hR : decide (((x0 ≠ y0 ∨ x1 ≠ y1) ∧ (x0 ≠ y2 ∨ x1 ≠ y3)) ∧ ((x2 ≠ y0 ∨ x3 ≠ y1) ∧ (x2 ≠ y2 ∨ x3 ≠ y3))) = true := by rw [decide_eq_true_eq]; omega
              clear e0 f0 e1 e2 e3 f3
              go_wp2
              go_ret
              exact ⟨by first | rfl | (rw [hR]; rfl), HQ.out⟩
          · have n3 : (x2 != y2) = true := by simpa using e3
            have hR : decide (((x0 ≠ y0 ∨ x1 ≠ y1) ∧ (x0 ≠ y2 ∨ x1 ≠ y3)) ∧ ((x2 ≠ y0 ∨ x3 ≠ y1) ∧ (x2 ≠ y2 ∨ x3 ≠ y3))) = true := by rw [decide_eq_true_eq]; omega
            clear e0 f0 e1 e2 e3
            go_wp2
            go_ret
            exact ⟨by first | rfl | (rw [hR]; rfl), HQ.out⟩
  · have n0 : (x0 != y0) = true := by simpa using e0
    by_cases e1 : x0 = y2
    · have n1 : (x0 != y2) = false := by simpa using e1
      by_cases f1 : x1 = y3
      · have m1 : (x1 != y3) = false := by simpa using f1
        have hR : decide (((x0 ≠ y0 ∨ x1 ≠ y1) ∧ (x0 ≠ y2 ∨ x1 ≠ y3)) ∧ ((x2 ≠ y0 ∨ x3 ≠ y1) ∧ (x2 ≠ y2 ∨ x3 ≠ y3))) = false := by rw [decide_eq_false_iff_not]; omega
        clear e0 e1 f1
        go_wp2
        go_ret
        exact ⟨by first | rfl | (rw [hR]; rfl), HQ.out⟩
      · have m1 : (x1 != y3) = true := by simpa using f1
        by_cases e2 : x2 = y0
        · have n2 : (x2 != y0) = false := by simpa using e2
          by_cases f2 : x3 = y1
          · have m2 : (x3 != y1) = false := by simpa using f2
            have hR : decide (((x0 ≠ y0 ∨ x1 ≠ y1) ∧ (x0 ≠ y2 ∨ x1 ≠ y3)) ∧ ((x2 ≠ y0 ∨ x3 ≠ y1) ∧ (x2 ≠ y2 ∨ x3 ≠ y3))) = false := by rw [decide_eq_false_iff_not]; omega
            clear e0 e1 f1 e2 f2
            go_wp2
            go_ret
            exact ⟨by first | rfl | (rw [hR]; rfl), HQ.out⟩
          · have m2 : (x3 != y1) = true := by simpa using f2
            by_cases e3 : x2 = y2
            · have n3 : (x2 != y2) = false := by simpa using e3
              by_cases f3 : x3 = y3
              · have m3 : (x3 != y3) = false := by simpa using f3
                have hR : decide (((x0 ≠ y0 ∨ x1 ≠ y1) ∧ (x0 ≠ y2 ∨ x1 ≠ y3)) ∧ ((x2 ≠ y0 ∨ x3 ≠ y1) ∧ (x2 ≠ y2 ∨ x3 ≠ y3))) = false := by rw [decide_eq_false_iff_not]; omega
                clear e0 e1 f1 e2 f2 e3 f3
                go_wp2
                go_ret
                exact ⟨by first | rfl | (rw [hR]; rfl), HQ.out⟩
              · have m3 : (x3 != y3) = true := by simpa using f3
                have hR : decide (((x0 ≠ y0 ∨ x1 ≠ y1) ∧ (x0 ≠ y2 ∨ x1 ≠ y3)) ∧ ((x2 ≠ y0 ∨ x3 ≠ y1) ∧ (x2 ≠ y2 ∨ x3 ≠ y3))) = true := by rw [decide_eq_true_eq]; omega
                clear e0 e1 f1 e2 f2 e3 f3
                go_wp2
                go_ret
                exact ⟨by first | rfl | (rw [hR]; rfl), HQ.out⟩
            · have n3 : (x2 != y2) = true := by simpa using e3
              have hR : decide (((x0 ≠ y0 ∨ x1 ≠ y1) ∧ (x0 ≠ y2 ∨ x1 ≠ y3)) ∧ ((x2 ≠ y0 ∨ x3 ≠ y1) ∧ (x2 ≠ y2 ∨ x3 ≠ y3))) = true := by rw [decide_eq_true_eq]; omega
              clear e0 e1 f1 e2 f2 e3
              go_wp2
              go_ret
              exact ⟨by first | rfl | (rw [hR]; rfl), HQ.out⟩
        · have n2 : (x2 != y0) = true := by simpa using e2
          by_cases e3 : x2 = y2
          · have n3 : (x2 != y2) = false := by simpa using e3
            by_cases f3 : x3 = y3
            · have m3 : (x3 != y3) = false := by simpa using f3
              have hR : decide (((x0 ≠ y0 ∨ x1 ≠ y1) ∧ (x0 ≠ y2 ∨ x1 ≠ y3)) ∧ ((x2 ≠ y0 ∨ x3 ≠ y1) ∧ (x2 ≠ y2 ∨ x3 ≠ y3))) = false := by rw [decide_eq_false_iff_not]; omega
              clear e0 e1 f1 e2 e3 f3
              go_wp2
              go_ret
              exact ⟨by first | rfl | (rw [hR]; rfl), HQ.out⟩
            · have m3 : (x3 != y3) = true := by simpa using f3
              have hR : decide (((x0 ≠ y0 ∨ x1 ≠ y1) ∧ (x0 ≠ y2 ∨ x1 ≠ y3)) ∧ ((x2 ≠ y0 ∨ x3 ≠ y1) ∧ (x2 ≠ y2 ∨ x3 ≠ y3))) = true := by rw [decide_eq_true_eq]; omega
              clear e0 e1 f1 e2 e3 f3
              go_wp2
              go_ret
              exact ⟨by first | rfl | (rw [hR]; rfl), HQ.out⟩
          · have n3 : (x2 != y2) = true := by simpa using e3
            have hR : decide (((x0 ≠ y0 ∨ x1 ≠ y1) ∧ (x0 ≠ y2 ∨ x1 ≠ y3)) ∧ ((x2 ≠ y0 ∨ x3 ≠ y1) ∧ (x2 ≠ y2 ∨ x3 ≠ y3))) = true := by rw [decide_eq_true_eq]; omega
            clear e0 e1 f1 e2 e3
            go_wp2
            go_ret
            exact ⟨by first | rfl | (rw [hR]; rfl), HQ.out⟩
    · have n1 : (x0 != y2) = true := by simpa using e1
      by_cases e2 : x2 = y0
      · have n2 : (x2 != y0) = false := by simpa using e2
        by_cases f2 : x3 = y1
        · have m2 : (x3 != y1) = false := by simpa using f2
          have hR : decide (((x0 ≠ y0 ∨ x1 ≠ y1) ∧ (x0 ≠ y2 ∨ x1 ≠ y3)) ∧ ((x2 ≠ y0 ∨ x3 ≠ y1) ∧ (x2 ≠ y2 ∨ x3 ≠ y3))) = false := by rw [decide_eq_false_iff_not]; omega
          clear e0 e1 e2 f2
          go_wp2
          go_ret
          exact ⟨by first | rfl | (rw [hR]; rfl), HQ.out⟩
        · have m2 : (x3 != y1) = true := by simpa using f2
          by_cases e3 : x2 = y2
          · have n3 : (x2 != y2) = false := by simpa using e3
            by_cases f3 : x3 = y3
            · have m3 : (x3 != y3) = false := by simpa using f3
              have hR : decide (((x0 ≠ y0 ∨ x1 ≠ y1) ∧ (x0 ≠ y2 ∨ x1 ≠ y3)) ∧ ((x2 ≠ y0 ∨ x3 ≠ y1) ∧ (x2 ≠ y2 ∨ x3 ≠ y3))) = false := by rw [decide_eq_false_iff_not]; omega
              clear e0 e1 e2 f2 e3 f3
              go_wp2
              go_ret
              exact ⟨by first | rfl | (rw [hR]; rfl), HQ.out⟩
            · have m3 : (x3 != y3) = true := by simpa using f3
              have hR : decide (((x0 ≠ y0 ∨ x1 ≠ y1) ∧ (x0 ≠ y2 ∨ x1 ≠ y3)) ∧ ((x2 ≠ y0 ∨ x3 ≠ y1) ∧ (x2 ≠ y2 ∨ x3 ≠ y3))) = true := by rw [decide_eq_true_eq]; omega
              clear e0 e1 e2 f2 e3 f3
              go_wp2
              go_ret
              exact ⟨by first | rfl | (rw [hR]; rfl), HQ.out⟩
          · have n3 : (x2 != y2) = true := by simpa using e3
            have hR : decide (((x0 ≠ y0 ∨ x1 ≠ y1) ∧ (x0 ≠ y2 ∨ x1 ≠ y3)) ∧ ((x2 ≠ y0 ∨ x3 ≠ y1) ∧ (x2 ≠ y2 ∨ x3 ≠ y3))) = true := by rw [decide_eq_true_eq]; omega
            clear e0 e1 e2 f2 e3
            go_wp2
            go_ret
            exact ⟨by first | rfl | (rw [hR]; rfl), HQ.out⟩
      · have n2 : (x2 != y0) = true := by simpa using e2
        by_cases e3 : x2 = y2
        · have n3 : (x2 != y2) = false := by simpa using e3
          by_cases f3 : x3 = y3
          · have m3 : (x3 != y3) = false := by simpa using f3
            have hR : decide (((x0 ≠ y0 ∨ x1 ≠ y1) ∧ (x0 ≠ y2 ∨ x1 ≠ y3)) ∧ ((x2 ≠ y0 ∨ x3 ≠ y1) ∧ (x2 ≠ y2 ∨ x3 ≠ y3))) = false := by rw [decide_eq_false_iff_not]; omega
            clear e0 e1 e2 e3 f3
            go_wp2
            go_ret
            exact ⟨by first | rfl | (rw [hR]; rfl), HQ.out⟩
          · have m3 : (x3 != y3) = true := by simpa using f3
            have hR : decide (((x0 ≠ y0 ∨ x1 ≠ y1) ∧ (x0 ≠ y2 ∨ x1 ≠ y3)) ∧ ((x2 ≠ y0 ∨ x3 ≠ y1) ∧ (x2 ≠ y2 ∨ x3 ≠ y3))) = true := by rw [decide_eq_true_eq]; omega
            clear e0 e1 e2 e3 f3
            go_wp2
            go_ret
            exact ⟨by first | rfl | (rw [hR]; rfl), HQ.out⟩
        · have n3 : (x2 != y2) = true := by simpa using e3
          have hR : decide (((x0 ≠ y0 ∨ x1 ≠ y1) ∧ (x0 ≠ y2 ∨ x1 ≠ y3)) ∧ ((x2 ≠ y0 ∨ x3 ≠ y1) ∧ (x2 ≠ y2 ∨ x3 ≠ y3))) = true := by rw [decide_eq_true_eq]; omega
          clear e0 e1 e2 e3
          go_wp2
          go_ret
          exact ⟨by first | rfl | (rw [hR]; rfl), HQ.out⟩
end Go.Proofs.YtcnadobnihbldaaGreat
