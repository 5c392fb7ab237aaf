/- Texts that stand on each other, in one file: CopyS, BeginS. -/
import Derived.Test.YtcnadobnihbldaaGreatPack23
import Derived.Test.YtcnadobnihbldaaGreatPack30
import Derived.Test.YtcnadobnihbldaaGreatPack17
import Derived.Test.YtcnadobnihbldaaGreatPack3
import Derived.Test.YtcnadobnihbldaaGreatPack22
/- A router copied by the model; its codes. (Written by gen_insts.py.) -/
namespace Go.Proofs.YtcnadobnihbldaaGreat
open Go.RowKit Go.Sort

theorem stab_ownI2 (B n1 : Nat) (is : List If) : ∀ (v : Value) (w1 w2 : World), (∃ q c, v = .slice q n1 c ∧ w1.ownsRow B 53 5 (.slice q n1 c) n1 (rowI is)) → Below w1.heap.size w1 w2 → ∃ q c, v = .slice q n1 c ∧ w2.ownsRow B 53 5 (.slice q n1 c) n1 (rowI is) := by
  rintro v w1 w2 ⟨q, c, e, h⟩ hb
  exact ⟨q, c, e, ownsI_below h hb⟩
theorem stab_ribO (B n2 : Nat) (rs : List Rt) : ∀ (v : Value) (w1 w2 : World), (∃ q c, v = .agg #[.slice q n2 c] ∧ w1.ownsRow B 155 9 (.slice q n2 c) n2 (rowR rs)) → Below w1.heap.size w1 w2 → ∃ q c, v = .agg #[.slice q n2 c] ∧ w2.ownsRow B 155 9 (.slice q n2 c) n2 (rowR rs) := by
  rintro v w1 w2 ⟨q, c, e, h⟩ hb
  exact ⟨q, c, e, ownsR_below h hb⟩
theorem stab_instO (B n1 n2 : Nat) (now : Int) (is : List If) (rs : List Rt) : ∀ (v : Value) (w1 w2 : World), (∃ q c q' c', v = .agg #[.slice q n1 c, .slice q' n2 c', .int .i64 now] ∧ w1.ownsRow B 53 5 (.slice q n1 c) n1 (rowI is) ∧ w1.ownsRow B 155 9 (.slice q' n2 c') n2 (rowR rs)) → Below w1.heap.size w1 w2 → ∃ q c q' c', v = .agg #[.slice q n1 c, .slice q' n2 c', .int .i64 now] ∧ w2.ownsRow B 53 5 (.slice q n1 c) n1 (rowI is) ∧ w2.ownsRow B 155 9 (.slice q' n2 c') n2 (rowR rs) := by
  rintro v w1 w2 ⟨q, c, q', c', e, h, h'⟩ hb
  exact ⟨q, c, q', c', e, ownsI_below h hb, ownsR_below h' hb⟩
theorem stab_ownI0 (B : Nat) : ∀ (v : Value) (w1 w2 : World), (∃ g, v = .slice (some ⟨g, 0, none⟩) 0 0 ∧ w1.ownsRow B 53 5 (.slice (some ⟨g, 0, none⟩) 0 0) 0 (rowI [])) → Below w1.heap.size w1 w2 → ∃ g, v = .slice (some ⟨g, 0, none⟩) 0 0 ∧ w2.ownsRow B 53 5 (.slice (some ⟨g, 0, none⟩) 0 0) 0 (rowI []) := by
  rintro v w1 w2 ⟨g, e, h⟩ hb
  exact ⟨g, e, ownsI_below h hb⟩
set_option maxRecDepth 100000 in
set_option maxHeartbeats 2000000 in
theorem l07Copy_any (x : Option Addr) (n1 c1 : Nat) (y : Option Addr) (n2 c2 : Nat) (is : List If) (rs : List Rt) (now : Int) (w : World) (hn1 : n1 = is.length) (hn2 : n2 = rs.length) (h1 : IfsIn w x is) (hc1 : x = none → c1 = 0) (h2 : RtsIn w y rs) (hc2 : y = none → c2 = 0) (hl2 : n2 ≤ c2) (h8 : n1 ≤ 100000000) (h9 : n2 ≤ 100000000) :
    Calls Tryz.prog 69 #[.agg #[.slice x n1 c1, .slice y n2 c2, .int .i64 now]] w fun e w' => ∃ q1 k1 q2 k2, e = .returned (.agg #[.slice q1 n1 k1, .slice q2 n2 k2, .int .i64 now]) ∧ w'.ownsRow w.heap.size 53 5 (.slice q1 n1 k1) n1 (rowI is) ∧ w'.ownsRow w.heap.size 155 9 (.slice q2 n2 k2) n2 (rowR rs) ∧ Below w.heap.size w w' := by
  have HC : Hid (∀ w, RtsIn w y rs → Calls Tryz.prog 110 #[.agg #[.slice y n2 c2]] w fun e w' => ∃ q c, e = .returned (.agg #[.slice q n2 c]) ∧ w'.ownsRow w.heap.size 155 9 (.slice q n2 c) n2 (rowR rs) ∧ Below w.heap.size w w') := fun w h => by subst hn2; exact l06Copy_any y c2 rs w h hc2 hl2 h9
  have HX : Hid (IfsIn w x is ∧ RtsIn w y rs) := ⟨h1, h2⟩
  have HN : Hid (n1 = is.length ∧ n2 = rs.length) := ⟨hn1, hn2⟩
  clear h1 h2 hc2 hl2 h9 hn1 hn2
  obtain ⟨W, hW, r0, rz, hB, hS⟩ := rows2 w [.slice x n1 c1, .slice y n2 c2, .int .i64 now] [.slice none 0 0, .slice none 0 0, .int .i64 0] 61 61
  go_enter Tryz.func69, Tryz.ntmps69
  go_wp2_with fail
  rw [← hW]
  clear hW
  have hGN : (([(3, fun v W => ∃ g, v = .slice (some ⟨g, 0, none⟩) 0 0 ∧ W.ownsRow w.heap.size 53 5 (.slice (some ⟨g, 0, none⟩) 0 0) 0 (rowI [])), (4, Is (.pointer (some ⟨w.heap.size, 0, none⟩))), (5, Is (.slice x n1 c1)), (6, fun v W => ∃ q c, v = .slice q n1 c ∧ W.ownsRow w.heap.size 53 5 (.slice q n1 c) n1 (rowI is)), (7, Is (.pointer (some ⟨w.heap.size, 1, none⟩))), (8, Is (.agg #[.slice y n2 c2])), (9, fun v W => ∃ q c, v = .agg #[.slice q n2 c] ∧ W.ownsRow w.heap.size 155 9 (.slice q n2 c) n2 (rowR rs)), (10, Is (.pointer (some ⟨w.heap.size, 2, none⟩))), (11, Is (.int .i64 now)), (12, fun v W => ∃ q c q' c', v = .agg #[.slice q n1 c, .slice q' n2 c', .int .i64 now] ∧ W.ownsRow w.heap.size 53 5 (.slice q n1 c) n1 (rowI is) ∧ W.ownsRow w.heap.size 155 9 (.slice q' n2 c') n2 (rowR rs))] : List (Nat × (Value → World → Prop))).map (·.1)).Nodup := by simp
  refine wp_region_steady 10 (SlotG [(3, fun v W => ∃ g, v = .slice (some ⟨g, 0, none⟩) 0 0 ∧ W.ownsRow w.heap.size 53 5 (.slice (some ⟨g, 0, none⟩) 0 0) 0 (rowI [])), (4, Is (.pointer (some ⟨w.heap.size, 0, none⟩))), (5, Is (.slice x n1 c1)), (6, fun v W => ∃ q c, v = .slice q n1 c ∧ W.ownsRow w.heap.size 53 5 (.slice q n1 c) n1 (rowI is)), (7, Is (.pointer (some ⟨w.heap.size, 1, none⟩))), (8, Is (.agg #[.slice y n2 c2])), (9, fun v W => ∃ q c, v = .agg #[.slice q n2 c] ∧ W.ownsRow w.heap.size 155 9 (.slice q n2 c) n2 (rowR rs)), (10, Is (.pointer (some ⟨w.heap.size, 2, none⟩))), (11, Is (.int .i64 now)), (12, fun v W => ∃ q c q' c', v = .agg #[.slice q n1 c, .slice q' n2 c', .int .i64 now] ∧ W.ownsRow w.heap.size 53 5 (.slice q n1 c) n1 (rowI is) ∧ W.ownsRow w.heap.size 155 9 (.slice q' n2 c') n2 (rowR rs))]) (by kernel_rfl) (by kernel_rfl) (Stabs.all ⟨stab_ownI0 w.heap.size, stab_is _, stab_is _, stab_ownI2 w.heap.size n1 is, stab_is _, stab_is _, stab_ribO w.heap.size n2 rs, stab_is _, stab_is _, stab_instO w.heap.size n1 n2 now is rs, trivial⟩) ?_ ?_
  · intro o ho
    simp only [List.take_succ_cons, List.take_zero, List.mem_cons, List.not_mem_nil, or_false] at ho
    rcases ho with rfl | rfl | rfl | rfl | rfl | rfl | rfl | rfl | rfl | rfl
    · intro a' w' hb ha hdep
      have hmk := fun (x : Value) (W : World) => SlotG.mk (x := x) (w := W) 0 rfl hGN
      clear hGN ha hdep
      go_simp
      exact ⟨_, rfl, ent_new0 _ _, hmk _ _ ⟨_, rfl, ownsI_mono (by have ho := World.ownsRow_lit (base := w'.heap.size) (e := 53) (size := 5) w' #[] 0 (Nat.le_refl _) (Nat.zero_le _) (by simp); simpa [rowI] using ho) (by have := hb.size; have := hB.size; omega)⟩⟩
    · intro a' w' hb ha hdep
      have d1 : a'.tmps.getD 1 undef = .pointer (some ⟨w.heap.size, 0, none⟩) := ha.at 1 (by kernel_rfl)
      have hmk := fun (x : Value) (W : World) => SlotG.mk (x := x) (w := W) 1 rfl hGN
      clear hGN ha hdep
      go_simp
      exact ⟨_, rfl, Below.refl _ _, hmk _ _ rfl⟩
    · intro a' w' hb ha hdep
      have d4 : a'.tmps.getD 4 undef = .pointer (some ⟨w.heap.size, 0, none⟩) := (hdep 4 (of_decide_eq_true (by kernel_rfl))).is 1 rfl
      have hmk := fun (x : Value) (W : World) => SlotG.mk (x := x) (w := W) 2 rfl hGN
      clear hGN ha hdep
      have y0 : w'.cell? ⟨w.heap.size, 0, none⟩ = some (.slice x n1 c1) := (r0.below hb r0.lt).cell 0
      go_simp
      exact ⟨_, rfl, Below.refl _ _, hmk _ _ rfl⟩
    · intro a' w' hb ha hdep
      have D3 := (hdep 3 (of_decide_eq_true (by kernel_rfl))).get 0 rfl
      have d5 : a'.tmps.getD 5 undef = .slice x n1 c1 := (hdep 5 (of_decide_eq_true (by kernel_rfl))).is 2 rfl
      have hmk := fun (x : Value) (W : World) => SlotG.mk (x := x) (w := W) 3 rfl hGN
      clear hGN ha hdep
      obtain ⟨g3, d3, o3⟩ := D3
      obtain ⟨q6, c6, w6, happ, hown6, hb6⟩ := run_append_ifs0 w' w.heap.size g3 x c1 is 54 o3 (HX.out.1.below (hB.trans (hb.mono hB.size))) hc1 (by have := HN.out.1; omega) (by have := hb.size; have := hB.size; omega)
      rw [← HN.out.1] at happ hown6
      exact step_append_in (.tmp 3) (.tmp 5) _ rfl _ (by rw [show a'.eval (.tmp 3) = _ from d3, show a'.eval (.tmp 5) = _ from d5]; exact happ) ⟨_, rfl, hb6, fun d hd => by cases hd; exact hmk _ _ ⟨q6, c6, rfl, hown6⟩⟩
    · intro a' w' hb ha hdep
      have d1 : a'.tmps.getD 1 undef = .pointer (some ⟨w.heap.size, 0, none⟩) := ha.at 1 (by kernel_rfl)
      have hmk := fun (x : Value) (W : World) => SlotG.mk (x := x) (w := W) 4 rfl hGN
      clear hGN ha hdep
      go_simp
      exact ⟨_, rfl, Below.refl _ _, hmk _ _ rfl⟩
    · intro a' w' hb ha hdep
      have d7 : a'.tmps.getD 7 undef = .pointer (some ⟨w.heap.size, 1, none⟩) := (hdep 7 (of_decide_eq_true (by kernel_rfl))).is 4 rfl
      have hmk := fun (x : Value) (W : World) => SlotG.mk (x := x) (w := W) 5 rfl hGN
      clear hGN ha hdep
      have y1 : w'.cell? ⟨w.heap.size, 1, none⟩ = some (.slice y n2 c2) := (r0.below hb r0.lt).cell 1
      go_simp
      exact ⟨_, rfl, Below.refl _ _, hmk _ _ rfl⟩
    · intro a' w' hb ha hdep
      have d8 : a'.tmps.getD 8 undef = .agg #[.slice y n2 c2] := (hdep 8 (of_decide_eq_true (by kernel_rfl))).is 5 rfl
      have hmk := fun (x : Value) (W : World) => SlotG.mk (x := x) (w := W) 6 rfl hGN
      clear hGN ha hdep
      go_simp
      refine (HC.out _ (HX.out.2.below (hB.trans (hb.mono hB.size)))).mono ?_
      rintro e w2 ⟨q, c, rfl, ho, hb2⟩
      exact ⟨_, rfl, hb2, hmk _ _ ⟨q, c, rfl, ownsR_mono ho (by have := hb.size; have := hB.size; omega)⟩⟩
    · intro a' w' hb ha hdep
      have d1 : a'.tmps.getD 1 undef = .pointer (some ⟨w.heap.size, 0, none⟩) := ha.at 1 (by kernel_rfl)
      have hmk := fun (x : Value) (W : World) => SlotG.mk (x := x) (w := W) 7 rfl hGN
      clear hGN ha hdep
      go_simp
      exact ⟨_, rfl, Below.refl _ _, hmk _ _ rfl⟩
    · intro a' w' hb ha hdep
      have d10 : a'.tmps.getD 10 undef = .pointer (some ⟨w.heap.size, 2, none⟩) := (hdep 10 (of_decide_eq_true (by kernel_rfl))).is 7 rfl
      have hmk := fun (x : Value) (W : World) => SlotG.mk (x := x) (w := W) 8 rfl hGN
      clear hGN ha hdep
      have y2 : w'.cell? ⟨w.heap.size, 2, none⟩ = some (.int .i64 now) := (r0.below hb r0.lt).cell 2
      go_simp
      exact ⟨_, rfl, Below.refl _ _, hmk _ _ rfl⟩
    · intro a' w' hb ha hdep
      have D6 := (hdep 6 (of_decide_eq_true (by kernel_rfl))).get 3 rfl
      have D9 := (hdep 9 (of_decide_eq_true (by kernel_rfl))).get 6 rfl
      have d11 : a'.tmps.getD 11 undef = .int .i64 now := (hdep 11 (of_decide_eq_true (by kernel_rfl))).is 8 rfl
      have hmk := fun (x : Value) (W : World) => SlotG.mk (x := x) (w := W) 9 rfl hGN
      clear hGN ha hdep
      obtain ⟨q6, c6, d6, o6⟩ := D6
      obtain ⟨q9, c9, d9, o9⟩ := D9
      have D6 : a'.tmps[6]?.getD undef = .slice q6 n1 c6 := by simpa using d6
      have D9 : a'.tmps[9]?.getD undef = .agg #[.slice q9 n2 c9] := by simpa using d9
      have D11 : a'.tmps[11]?.getD undef = .int .i64 now := by simpa using d11
      go_simp
      exact ⟨_, rfl, Below.refl _ _, hmk _ _ ⟨q6, c6, q9, c9, rfl, o6, o9⟩⟩
  · intro a' w' hb ha hG
    clear hGN
    have D12 := (hG _ (List.mem_of_getElem? (i := 9) rfl) 12 rfl).get 9 rfl
    have d2 : a'.tmps.getD 2 undef = .pointer (some ⟨w.heap.size + 1, 0, none⟩) := ha.at 2 (by kernel_rfl)
    have e2 : a' = ⟨#[a'.tmps.getD 0 undef, a'.tmps.getD 1 undef, a'.tmps.getD 2 undef, a'.tmps.getD 3 undef, a'.tmps.getD 4 undef, a'.tmps.getD 5 undef, a'.tmps.getD 6 undef, a'.tmps.getD 7 undef, a'.tmps.getD 8 undef, a'.tmps.getD 9 undef, a'.tmps.getD 10 undef, a'.tmps.getD 11 undef, a'.tmps.getD 12 undef], []⟩ := by rw [← (show a'.defers = [] from ha.2.1)]; exact act_eq a' 13 ha.1
    rw [d2] at e2
    clear hG ha d2
    generalize a'.tmps.getD 0 undef = x0 at *
    generalize a'.tmps.getD 1 undef = x1 at *
    generalize a'.tmps.getD 3 undef = x3 at *
    generalize a'.tmps.getD 4 undef = x4 at *
    generalize a'.tmps.getD 5 undef = x5 at *
    generalize a'.tmps.getD 6 undef = x6 at *
    generalize a'.tmps.getD 7 undef = x7 at *
    generalize a'.tmps.getD 8 undef = x8 at *
    generalize a'.tmps.getD 9 undef = x9 at *
    generalize a'.tmps.getD 10 undef = x10 at *
    generalize a'.tmps.getD 11 undef = x11 at *
    generalize a'.tmps.getD 12 undef = x12 at *
    subst e2
    simp only [List.drop_succ_cons, List.drop_zero]
    obtain ⟨q1, k1, q2, k2, rfl, o1, o2⟩ := D12
    have rz := rz.below hb rz.lt
    have hB := hB.trans (hb.mono hB.size)
    clear hb r0 HC HX
    have f0 : w'.frozen? ⟨w.heap.size + 1, 0, none⟩ = false := rz.frozen 0
    have f1 : w'.frozen? ⟨w.heap.size + 1, 1, none⟩ = false := rz.frozen 1
    have f2 : w'.frozen? ⟨w.heap.size + 1, 2, none⟩ = false := rz.frozen 2
    have z0 : w'.cell? ⟨w.heap.size + 1, 0, none⟩ = some (.slice none 0 0) := rz.cell 0
    have z1 : w'.cell? ⟨w.heap.size + 1, 1, none⟩ = some (.slice none 0 0) := rz.cell 1
    have z2 : w'.cell? ⟨w.heap.size + 1, 2, none⟩ = some (.int .i64 0) := rz.cell 2
    have hk : ∀ b t l, b ≠ w.heap.size + 1 → Row w' b t l → Row (((w'.setCell ⟨w.heap.size + 1, 0, none⟩ (.slice q1 n1 k1)).setCell ⟨w.heap.size + 1, 1, none⟩ (.slice q2 n2 k2)).setCell ⟨w.heap.size + 1, 2, none⟩ (.int .i64 now)) b t l := fun b t l hne h => ((h.other 0 _ hne).other 1 _ hne).other 2 _ hne
    have HE : Hid _ := And.intro (((rz.set 0 (.slice q1 n1 k1)).set 1 (.slice q2 n2 k2)).set 2 (.int .i64 now)) (And.intro (((hB.setCell (p := ⟨w.heap.size + 1, 0, none⟩) (by show w.heap.size ≤ w.heap.size + 1; omega) (.slice q1 n1 k1)).setCell (p := ⟨w.heap.size + 1, 1, none⟩) (by show w.heap.size ≤ w.heap.size + 1; omega) (.slice q2 n2 k2)).setCell (p := ⟨w.heap.size + 1, 2, none⟩) (by show w.heap.size ≤ w.heap.size + 1; omega) (.int .i64 now)) (And.intro (ownsI_kept o1 (fun b t l e h => hk b t l (fun e2 => ownsI_ne o1 rz (by decide) (by rw [e, e2])) h)) (ownsR_kept HN.out.2 o2 (fun b t l e h => hk b t l (fun e2 => ownsR_ne o2 rz (by decide) (by rw [e, e2])) h))))
    clear rz hB o1 o2 hk
    go_wp2_with fail
    generalize ((w'.setCell ⟨w.heap.size + 1, 0, none⟩ (.slice q1 n1 k1)).setCell ⟨w.heap.size + 1, 1, none⟩ (.slice q2 n2 k2)).setCell ⟨w.heap.size + 1, 2, none⟩ (.int .i64 now) = Z at *
    obtain ⟨m1, m2, m3, m4⟩ := HE.out
    clear HE f0 f1 f2 z0 z1 z2
    have e0 : Z.cell? ⟨w.heap.size + 1, 0, none⟩ = some (.slice q1 n1 k1) := m1.cell 0
    have e1 : Z.cell? ⟨w.heap.size + 1, 1, none⟩ = some (.slice q2 n2 k2) := m1.cell 1
    have e2 : Z.cell? ⟨w.heap.size + 1, 2, none⟩ = some (.int .i64 now) := m1.cell 2
    exact bodyPost_ret (v := .agg #[.slice q1 n1 k1, .slice q2 n2 k2, .int .i64 now]) (by simp [results, Tryz.results69, go_sem, e0, e1, e2]) rfl ⟨q1, k1, q2, k2, rfl, m3, m4, m2⟩
end Go.Proofs.YtcnadobnihbldaaGreat
/- What stands against an Iface that is to be up, or not: by the model. (Written by gen_insts.py.) -/
namespace Go.Proofs.YtcnadobnihbldaaGreat
open Go.RowKit Go.Sort

def beginC (is : List If) (rs : List Rt) (now i : Int) (up : Bool) : Int := if instB is rs now = true then (match ifAt is i with | none => 6 | some f => if f.u = up then 10 else 0) else 1
set_option maxRecDepth 100000 in
set_option maxHeartbeats 2000000 in
theorem l07Begin_any (x : Option Addr) (c1 : Nat) (y : Option Addr) (c2 : Nat) (is : List If) (rs : List Rt) (now : Int) (i : Int) (up : Bool) (w : World) (h1 : IfsIn w x is) (hc : is.length ≤ c1) (h2 : RtsIn w y rs) (hn1 : is.length ≤ 100000000) (hn2 : rs.length ≤ 100000000) :
    Calls Tryz.prog 129 #[instV x is.length c1 y rs.length c2 now, .int .i64 i, .bool up] w fun e w' => e = .returned (.int .i64 (beginC is rs now i up)) ∧ Below w.heap.size w w' := by
  have HR : Hid (∀ w, IfsIn w x is → RtsIn w y rs → Calls Tryz.prog 66 #[instV x is.length c1 y rs.length c2 now] w fun e w' => e = .returned (.bool (instB is rs now)) ∧ Below w.heap.size w w') := fun w p q => specInst_any x c1 y c2 is rs now w p hc q hn1 hn2
  have HT : Hid (∀ w, Calls Tryz.prog 109 #[instV x is.length c1 y rs.length c2 now, .int .i64 i] w fun e w' => e = .returned (.bool (decide (0 ≤ i ∧ i ≤ (is.length : Int) - 1))) ∧ Below w.heap.size w w') := fun w => l07There_any x is.length c1 y rs.length c2 now i w hn1
  have HX : Hid (IfsIn w x is ∧ RtsIn w y rs) := ⟨h1, h2⟩
  have HD : Hid (beginC is rs now i up = if instB is rs now = true then (match ifAt is i with | none => 6 | some f => if f.u = up then 10 else 0) else 1) := rfl
  clear h1 h2 hc hn2
  generalize beginC is rs now i up = RES at *
  generalize instB is rs now = IB at *
  unfold instV at *
  have HQ : Hid _ := And.intro (Row.new w 61 [.slice x is.length c1, .slice y rs.length c2, .int .i64 now]) (ent_new0 w (.cells #[.slice x is.length c1, .slice y rs.length c2, .int .i64 now] 61))
  go_enter Tryz.func129, Tryz.ntmps129
  go_wp2_with fail
  obtain ⟨q0, hB⟩ := HQ.out
  refine (HR.out _ (HX.out.1.below hB) (HX.out.2.below hB)).mono ?_
  rintro e w1 ⟨rfl, hb1⟩
  have q0 := q0.below hb1 q0.lt
  have hB := hB.trans (hb1.mono hB.size)
  clear hb1 HR HQ
  have hR := HD.out
  clear HD
  cases IB
  · simp only [Bool.false_eq_true, if_false] at hR
    go_wp2
    go_ret
    exact ⟨by rw [hR]; rfl, hB⟩
  · simp only [if_true] at hR
    have y0 : w1.cell? ⟨w.heap.size, 0, none⟩ = some (.slice x is.length c1) := q0.cell 0
    have y1 : w1.cell? ⟨w.heap.size, 1, none⟩ = some (.slice y rs.length c2) := q0.cell 1
    have y2 : w1.cell? ⟨w.heap.size, 2, none⟩ = some (.int .i64 now) := q0.cell 2
    go_wp2_with fail
    refine (HT.out _).mono ?_
    rintro e w2 ⟨rfl, hb2⟩
    have q0 := q0.below hb2 q0.lt
    have hBf : Below w.heap.size w w2 := hB.trans (hb2.mono hB.size)
    clear hb2 HT y0 y1 y2 hB
    have y0 : w2.cell? ⟨w.heap.size, 0, none⟩ = some (.slice x is.length c1) := q0.cell 0
    cases hia : ifAt is i with
    | none =>
      rw [hia] at hR
      simp only at hR
      have hd : decide (0 ≤ i ∧ i ≤ (is.length : Int) - 1) = false := by
        have := ifAt_out hia
        simp only [decide_eq_false_iff_not]
        omega
      rw [hd]
      clear hd hia y0 q0
      go_wp2
      go_ret
      exact ⟨by rw [hR]; rfl, hBf⟩
    | some f =>
      rw [hia] at hR
      simp only at hR
      obtain ⟨k, rfl, hk, e⟩ := ifAt_some hia
      have hd : decide (0 ≤ (k : Int) ∧ (k : Int) ≤ (is.length : Int) - 1) = true := by simp only [decide_eq_true_eq]; omega
      obtain ⟨b, d, a, l, c, u, rfl, hbl, hek, e0, e1, e2, e3, e4⟩ := (HX.out.1.below hBf).at k hk
      rw [e] at hek
      subst hek
      have zk : (k : Int) < (is.length : Int) := by omega
      simp only at hR
      clear hia e q0 e0 e1 e2 e3 HX
      rw [hd]
      clear hd
      by_cases hu : u = up
      · subst hu
        rw [if_pos rfl] at hR
        have zu : (u == u) = true := by simp
        go_wp2
        go_ret
        exact ⟨by rw [hR]; rfl, hBf⟩
      · rw [if_neg hu] at hR
        have zu : (u == up) = false := by simpa using hu
        clear hu
        go_wp2
        go_ret
        exact ⟨by rw [hR]; rfl, hBf⟩
end Go.Proofs.YtcnadobnihbldaaGreat
