/- Texts that stand on each other, in one file: DskS. -/
import Derived.Test.YtialedffpaoacaaGreatDoorPack39
import Derived.Test.YtialedffpaoacaaGreatDoorPack37
import Derived.Test.YtialedffpaoacaaGreatDoorPack25
import Derived.Deep.CutRange
/- The desk's own Box, by the model. (Written by gen_dsk.py.) -/
namespace Go.Proofs.YtialedffpaoacaaGreatDoor
open Go.RowKit Go.Sort

def DkA (B : Nat) (is : List If) (rs : List Rt) (nw cc : Int) (_key : ByteArray) (v : Value) (W : World) : Prop := ∃ x c1 y c2, v = .agg #[.slice x is.length c1, .slice y rs.length c2, .int .i64 nw, .int .i64 cc] ∧ W.ownsRow B 72 5 (.slice x is.length c1) is.length (rowI is) ∧ W.ownsRow B 144 9 (.slice y rs.length c2) rs.length (rowR rs)
theorem stab_dkA (B : Nat) (is : List If) (rs : List Rt) (nw cc : Int) (key : ByteArray) : ∀ (v : Value) (w1 w2 : World), DkA B is rs nw cc key v w1 → Below w1.heap.size w1 w2 → DkA B is rs nw cc key v w2 := by
  rintro v w1 w2 ⟨x, c1, y, c2, e, h1, h2⟩ hb
  exact ⟨x, c1, y, c2, e, owns_below h1 hb, owns_below h2 hb⟩
def DkI (B : Nat) (is : List If) (rs : List Rt) (nw _cc : Int) (_key : ByteArray) (v : Value) (W : World) : Prop := ∃ x c1 y c2, v = .agg #[.slice x is.length c1, .slice y rs.length c2, .int .i64 nw] ∧ W.ownsRow B 72 5 (.slice x is.length c1) is.length (rowI is) ∧ W.ownsRow B 144 9 (.slice y rs.length c2) rs.length (rowR rs)
theorem stab_dkI (B : Nat) (is : List If) (rs : List Rt) (nw cc : Int) (key : ByteArray) : ∀ (v : Value) (w1 w2 : World), DkI B is rs nw cc key v w1 → Below w1.heap.size w1 w2 → DkI B is rs nw cc key v w2 := by
  rintro v w1 w2 ⟨x, c1, y, c2, e, h1, h2⟩ hb
  exact ⟨x, c1, y, c2, e, owns_below h1 hb, owns_below h2 hb⟩
def DkT (B : Nat) (is : List If) (rs : List Rt) (nw _cc : Int) (key : ByteArray) (v : Value) (W : World) : Prop := ∃ x c1 y c2, v = .agg #[.slice x is.length c1, .slice y rs.length c2, .int .i64 nw, .string key, .int .i64 4, .slice none 0 0, .slice none 0 0, .int .i64 0] ∧ W.ownsRow B 72 5 (.slice x is.length c1) is.length (rowI is) ∧ W.ownsRow B 144 9 (.slice y rs.length c2) rs.length (rowR rs)
theorem stab_dkT (B : Nat) (is : List If) (rs : List Rt) (nw cc : Int) (key : ByteArray) : ∀ (v : Value) (w1 w2 : World), DkT B is rs nw cc key v w1 → Below w1.heap.size w1 w2 → DkT B is rs nw cc key v w2 := by
  rintro v w1 w2 ⟨x, c1, y, c2, e, h1, h2⟩ hb
  exact ⟨x, c1, y, c2, e, owns_below h1 hb, owns_below h2 hb⟩
def DkS (B : Nat) (is : List If) (rs : List Rt) (nw _cc : Int) (key : ByteArray) (v : Value) (W : World) : Prop := ∃ g x c1 y c2, v = .slice (some ⟨g, 0, none⟩) 1 1 ∧ Row W g 55 [.slice x is.length c1, .slice y rs.length c2, .int .i64 nw, .string key, .int .i64 4, .slice none 0 0, .slice none 0 0, .int .i64 0] ∧ W.ownsRow B 72 5 (.slice x is.length c1) is.length (rowI is) ∧ W.ownsRow B 144 9 (.slice y rs.length c2) rs.length (rowR rs)
theorem stab_dkS (B : Nat) (is : List If) (rs : List Rt) (nw cc : Int) (key : ByteArray) : ∀ (v : Value) (w1 w2 : World), DkS B is rs nw cc key v w1 → Below w1.heap.size w1 w2 → DkS B is rs nw cc key v w2 := by
  rintro v w1 w2 ⟨g, x, c1, y, c2, e, hr, h1, h2⟩ hb
  exact ⟨g, x, c1, y, c2, e, hr.below hb hr.lt, owns_below h1 hb, owns_below h2 hb⟩
def DSt (w : World) (n : Nat) (W : World) : Prop := ∃ pT cT pB cB, ∃ qs : List TnP, Row W (w.heap.size + 1) 33 [.slice pT n cT, .slice pB (2 * n) cB, .slice none 0 0, .int .i64 0] ∧ OwnTs W w.heap.size pT n cT qs ∧ qs.map (·.2) = dTS.take n ∧ W.ownsRow w.heap.size 77 4 (.slice pB (2 * n) cB) (2 * n) (rowBd (dBS.take (2 * n))) ∧ Row W w.heap.size 33 [.slice none 0 0, .slice none 0 0, .slice none 0 0, .int .i64 0] ∧ Row W (w.heap.size + 1 + 1) 9 [.string ⟨#[114, 101, 100]⟩, .string ⟨#[98, 108, 117, 101]⟩] ∧ Below w.heap.size w W
theorem apT_more {qs : List TnP} (h : ApT qs) {e : TnP} {B : Nat} (hx : ∀ j (hj : j < qs.length) b, qs[j].1.has b → b < B) (ha : ∀ b, e.1.has b → B ≤ b) : ApT (qs ++ [e]) := by
  intro i j hi hj hne g
  simp only [List.length_append, List.length_cons, List.length_nil] at hi hj
  by_cases hi' : i < qs.length
  · by_cases hj' : j < qs.length
    · rw [List.getElem_append_left hi', List.getElem_append_left hj']
      exact h i j hi' hj' hne g
    · have : j = qs.length := by omega
      subst this
      rw [List.getElem_append_left hi', List.getElem_append_right (Nat.le_refl _)]
      simp only [Nat.sub_self, List.getElem_cons_zero]
      intro e1 e2
      have := hx i hi' g e1; have := ha g e2; omega
  · have : i = qs.length := by omega
    subst this
    have hj' : j < qs.length := by omega
    rw [List.getElem_append_left hj', List.getElem_append_right (Nat.le_refl _)]
    simp only [Nat.sub_self, List.getElem_cons_zero]
    intro e1 e2
    have := hx j hj' g e2; have := ha g e1; omega
theorem ownT_more {W : World} {B : Nat} {qs : List TnP} (h : ∀ j (hj : j < qs.length), OwnT W B qs[j].1 qs[j].2) {e : TnP} (he : OwnT W B e.1 e.2) : ∀ j (hj : j < (qs ++ [e]).length), OwnT W B (qs ++ [e])[j].1 (qs ++ [e])[j].2 := fun j hj => by
  by_cases hj' : j < qs.length
  · rw [List.getElem_append_left hj']; exact h j hj'
  · have : j = qs.length := by simp only [List.length_append, List.length_cons, List.length_nil] at hj; omega
    subst this
    rw [List.getElem_append_right (Nat.le_refl _)]
    simp only [Nat.sub_self, List.getElem_cons_zero]
    exact he
set_option maxRecDepth 100000 in
set_option maxHeartbeats 4000000 in
theorem specDesk_any (w : World) :
    Calls Tryz.prog 10 #[] w fun e w' => (∃ p c pb cb pl cl, e = .returned (.agg #[.slice p dTS.length c, .slice pb dBS.length cb, .slice pl ([] : List Lk).length cl, .int .i64 0]) ∧ AnsX dTS dBS [] w.heap.size w'.heap.size w' p c pb cb pl cl) ∧ Below w.heap.size w w' := by
  obtain ⟨⟨cc, is, rs, nw⟩, hE⟩ : ∃ r, newO dIs = r := ⟨_, rfl⟩
  have HN : Hid (∀ g W, Row W g 72 (rowI dIs) → Calls Tryz.prog 31 #[.slice (some ⟨g, 0, none⟩) 2 2] W fun e w' => (∃ x c1 y c2, e = .returned (.agg #[.slice x is.length c1, .slice y rs.length c2, .int .i64 nw, .int .i64 cc]) ∧ w'.ownsRow W.heap.size 72 5 (.slice x is.length c1) is.length (rowI is) ∧ w'.ownsRow W.heap.size 144 9 (.slice y rs.length c2) rs.length (rowR rs)) ∧ Below W.heap.size W w') := fun g W h => by
    have := specNew_any (some ⟨g, 0, none⟩) 2 dIs W (ifsIn_row h) (fun e => by cases e) (by decide)
    unfold OutI at this
    rw [hE] at this
    exact this
  have HE0 : Hid (newO dIs = (cc, is, rs, nw)) := hE
  clear hE
  obtain ⟨W, hW, q0, q1, q2, hB, hS⟩ := three_new w [.slice none 0 0, .slice none 0 0, .slice none 0 0, .int .i64 0] [.slice none 0 0, .slice none 0 0, .slice none 0 0, .int .i64 0] [.string ⟨#[114, 101, 100]⟩, .string ⟨#[98, 108, 117, 101]⟩] 33 33 9
  have HW : Hid _ := hW
  have HS0 : Hid (DSt w 0 W) := ⟨none, 0, none, 0, [], q1, ⟨World.ownsRow_nil _ _ _ 8, fun j hj => absurd hj (by simp), fun i j hi => absurd hi (by simp)⟩, rfl, World.ownsRow_nil _ _ _ 4, q0, q2, hB⟩
  clear hW q0 q1 q2 hB hS
  go_enter Tryz.func10, Tryz.ntmps10
  go_wp2_with fail
  rw [← HW.out]
  go_loopw [3, 4] (fun i _ wr => ∃ n : Nat, n ≤ 2 ∧ i = .int .i64 (n : Int) ∧ DSt w n wr) (fun i _ _ => 2 - (intOf i).toNat)
  case atStart => exact ⟨0, by omega, by go_num, HS0.out⟩
  case round =>
    clear HS0 HW
    obtain ⟨n, hn2, rfl, hst⟩ := hrel
    obtain rfl | rfl | rfl : n = 0 ∨ n = 1 ∨ n = 2 := by omega
    case inl =>
      rw [show ((0 : Nat) : Int) = 0 from rfl]
      obtain ⟨pT, cT, pB, cB, qs, rx, ot, hm, ob, rz, rk, hB⟩ := hst
      replace ob : wr.ownsRow w.heap.size 77 4 (.slice pB 0 cB) 0 (rowBd (dBS.take 0)) := ob
      replace rx : Row wr (w.heap.size + 1) 33 [.slice pT 0 cT, .slice pB 0 cB, .slice none 0 0, .int .i64 0] := rx
      have hF : Row (wr.alloc (.cells #[.int .i64 167772161, .int .i64 167772160, .int .i64 24, .int .i64 1, .bool false, .int .i64 167772417, .int .i64 167772416, .int .i64 24, .int .i64 1, .bool false] 72)) wr.heap.size 72 (rowI dIs) := Row.new wr 72 [.int .i64 167772161, .int .i64 167772160, .int .i64 24, .int .i64 1, .bool false, .int .i64 167772417, .int .i64 167772416, .int .i64 24, .int .i64 1, .bool false]
      have HP : Hid _ := And.intro (rx.alloc (.cells #[.int .i64 167772161, .int .i64 167772160, .int .i64 24, .int .i64 1, .bool false, .int .i64 167772417, .int .i64 167772416, .int .i64 24, .int .i64 1, .bool false] 72)) (And.intro (rz.alloc (.cells #[.int .i64 167772161, .int .i64 167772160, .int .i64 24, .int .i64 1, .bool false, .int .i64 167772417, .int .i64 167772416, .int .i64 24, .int .i64 1, .bool false] 72)) (And.intro (rk.alloc (.cells #[.int .i64 167772161, .int .i64 167772160, .int .i64 24, .int .i64 1, .bool false, .int .i64 167772417, .int .i64 167772416, .int .i64 24, .int .i64 1, .bool false] 72)) (And.intro hF (And.intro (ot.below (ent_new0 wr (.cells #[.int .i64 167772161, .int .i64 167772160, .int .i64 24, .int .i64 1, .bool false, .int .i64 167772417, .int .i64 167772416, .int .i64 24, .int .i64 1, .bool false] 72))) (And.intro (World.ownsRow.alloc ob (.cells #[.int .i64 167772161, .int .i64 167772160, .int .i64 24, .int .i64 1, .bool false, .int .i64 167772417, .int .i64 167772416, .int .i64 24, .int .i64 1, .bool false] 72)) (hB.alloc hB.size (.cells #[.int .i64 167772161, .int .i64 167772160, .int .i64 24, .int .i64 1, .bool false, .int .i64 167772417, .int .i64 167772416, .int .i64 24, .int .i64 1, .bool false] 72)))))))
      have HM : Hid _ := hm
      clear rx rz rk hF ot ob hB hm
      go_wp2_with fail
      generalize wr.heap.size = gF at *
      generalize wr.alloc (.cells #[.int .i64 167772161, .int .i64 167772160, .int .i64 24, .int .i64 1, .bool false, .int .i64 167772417, .int .i64 167772416, .int .i64 24, .int .i64 1, .bool false] 72) = W7 at *
      obtain ⟨rx, rz, rk, hF, ot, ob, hB⟩ := HP.out
      clear HP
      have hGN : (([(16, Is (.pointer (some ⟨(w.heap.size + 1), 0, none⟩))), (17, Is (.slice pT 0 cT)), (18, Is (.slice (some ⟨gF, 0, none⟩) 2 2)), (19, DkA W7.heap.size is rs nw cc kRed), (20, DkI W7.heap.size is rs nw cc kRed), (21, Is (.slice (some ⟨(w.heap.size + 1 + 1), 0, none⟩) 2 2)), (22, Is (.int .i64 0)), (23, Is (.pointer (some ⟨(w.heap.size + 1 + 1), 0, none⟩))), (24, Is (.string kRed)), (25, DkT W7.heap.size is rs nw cc kRed), (26, DkS W7.heap.size is rs nw cc kRed)] : List (Nat × (Value → World → Prop))).map (·.1)).Nodup := by simp
      refine wp_region_steady 11 (SlotG [(16, Is (.pointer (some ⟨(w.heap.size + 1), 0, none⟩))), (17, Is (.slice pT 0 cT)), (18, Is (.slice (some ⟨gF, 0, none⟩) 2 2)), (19, DkA W7.heap.size is rs nw cc kRed), (20, DkI W7.heap.size is rs nw cc kRed), (21, Is (.slice (some ⟨(w.heap.size + 1 + 1), 0, none⟩) 2 2)), (22, Is (.int .i64 0)), (23, Is (.pointer (some ⟨(w.heap.size + 1 + 1), 0, none⟩))), (24, Is (.string kRed)), (25, DkT W7.heap.size is rs nw cc kRed), (26, DkS W7.heap.size is rs nw cc kRed)]) (by kernel_rfl) (by kernel_rfl) (Stabs.all ⟨stab_is _, stab_is _, stab_is _, stab_dkA W7.heap.size is rs nw cc kRed, stab_dkI W7.heap.size is rs nw cc kRed, stab_is _, stab_is _, stab_is _, stab_is _, stab_dkT W7.heap.size is rs nw cc kRed, stab_dkS W7.heap.size is rs nw cc kRed, trivial⟩) ?_ ?_
      · intro o ho
        simp only [List.take_succ_cons, List.take_zero, List.mem_cons, List.not_mem_nil, or_false] at ho
        rcases ho with rfl | rfl | rfl | rfl | rfl | rfl | rfl | rfl | rfl | rfl | rfl
        · intro a' w' hb ha hdep
          have d1 : a'.tmps.getD 1 undef = .pointer (some ⟨(w.heap.size + 1), 0, none⟩) := ha.at 1 (by kernel_rfl)
          have hmk := fun (x : Value) (W : World) => SlotG.mk (x := x) (w := W) 0 rfl hGN
          clear hGN ha hdep
          go_simp
          exact ⟨_, rfl, Below.refl _ _, hmk _ _ rfl⟩
        · intro a' w' hb ha hdep
          have d16 : a'.tmps.getD 16 undef = .pointer (some ⟨(w.heap.size + 1), 0, none⟩) := (hdep 16 (of_decide_eq_true (by kernel_rfl))).is 0 rfl
          have hmk := fun (x : Value) (W : World) => SlotG.mk (x := x) (w := W) 1 rfl hGN
          clear hGN ha hdep
          have y0 : w'.cell? ⟨(w.heap.size + 1), 0, none⟩ = some (.slice pT 0 cT) := (rx.below hb rx.lt).cell 0
          go_simp
          exact ⟨_, rfl, Below.refl _ _, hmk _ _ rfl⟩
        · intro a' w' hb ha hdep
          have d4 : a'.tmps.getD 4 undef = .slice (some ⟨gF, 0, none⟩) 2 2 := ha.at 4 (by kernel_rfl)
          have hmk := fun (x : Value) (W : World) => SlotG.mk (x := x) (w := W) 2 rfl hGN
          clear hGN ha hdep
          go_simp
          exact ⟨_, rfl, Below.refl _ _, hmk _ _ rfl⟩
        · intro a' w' hb ha hdep
          have d18 : a'.tmps.getD 18 undef = .slice (some ⟨gF, 0, none⟩) 2 2 := (hdep 18 (of_decide_eq_true (by kernel_rfl))).is 2 rfl
          have hmk := fun (x : Value) (W : World) => SlotG.mk (x := x) (w := W) 3 rfl hGN
          clear hGN ha hdep
          go_simp
          refine (HN.out gF _ (hF.below hb hF.lt)).mono ?_
          rintro e w2 ⟨⟨x_, c_, y_, d_, rfl, o1, o2⟩, hb2⟩
          exact ⟨_, rfl, hb2, hmk _ _ ⟨x_, c_, y_, d_, rfl, owns_mono o1 hb.size, owns_mono o2 hb.size⟩⟩
        · intro a' w' hb ha hdep
          have D19 := (hdep 19 (of_decide_eq_true (by kernel_rfl))).get 3 rfl
          have hmk := fun (x : Value) (W : World) => SlotG.mk (x := x) (w := W) 4 rfl hGN
          clear hGN ha hdep
          obtain ⟨x_, c_, y_, d_, d19, o1, o2⟩ := D19
          have hfl := fun w => fieldInst_run x_ is.length c_ y_ rs.length d_ nw cc w
          go_simp
          exact ⟨_, rfl, Below.refl _ _, hmk _ _ ⟨x_, c_, y_, d_, rfl, o1, o2⟩⟩
        · intro a' w' hb ha hdep
          have d2 : a'.tmps.getD 2 undef = .slice (some ⟨(w.heap.size + 1 + 1), 0, none⟩) 2 2 := ha.at 2 (by kernel_rfl)
          have hmk := fun (x : Value) (W : World) => SlotG.mk (x := x) (w := W) 5 rfl hGN
          clear hGN ha hdep
          go_simp
          exact ⟨_, rfl, Below.refl _ _, hmk _ _ rfl⟩
        · intro a' w' hb ha hdep
          have d3 : a'.tmps.getD 3 undef = .int .i64 0 := ha.at 3 (by kernel_rfl)
          have hmk := fun (x : Value) (W : World) => SlotG.mk (x := x) (w := W) 6 rfl hGN
          clear hGN ha hdep
          go_simp
          exact ⟨_, rfl, Below.refl _ _, hmk _ _ rfl⟩
        · intro a' w' hb ha hdep
          have d21 : a'.tmps.getD 21 undef = .slice (some ⟨(w.heap.size + 1 + 1), 0, none⟩) 2 2 := (hdep 21 (of_decide_eq_true (by kernel_rfl))).is 5 rfl
          have d22 : a'.tmps.getD 22 undef = .int .i64 0 := (hdep 22 (of_decide_eq_true (by kernel_rfl))).is 6 rfl
          have hmk := fun (x : Value) (W : World) => SlotG.mk (x := x) (w := W) 7 rfl hGN
          clear hGN ha hdep
          go_simp
          exact ⟨_, rfl, Below.refl _ _, hmk _ _ rfl⟩
        · intro a' w' hb ha hdep
          have d23 : a'.tmps.getD 23 undef = .pointer (some ⟨(w.heap.size + 1 + 1), 0, none⟩) := (hdep 23 (of_decide_eq_true (by kernel_rfl))).is 7 rfl
          have hmk := fun (x : Value) (W : World) => SlotG.mk (x := x) (w := W) 8 rfl hGN
          clear hGN ha hdep
          have y0 : w'.cell? ⟨(w.heap.size + 1 + 1), 0, none⟩ = some (.string kRed) := (rk.below hb rk.lt).cell 0
          go_simp
          exact ⟨_, rfl, Below.refl _ _, hmk _ _ rfl⟩
        · intro a' w' hb ha hdep
          have D20 := (hdep 20 (of_decide_eq_true (by kernel_rfl))).get 4 rfl
          have d24 : a'.tmps.getD 24 undef = .string kRed := (hdep 24 (of_decide_eq_true (by kernel_rfl))).is 8 rfl
          have hmk := fun (x : Value) (W : World) => SlotG.mk (x := x) (w := W) 9 rfl hGN
          clear hGN ha hdep
          obtain ⟨x_, c_, y_, d_, d20, o1, o2⟩ := D20
          rw [Array.getD_eq_getD_getElem?] at d20 d24
          go_simp
          exact ⟨_, rfl, Below.refl _ _, hmk _ _ ⟨x_, c_, y_, d_, rfl, o1, o2⟩⟩
        · intro a' w' hb ha hdep
          have D25 := (hdep 25 (of_decide_eq_true (by kernel_rfl))).get 9 rfl
          have hmk := fun (x : Value) (W : World) => SlotG.mk (x := x) (w := W) 10 rfl hGN
          clear hGN ha hdep
          obtain ⟨x_, c_, y_, d_, d25, o1, o2⟩ := D25
          rw [Array.getD_eq_getD_getElem?] at d25
          go_simp
          exact ⟨_, rfl, ent_new0 _ _, hmk _ _ ⟨_, x_, c_, y_, d_, rfl, Row.new w' 55 _, World.ownsRow.alloc o1 _, World.ownsRow.alloc o2 _⟩⟩
      · intro a' w' hb ha hG
        clear hGN
        have d17 : a'.tmps.getD 17 undef = .slice pT 0 cT := (hG _ (List.mem_of_getElem? (i := 1) rfl) 17 rfl).is 1 rfl
        have D26 := (hG _ (List.mem_of_getElem? (i := 10) rfl) 26 rfl).get 10 rfl
        have d0 : a'.tmps.getD 0 undef = .pointer (some ⟨w.heap.size, 0, none⟩) := ha.at 0 (by kernel_rfl)
        have d1 : a'.tmps.getD 1 undef = .pointer (some ⟨(w.heap.size + 1), 0, none⟩) := ha.at 1 (by kernel_rfl)
        have d2 : a'.tmps.getD 2 undef = .slice (some ⟨(w.heap.size + 1 + 1), 0, none⟩) 2 2 := ha.at 2 (by kernel_rfl)
        have d3 : a'.tmps.getD 3 undef = .int .i64 0 := ha.at 3 (by kernel_rfl)
        have d5 : a'.tmps.getD 5 undef = .agg #[.slice none 0 0, .slice none 0 0, .slice none 0 0, .int .i64 0] := ha.at 5 (by kernel_rfl)
        have d6 : a'.tmps.getD 6 undef = .slice (some ⟨(w.heap.size + 1 + 1), 0, none⟩) 2 2 := ha.at 6 (by kernel_rfl)
        have d49 : a'.tmps.getD 49 undef = undef := ha.at 49 (by kernel_rfl)
        have e2 : a' = ⟨#[a'.tmps.getD 0 undef, a'.tmps.getD 1 undef, a'.tmps.getD 2 undef, a'.tmps.getD 3 undef, a'.tmps.getD 4 undef, a'.tmps.getD 5 undef, a'.tmps.getD 6 undef, a'.tmps.getD 7 undef, a'.tmps.getD 8 undef, a'.tmps.getD 9 undef, a'.tmps.getD 10 undef, a'.tmps.getD 11 undef, a'.tmps.getD 12 undef, a'.tmps.getD 13 undef, a'.tmps.getD 14 undef, a'.tmps.getD 15 undef, a'.tmps.getD 16 undef, a'.tmps.getD 17 undef, a'.tmps.getD 18 undef, a'.tmps.getD 19 undef, a'.tmps.getD 20 undef, a'.tmps.getD 21 undef, a'.tmps.getD 22 undef, a'.tmps.getD 23 undef, a'.tmps.getD 24 undef, a'.tmps.getD 25 undef, a'.tmps.getD 26 undef, a'.tmps.getD 27 undef, a'.tmps.getD 28 undef, a'.tmps.getD 29 undef, a'.tmps.getD 30 undef, a'.tmps.getD 31 undef, a'.tmps.getD 32 undef, a'.tmps.getD 33 undef, a'.tmps.getD 34 undef, a'.tmps.getD 35 undef, a'.tmps.getD 36 undef, a'.tmps.getD 37 undef, a'.tmps.getD 38 undef, a'.tmps.getD 39 undef, a'.tmps.getD 40 undef, a'.tmps.getD 41 undef, a'.tmps.getD 42 undef, a'.tmps.getD 43 undef, a'.tmps.getD 44 undef, a'.tmps.getD 45 undef, a'.tmps.getD 46 undef, a'.tmps.getD 47 undef, a'.tmps.getD 48 undef, a'.tmps.getD 49 undef], []⟩ := by rw [← (show a'.defers = [] from ha.2.1)]; exact act_eq a' 50 ha.1
        rw [d17, d0, d1, d2, d3, d5, d6, d49] at e2
        clear hG ha d17 d0 d1 d2 d3 d5 d6 d49
        generalize a'.tmps.getD 4 undef = x4 at *
        generalize a'.tmps.getD 7 undef = x7 at *
        generalize a'.tmps.getD 8 undef = x8 at *
        generalize a'.tmps.getD 9 undef = x9 at *
        generalize a'.tmps.getD 10 undef = x10 at *
        generalize a'.tmps.getD 11 undef = x11 at *
        generalize a'.tmps.getD 12 undef = x12 at *
        generalize a'.tmps.getD 13 undef = x13 at *
        generalize a'.tmps.getD 14 undef = x14 at *
        generalize a'.tmps.getD 15 undef = x15 at *
        generalize a'.tmps.getD 16 undef = x16 at *
        generalize a'.tmps.getD 18 undef = x18 at *
        generalize a'.tmps.getD 19 undef = x19 at *
        generalize a'.tmps.getD 20 undef = x20 at *
        generalize a'.tmps.getD 21 undef = x21 at *
        generalize a'.tmps.getD 22 undef = x22 at *
        generalize a'.tmps.getD 23 undef = x23 at *
        generalize a'.tmps.getD 24 undef = x24 at *
        generalize a'.tmps.getD 25 undef = x25 at *
        generalize a'.tmps.getD 26 undef = x26 at *
        generalize a'.tmps.getD 27 undef = x27 at *
        generalize a'.tmps.getD 28 undef = x28 at *
        generalize a'.tmps.getD 29 undef = x29 at *
        generalize a'.tmps.getD 30 undef = x30 at *
        generalize a'.tmps.getD 31 undef = x31 at *
        generalize a'.tmps.getD 32 undef = x32 at *
        generalize a'.tmps.getD 33 undef = x33 at *
        generalize a'.tmps.getD 34 undef = x34 at *
        generalize a'.tmps.getD 35 undef = x35 at *
        generalize a'.tmps.getD 36 undef = x36 at *
        generalize a'.tmps.getD 37 undef = x37 at *
        generalize a'.tmps.getD 38 undef = x38 at *
        generalize a'.tmps.getD 39 undef = x39 at *
        generalize a'.tmps.getD 40 undef = x40 at *
        generalize a'.tmps.getD 41 undef = x41 at *
        generalize a'.tmps.getD 42 undef = x42 at *
        generalize a'.tmps.getD 43 undef = x43 at *
        generalize a'.tmps.getD 44 undef = x44 at *
        generalize a'.tmps.getD 45 undef = x45 at *
        generalize a'.tmps.getD 46 undef = x46 at *
        generalize a'.tmps.getD 47 undef = x47 at *
        generalize a'.tmps.getD 48 undef = x48 at *
        subst e2
        simp only [List.drop_succ_cons, List.drop_zero]
        obtain ⟨gt, x, c1, y, c2, rfl, hrt, oi, orr⟩ := D26
        replace rx := rx.below hb rx.lt
        replace rz := rz.below hb rz.lt
        replace rk := rk.below hb rk.lt
        have otl := ot
        replace ot := ot.below hb
        replace ob := owns_below ob hb
        have h7 := hB.size
        have hB := hB.trans (hb.mono hB.size)
        clear hb hF HN
        have hnew : OwnT w' W7.heap.size ((⟨x, c1, y, c2, none, 0, none, 0⟩, ⟨is, rs, nw, kRed, 4, [], [], 0⟩) : TnP).1 ((⟨x, c1, y, c2, none, 0, none, 0⟩, ⟨is, rs, nw, kRed, 4, [], [], 0⟩) : TnP).2 := ownT_desk oi orr
        have hap : ApT (qs ++ [((⟨x, c1, y, c2, none, 0, none, 0⟩, ⟨is, rs, nw, kRed, 4, [], [], 0⟩) : TnP)]) := apT_more ot.2.2 (B := W7.heap.size) (fun j hj b hbh => (otl.2.1 j hj).lt hbh) (fun b hbh => hnew.ge hbh)
        have hall : ∀ j (hj : j < (qs ++ [((⟨x, c1, y, c2, none, 0, none, 0⟩, ⟨is, rs, nw, kRed, 4, [], [], 0⟩) : TnP)]).length), OwnT w' w.heap.size (qs ++ [((⟨x, c1, y, c2, none, 0, none, 0⟩, ⟨is, rs, nw, kRed, 4, [], [], 0⟩) : TnP)])[j].1 (qs ++ [((⟨x, c1, y, c2, none, 0, none, 0⟩, ⟨is, rs, nw, kRed, 4, [], [], 0⟩) : TnP)])[j].2 := ownT_more ot.2.1 (hnew.mono h7)
        have hrt2 : Row w' gt 55 (tnL ((⟨x, c1, y, c2, none, 0, none, 0⟩, ⟨is, rs, nw, kRed, 4, [], [], 0⟩) : TnP).1 ((⟨x, c1, y, c2, none, 0, none, 0⟩, ⟨is, rs, nw, kRed, 4, [], [], 0⟩) : TnP).2) := hrt
        have HLEN : Hid (0 = qs.length) := ot.len
        have ho := ot.1
        have HM2 : Hid ((qs ++ [((⟨x, c1, y, c2, none, 0, none, 0⟩, ⟨is, rs, nw, kRed, 4, [], [], 0⟩) : TnP)]).map (·.2) = dTS.take 1) := by
          show _ = _
          rw [List.map_append, HM.out]
          unfold dTS dTn
          rw [HE0.out]
          rfl
        have HA : Hid _ := And.intro rx (And.intro rz (And.intro rk (And.intro hap (And.intro hall (And.intro ob hB)))))
        clear hrt oi orr otl ot hnew rx rz rk hap hall ob HM
        go_wp2_with (at_builtin; refine wpList_append_tn rfl _ _ rfl w.heap.size _ 0 qs rfl HLEN.out ho gt 1 ((⟨x, c1, y, c2, none, 0, none, 0⟩, ⟨is, rs, nw, kRed, 4, [], [], 0⟩) : TnP) rfl hrt2 (by omega) (by have := HA.out.2.2.2.2.2.2.size; omega) ?_)
        intro v5 w5 ho5 hb5 hk5
        obtain ⟨rx, rz, rk, hap, hall, ob, hB⟩ := HA.out
        replace rx := hk5 _ _ _ (by decide) rx
        replace rz := hk5 _ _ _ (by decide) rz
        replace rk := hk5 _ _ _ (by decide) rk
        have hall5 := fun j hj => (hall j hj).kept (w' := w5) fun b tt l hb r => hk5 b tt l (fun e => by subst e; exact (hall j hj).ne r (by decide) hb) r
        have ob5 := owns_kept (w' := w5) ob fun b tt l e r => hk5 b tt l (fun e2 => by subst e2; exact owns_ne ob r (by decide) e) r
        have hB5 := hB.trans hb5
        obtain ⟨p5, c5, rfl⟩ := owns_shapeT ho5
        clear HA hk5 hb5 hB ob hall ho hrt2
        have m0 : w5.cell? ⟨(w.heap.size + 1), 0, none⟩ = some (.slice pT 0 cT) := rx.cell 0
        have f0 := rx.frozen 0
        have hko : ∀ b tt l, b ≠ (w.heap.size + 1) → Row w5 b tt l → Row (w5.setCell ⟨(w.heap.size + 1), 0, none⟩ (.slice p5 1 c5)) b tt l := fun b tt l hne h => h.other 0 (.slice p5 1 c5) hne
        have HZ : Hid (Row (w5.setCell ⟨(w.heap.size + 1), 0, none⟩ (.slice p5 1 c5)) (w.heap.size + 1) 33 [.slice p5 1 c5, .slice pB 0 cB, .slice none 0 0, .int .i64 0] ∧ OwnTs (w5.setCell ⟨(w.heap.size + 1), 0, none⟩ (.slice p5 1 c5)) w.heap.size p5 1 c5 (qs ++ [((⟨x, c1, y, c2, none, 0, none, 0⟩, ⟨is, rs, nw, kRed, 4, [], [], 0⟩) : TnP)]) ∧ (w5.setCell ⟨(w.heap.size + 1), 0, none⟩ (.slice p5 1 c5)).ownsRow w.heap.size 77 4 (.slice pB 0 cB) 0 (rowBd (dBS.take 0)) ∧ Row (w5.setCell ⟨(w.heap.size + 1), 0, none⟩ (.slice p5 1 c5)) w.heap.size 33 [.slice none 0 0, .slice none 0 0, .slice none 0 0, .int .i64 0] ∧ Row (w5.setCell ⟨(w.heap.size + 1), 0, none⟩ (.slice p5 1 c5)) (w.heap.size + 1 + 1) 9 [.string ⟨#[114, 101, 100]⟩, .string ⟨#[98, 108, 117, 101]⟩] ∧ Below w.heap.size w (w5.setCell ⟨(w.heap.size + 1), 0, none⟩ (.slice p5 1 c5))) := ⟨rx.set 0 (.slice p5 1 c5), ⟨owns_kept ho5 fun b tt l e r => hko b tt l (fun e2 => by subst e2; exact owns_ne ho5 rx (by decide) e) r, fun j hj => (hall5 j hj).kept fun b tt l hb r => hko b tt l (fun e2 => by subst e2; exact (hall5 j hj).ne rx (by decide) hb) r, hap⟩, owns_kept ob5 fun b tt l e r => hko b tt l (fun e2 => by subst e2; exact owns_ne ob5 rx (by decide) e) r, hko _ _ _ (by omega) rz, hko _ _ _ (row_ne rk rx (by decide)) rk, hB5.setCell (p := ⟨(w.heap.size + 1), 0, none⟩) (by show w.heap.size ≤ w.heap.size + 1; omega) (.slice p5 1 c5)⟩
        clear rx rz rk hap hall5 ob5 hB5 ho5 hko
        go_upto_region 8 with fail
        clear m0 f0
        generalize (w5.setCell ⟨(w.heap.size + 1), 0, none⟩ (.slice p5 1 c5)) = w6 at *
        obtain ⟨rx, ot, ob, rz, rk, hB⟩ := HZ.out
        clear HZ
        have m1 : (w6.alloc (.cells #[.int .i64 0, .int .i64 10, .int .i64 0, .int .i64 0] 77)).cell? ⟨(w.heap.size + 1), 1, none⟩ = some (.slice pB 0 cB) := (rx.alloc (.cells #[.int .i64 0, .int .i64 10, .int .i64 0, .int .i64 0] 77)).cell 1
        have y1 : w6.cell? ⟨(w.heap.size + 1), 1, none⟩ = some (.slice pB 0 cB) := rx.cell 1
        have rb := Row.new w6 77 [.int .i64 0, .int .i64 10, .int .i64 0, .int .i64 0]
        have HA : Hid _ := And.intro (rx.alloc (.cells #[.int .i64 0, .int .i64 10, .int .i64 0, .int .i64 0] 77)) (And.intro (ot.below (ent_new0 w6 (.cells #[.int .i64 0, .int .i64 10, .int .i64 0, .int .i64 0] 77))) (And.intro (rz.alloc (.cells #[.int .i64 0, .int .i64 10, .int .i64 0, .int .i64 0] 77)) (And.intro (rk.alloc (.cells #[.int .i64 0, .int .i64 10, .int .i64 0, .int .i64 0] 77)) (hB.alloc hB.size (.cells #[.int .i64 0, .int .i64 10, .int .i64 0, .int .i64 0] 77)))))
        have ho := World.ownsRow.alloc ob (.cells #[.int .i64 0, .int .i64 10, .int .i64 0, .int .i64 0] 77)
        have hsz : w.heap.size ≤ (w6.alloc (.cells #[.int .i64 0, .int .i64 10, .int .i64 0, .int .i64 0] 77)).heap.size := by have := hB.size; simp; omega
        clear rx ot ob rz rk hB
        go_wp2_with (at_builtin; refine wpList_append_bd rfl _ _ rfl w.heap.size _ 0 (dBS.take 0) rfl rfl ho w6.heap.size 1 (⟨0, 10, 0, 0⟩ : Bd) rfl rb (by omega) hsz ?_)
        intro v8 w8 ho8 hb8 hk8
        obtain ⟨rx, ot, rz, rk, hB⟩ := HA.out
        replace rx := hk8 _ _ _ (by decide) rx
        replace rz := hk8 _ _ _ (by decide) rz
        replace rk := hk8 _ _ _ (by decide) rk
        have ot8 : OwnTs w8 w.heap.size p5 1 c5 (qs ++ [((⟨x, c1, y, c2, none, 0, none, 0⟩, ⟨is, rs, nw, kRed, 4, [], [], 0⟩) : TnP)]) := ⟨owns_kept ot.1 fun b tt l e r => hk8 b tt l (fun e2 => by subst e2; exact owns_ne ot.1 r (by decide) e) r, fun j hj => (ot.2.1 j hj).kept fun b tt l hb r => hk8 b tt l (fun e => by subst e; exact (ot.2.1 j hj).ne r (by decide) hb) r, ot.2.2⟩
        have hB8 := hB.trans hb8
        obtain ⟨p8, c8, rfl⟩ := owns_shapeT ho8
        clear HA hk8 hb8 hB ot ho rb hsz y1 m1
        have m1 : w8.cell? ⟨(w.heap.size + 1), 1, none⟩ = some (.slice pB 0 cB) := rx.cell 1
        have f1 := rx.frozen 1
        have hko : ∀ b tt l, b ≠ (w.heap.size + 1) → Row w8 b tt l → Row (w8.setCell ⟨(w.heap.size + 1), 1, none⟩ (.slice p8 1 c8)) b tt l := fun b tt l hne h => h.other 1 (.slice p8 1 c8) hne
        have HZ : Hid (Row (w8.setCell ⟨(w.heap.size + 1), 1, none⟩ (.slice p8 1 c8)) (w.heap.size + 1) 33 [.slice p5 1 c5, .slice p8 1 c8, .slice none 0 0, .int .i64 0] ∧ OwnTs (w8.setCell ⟨(w.heap.size + 1), 1, none⟩ (.slice p8 1 c8)) w.heap.size p5 1 c5 (qs ++ [((⟨x, c1, y, c2, none, 0, none, 0⟩, ⟨is, rs, nw, kRed, 4, [], [], 0⟩) : TnP)]) ∧ (w8.setCell ⟨(w.heap.size + 1), 1, none⟩ (.slice p8 1 c8)).ownsRow w.heap.size 77 4 (.slice p8 1 c8) 1 (rowBd (dBS.take 1)) ∧ Row (w8.setCell ⟨(w.heap.size + 1), 1, none⟩ (.slice p8 1 c8)) w.heap.size 33 [.slice none 0 0, .slice none 0 0, .slice none 0 0, .int .i64 0] ∧ Row (w8.setCell ⟨(w.heap.size + 1), 1, none⟩ (.slice p8 1 c8)) (w.heap.size + 1 + 1) 9 [.string ⟨#[114, 101, 100]⟩, .string ⟨#[98, 108, 117, 101]⟩] ∧ Below w.heap.size w (w8.setCell ⟨(w.heap.size + 1), 1, none⟩ (.slice p8 1 c8))) := ⟨rx.set 1 (.slice p8 1 c8), ⟨owns_kept ot8.1 fun b tt l e r => hko b tt l (fun e2 => by subst e2; exact owns_ne ot8.1 rx (by decide) e) r, fun j hj => (ot8.2.1 j hj).kept fun b tt l hb r => hko b tt l (fun e2 => by subst e2; exact (ot8.2.1 j hj).ne rx (by decide) hb) r, ot8.2.2⟩, owns_kept ho8 fun b tt l e r => hko b tt l (fun e2 => by subst e2; exact owns_ne ho8 rx (by decide) e) r, hko _ _ _ (by omega) rz, hko _ _ _ (row_ne rk rx (by decide)) rk, hB8.setCell (p := ⟨(w.heap.size + 1), 1, none⟩) (by show w.heap.size ≤ w.heap.size + 1; omega) (.slice p8 1 c8)⟩
        clear rx rz rk ot8 hB8 ho8 hko
        go_upto_region 9 with fail
        clear m1 f1
        generalize (w8.setCell ⟨(w.heap.size + 1), 1, none⟩ (.slice p8 1 c8)) = w9 at *
        obtain ⟨rx, ot, ob, rz, rk, hB⟩ := HZ.out
        clear HZ
        have m1 : (w9.alloc (.cells #[.int .i64 0, .int .i64 11, .int .i64 0, .int .i64 1] 77)).cell? ⟨(w.heap.size + 1), 1, none⟩ = some (.slice p8 1 c8) := (rx.alloc (.cells #[.int .i64 0, .int .i64 11, .int .i64 0, .int .i64 1] 77)).cell 1
        have y1 : w9.cell? ⟨(w.heap.size + 1), 1, none⟩ = some (.slice p8 1 c8) := rx.cell 1
        have rb := Row.new w9 77 [.int .i64 0, .int .i64 11, .int .i64 0, .int .i64 1]
        have HA : Hid _ := And.intro (rx.alloc (.cells #[.int .i64 0, .int .i64 11, .int .i64 0, .int .i64 1] 77)) (And.intro (ot.below (ent_new0 w9 (.cells #[.int .i64 0, .int .i64 11, .int .i64 0, .int .i64 1] 77))) (And.intro (rz.alloc (.cells #[.int .i64 0, .int .i64 11, .int .i64 0, .int .i64 1] 77)) (And.intro (rk.alloc (.cells #[.int .i64 0, .int .i64 11, .int .i64 0, .int .i64 1] 77)) (hB.alloc hB.size (.cells #[.int .i64 0, .int .i64 11, .int .i64 0, .int .i64 1] 77)))))
        have ho := World.ownsRow.alloc ob (.cells #[.int .i64 0, .int .i64 11, .int .i64 0, .int .i64 1] 77)
        have hsz : w.heap.size ≤ (w9.alloc (.cells #[.int .i64 0, .int .i64 11, .int .i64 0, .int .i64 1] 77)).heap.size := by have := hB.size; simp; omega
        clear rx ot ob rz rk hB
        go_wp2_with (at_builtin; refine wpList_append_bd rfl _ _ rfl w.heap.size _ 1 (dBS.take 1) rfl rfl ho w9.heap.size 1 (⟨0, 11, 0, 1⟩ : Bd) rfl rb (by omega) hsz ?_)
        intro v10 w10 ho10 hb10 hk10
        obtain ⟨rx, ot, rz, rk, hB⟩ := HA.out
        replace rx := hk10 _ _ _ (by decide) rx
        replace rz := hk10 _ _ _ (by decide) rz
        replace rk := hk10 _ _ _ (by decide) rk
        have ot10 : OwnTs w10 w.heap.size p5 1 c5 (qs ++ [((⟨x, c1, y, c2, none, 0, none, 0⟩, ⟨is, rs, nw, kRed, 4, [], [], 0⟩) : TnP)]) := ⟨owns_kept ot.1 fun b tt l e r => hk10 b tt l (fun e2 => by subst e2; exact owns_ne ot.1 r (by decide) e) r, fun j hj => (ot.2.1 j hj).kept fun b tt l hb r => hk10 b tt l (fun e => by subst e; exact (ot.2.1 j hj).ne r (by decide) hb) r, ot.2.2⟩
        have hB10 := hB.trans hb10
        obtain ⟨p10, c10, rfl⟩ := owns_shapeT ho10
        clear HA hk10 hb10 hB ot ho rb hsz y1 m1
        have m1 : w10.cell? ⟨(w.heap.size + 1), 1, none⟩ = some (.slice p8 1 c8) := rx.cell 1
        have f1 := rx.frozen 1
        have hko : ∀ b tt l, b ≠ (w.heap.size + 1) → Row w10 b tt l → Row (w10.setCell ⟨(w.heap.size + 1), 1, none⟩ (.slice p10 2 c10)) b tt l := fun b tt l hne h => h.other 1 (.slice p10 2 c10) hne
        have HZ : Hid (Row (w10.setCell ⟨(w.heap.size + 1), 1, none⟩ (.slice p10 2 c10)) (w.heap.size + 1) 33 [.slice p5 1 c5, .slice p10 2 c10, .slice none 0 0, .int .i64 0] ∧ OwnTs (w10.setCell ⟨(w.heap.size + 1), 1, none⟩ (.slice p10 2 c10)) w.heap.size p5 1 c5 (qs ++ [((⟨x, c1, y, c2, none, 0, none, 0⟩, ⟨is, rs, nw, kRed, 4, [], [], 0⟩) : TnP)]) ∧ (w10.setCell ⟨(w.heap.size + 1), 1, none⟩ (.slice p10 2 c10)).ownsRow w.heap.size 77 4 (.slice p10 2 c10) 2 (rowBd (dBS.take 2)) ∧ Row (w10.setCell ⟨(w.heap.size + 1), 1, none⟩ (.slice p10 2 c10)) w.heap.size 33 [.slice none 0 0, .slice none 0 0, .slice none 0 0, .int .i64 0] ∧ Row (w10.setCell ⟨(w.heap.size + 1), 1, none⟩ (.slice p10 2 c10)) (w.heap.size + 1 + 1) 9 [.string ⟨#[114, 101, 100]⟩, .string ⟨#[98, 108, 117, 101]⟩] ∧ Below w.heap.size w (w10.setCell ⟨(w.heap.size + 1), 1, none⟩ (.slice p10 2 c10))) := ⟨rx.set 1 (.slice p10 2 c10), ⟨owns_kept ot10.1 fun b tt l e r => hko b tt l (fun e2 => by subst e2; exact owns_ne ot10.1 rx (by decide) e) r, fun j hj => (ot10.2.1 j hj).kept fun b tt l hb r => hko b tt l (fun e2 => by subst e2; exact (ot10.2.1 j hj).ne rx (by decide) hb) r, ot10.2.2⟩, owns_kept ho10 fun b tt l e r => hko b tt l (fun e2 => by subst e2; exact owns_ne ho10 rx (by decide) e) r, hko _ _ _ (by omega) rz, hko _ _ _ (row_ne rk rx (by decide)) rk, hB10.setCell (p := ⟨(w.heap.size + 1), 1, none⟩) (by show w.heap.size ≤ w.heap.size + 1; omega) (.slice p10 2 c10)⟩
        clear rx rz rk ot10 hB10 ho10 hko
        go_wp2_with fail
        clear m1 f1
        go_roundw
        case rel => exact ⟨1, by omega, by go_num, p5, c5, p10, c10, qs ++ [((⟨x, c1, y, c2, none, 0, none, 0⟩, ⟨is, rs, nw, kRed, 4, [], [], 0⟩) : TnP)], HZ.out.1, HZ.out.2.1, HM2.out, HZ.out.2.2.1, HZ.out.2.2.2.1, HZ.out.2.2.2.2.1, HZ.out.2.2.2.2.2⟩
        case measure => simp [intOf]
    case inr.inl =>
      rw [show ((1 : Nat) : Int) = 1 from rfl]
      obtain ⟨pT, cT, pB, cB, qs, rx, ot, hm, ob, rz, rk, hB⟩ := hst
      replace ob : wr.ownsRow w.heap.size 77 4 (.slice pB 2 cB) 2 (rowBd (dBS.take 2)) := ob
      replace rx : Row wr (w.heap.size + 1) 33 [.slice pT 1 cT, .slice pB 2 cB, .slice none 0 0, .int .i64 0] := rx
      have hF : Row (wr.alloc (.cells #[.int .i64 167772161, .int .i64 167772160, .int .i64 24, .int .i64 1, .bool false, .int .i64 167772417, .int .i64 167772416, .int .i64 24, .int .i64 1, .bool false] 72)) wr.heap.size 72 (rowI dIs) := Row.new wr 72 [.int .i64 167772161, .int .i64 167772160, .int .i64 24, .int .i64 1, .bool false, .int .i64 167772417, .int .i64 167772416, .int .i64 24, .int .i64 1, .bool false]
      have HP : Hid _ := And.intro (rx.alloc (.cells #[.int .i64 167772161, .int .i64 167772160, .int .i64 24, .int .i64 1, .bool false, .int .i64 167772417, .int .i64 167772416, .int .i64 24, .int .i64 1, .bool false] 72)) (And.intro (rz.alloc (.cells #[.int .i64 167772161, .int .i64 167772160, .int .i64 24, .int .i64 1, .bool false, .int .i64 167772417, .int .i64 167772416, .int .i64 24, .int .i64 1, .bool false] 72)) (And.intro (rk.alloc (.cells #[.int .i64 167772161, .int .i64 167772160, .int .i64 24, .int .i64 1, .bool false, .int .i64 167772417, .int .i64 167772416, .int .i64 24, .int .i64 1, .bool false] 72)) (And.intro hF (And.intro (ot.below (ent_new0 wr (.cells #[.int .i64 167772161, .int .i64 167772160, .int .i64 24, .int .i64 1, .bool false, .int .i64 167772417, .int .i64 167772416, .int .i64 24, .int .i64 1, .bool false] 72))) (And.intro (World.ownsRow.alloc ob (.cells #[.int .i64 167772161, .int .i64 167772160, .int .i64 24, .int .i64 1, .bool false, .int .i64 167772417, .int .i64 167772416, .int .i64 24, .int .i64 1, .bool false] 72)) (hB.alloc hB.size (.cells #[.int .i64 167772161, .int .i64 167772160, .int .i64 24, .int .i64 1, .bool false, .int .i64 167772417, .int .i64 167772416, .int .i64 24, .int .i64 1, .bool false] 72)))))))
      have HM : Hid _ := hm
      clear rx rz rk hF ot ob hB hm
      go_wp2_with fail
      generalize wr.heap.size = gF at *
      generalize wr.alloc (.cells #[.int .i64 167772161, .int .i64 167772160, .int .i64 24, .int .i64 1, .bool false, .int .i64 167772417, .int .i64 167772416, .int .i64 24, .int .i64 1, .bool false] 72) = W7 at *
      obtain ⟨rx, rz, rk, hF, ot, ob, hB⟩ := HP.out
      clear HP
      have hGN : (([(16, Is (.pointer (some ⟨(w.heap.size + 1), 0, none⟩))), (17, Is (.slice pT 1 cT)), (18, Is (.slice (some ⟨gF, 0, none⟩) 2 2)), (19, DkA W7.heap.size is rs nw cc kBlue), (20, DkI W7.heap.size is rs nw cc kBlue), (21, Is (.slice (some ⟨(w.heap.size + 1 + 1), 0, none⟩) 2 2)), (22, Is (.int .i64 1)), (23, Is (.pointer (some ⟨(w.heap.size + 1 + 1), 1, none⟩))), (24, Is (.string kBlue)), (25, DkT W7.heap.size is rs nw cc kBlue), (26, DkS W7.heap.size is rs nw cc kBlue)] : List (Nat × (Value → World → Prop))).map (·.1)).Nodup := by simp
      refine wp_region_steady 11 (SlotG [(16, Is (.pointer (some ⟨(w.heap.size + 1), 0, none⟩))), (17, Is (.slice pT 1 cT)), (18, Is (.slice (some ⟨gF, 0, none⟩) 2 2)), (19, DkA W7.heap.size is rs nw cc kBlue), (20, DkI W7.heap.size is rs nw cc kBlue), (21, Is (.slice (some ⟨(w.heap.size + 1 + 1), 0, none⟩) 2 2)), (22, Is (.int .i64 1)), (23, Is (.pointer (some ⟨(w.heap.size + 1 + 1), 1, none⟩))), (24, Is (.string kBlue)), (25, DkT W7.heap.size is rs nw cc kBlue), (26, DkS W7.heap.size is rs nw cc kBlue)]) (by kernel_rfl) (by kernel_rfl) (Stabs.all ⟨stab_is _, stab_is _, stab_is _, stab_dkA W7.heap.size is rs nw cc kBlue, stab_dkI W7.heap.size is rs nw cc kBlue, stab_is _, stab_is _, stab_is _, stab_is _, stab_dkT W7.heap.size is rs nw cc kBlue, stab_dkS W7.heap.size is rs nw cc kBlue, trivial⟩) ?_ ?_
      · intro o ho
        simp only [List.take_succ_cons, List.take_zero, List.mem_cons, List.not_mem_nil, or_false] at ho
        rcases ho with rfl | rfl | rfl | rfl | rfl | rfl | rfl | rfl | rfl | rfl | rfl
        · intro a' w' hb ha hdep
          have d1 : a'.tmps.getD 1 undef = .pointer (some ⟨(w.heap.size + 1), 0, none⟩) := ha.at 1 (by kernel_rfl)
          have hmk := fun (x : Value) (W : World) => SlotG.mk (x := x) (w := W) 0 rfl hGN
          clear hGN ha hdep
          go_simp
          exact ⟨_, rfl, Below.refl _ _, hmk _ _ rfl⟩
        · intro a' w' hb ha hdep
          have d16 : a'.tmps.getD 16 undef = .pointer (some ⟨(w.heap.size + 1), 0, none⟩) := (hdep 16 (of_decide_eq_true (by kernel_rfl))).is 0 rfl
          have hmk := fun (x : Value) (W : World) => SlotG.mk (x := x) (w := W) 1 rfl hGN
          clear hGN ha hdep
          have y0 : w'.cell? ⟨(w.heap.size + 1), 0, none⟩ = some (.slice pT 1 cT) := (rx.below hb rx.lt).cell 0
          go_simp
          exact ⟨_, rfl, Below.refl _ _, hmk _ _ rfl⟩
        · intro a' w' hb ha hdep
          have d4 : a'.tmps.getD 4 undef = .slice (some ⟨gF, 0, none⟩) 2 2 := ha.at 4 (by kernel_rfl)
          have hmk := fun (x : Value) (W : World) => SlotG.mk (x := x) (w := W) 2 rfl hGN
          clear hGN ha hdep
          go_simp
          exact ⟨_, rfl, Below.refl _ _, hmk _ _ rfl⟩
        · intro a' w' hb ha hdep
          have d18 : a'.tmps.getD 18 undef = .slice (some ⟨gF, 0, none⟩) 2 2 := (hdep 18 (of_decide_eq_true (by kernel_rfl))).is 2 rfl
          have hmk := fun (x : Value) (W : World) => SlotG.mk (x := x) (w := W) 3 rfl hGN
          clear hGN ha hdep
          go_simp
          refine (HN.out gF _ (hF.below hb hF.lt)).mono ?_
          rintro e w2 ⟨⟨x_, c_, y_, d_, rfl, o1, o2⟩, hb2⟩
          exact ⟨_, rfl, hb2, hmk _ _ ⟨x_, c_, y_, d_, rfl, owns_mono o1 hb.size, owns_mono o2 hb.size⟩⟩
        · intro a' w' hb ha hdep
          have D19 := (hdep 19 (of_decide_eq_true (by kernel_rfl))).get 3 rfl
          have hmk := fun (x : Value) (W : World) => SlotG.mk (x := x) (w := W) 4 rfl hGN
          clear hGN ha hdep
          obtain ⟨x_, c_, y_, d_, d19, o1, o2⟩ := D19
          have hfl := fun w => fieldInst_run x_ is.length c_ y_ rs.length d_ nw cc w
          go_simp
          exact ⟨_, rfl, Below.refl _ _, hmk _ _ ⟨x_, c_, y_, d_, rfl, o1, o2⟩⟩
        · intro a' w' hb ha hdep
          have d2 : a'.tmps.getD 2 undef = .slice (some ⟨(w.heap.size + 1 + 1), 0, none⟩) 2 2 := ha.at 2 (by kernel_rfl)
          have hmk := fun (x : Value) (W : World) => SlotG.mk (x := x) (w := W) 5 rfl hGN
          clear hGN ha hdep
          go_simp
          exact ⟨_, rfl, Below.refl _ _, hmk _ _ rfl⟩
        · intro a' w' hb ha hdep
          have d3 : a'.tmps.getD 3 undef = .int .i64 1 := ha.at 3 (by kernel_rfl)
          have hmk := fun (x : Value) (W : World) => SlotG.mk (x := x) (w := W) 6 rfl hGN
          clear hGN ha hdep
          go_simp
          exact ⟨_, rfl, Below.refl _ _, hmk _ _ rfl⟩
        · intro a' w' hb ha hdep
          have d21 : a'.tmps.getD 21 undef = .slice (some ⟨(w.heap.size + 1 + 1), 0, none⟩) 2 2 := (hdep 21 (of_decide_eq_true (by kernel_rfl))).is 5 rfl
          have d22 : a'.tmps.getD 22 undef = .int .i64 1 := (hdep 22 (of_decide_eq_true (by kernel_rfl))).is 6 rfl
          have hmk := fun (x : Value) (W : World) => SlotG.mk (x := x) (w := W) 7 rfl hGN
          clear hGN ha hdep
          go_simp
          exact ⟨_, rfl, Below.refl _ _, hmk _ _ rfl⟩
        · intro a' w' hb ha hdep
          have d23 : a'.tmps.getD 23 undef = .pointer (some ⟨(w.heap.size + 1 + 1), 1, none⟩) := (hdep 23 (of_decide_eq_true (by kernel_rfl))).is 7 rfl
          have hmk := fun (x : Value) (W : World) => SlotG.mk (x := x) (w := W) 8 rfl hGN
          clear hGN ha hdep
          have y0 : w'.cell? ⟨(w.heap.size + 1 + 1), 1, none⟩ = some (.string kBlue) := (rk.below hb rk.lt).cell 1
          go_simp
          exact ⟨_, rfl, Below.refl _ _, hmk _ _ rfl⟩
        · intro a' w' hb ha hdep
          have D20 := (hdep 20 (of_decide_eq_true (by kernel_rfl))).get 4 rfl
          have d24 : a'.tmps.getD 24 undef = .string kBlue := (hdep 24 (of_decide_eq_true (by kernel_rfl))).is 8 rfl
          have hmk := fun (x : Value) (W : World) => SlotG.mk (x := x) (w := W) 9 rfl hGN
          clear hGN ha hdep
          obtain ⟨x_, c_, y_, d_, d20, o1, o2⟩ := D20
          rw [Array.getD_eq_getD_getElem?] at d20 d24
          go_simp
          exact ⟨_, rfl, Below.refl _ _, hmk _ _ ⟨x_, c_, y_, d_, rfl, o1, o2⟩⟩
        · intro a' w' hb ha hdep
          have D25 := (hdep 25 (of_decide_eq_true (by kernel_rfl))).get 9 rfl
          have hmk := fun (x : Value) (W : World) => SlotG.mk (x := x) (w := W) 10 rfl hGN
          clear hGN ha hdep
          obtain ⟨x_, c_, y_, d_, d25, o1, o2⟩ := D25
          rw [Array.getD_eq_getD_getElem?] at d25
          go_simp
          exact ⟨_, rfl, ent_new0 _ _, hmk _ _ ⟨_, x_, c_, y_, d_, rfl, Row.new w' 55 _, World.ownsRow.alloc o1 _, World.ownsRow.alloc o2 _⟩⟩
      · intro a' w' hb ha hG
        clear hGN
        have d17 : a'.tmps.getD 17 undef = .slice pT 1 cT := (hG _ (List.mem_of_getElem? (i := 1) rfl) 17 rfl).is 1 rfl
        have D26 := (hG _ (List.mem_of_getElem? (i := 10) rfl) 26 rfl).get 10 rfl
        have d0 : a'.tmps.getD 0 undef = .pointer (some ⟨w.heap.size, 0, none⟩) := ha.at 0 (by kernel_rfl)
        have d1 : a'.tmps.getD 1 undef = .pointer (some ⟨(w.heap.size + 1), 0, none⟩) := ha.at 1 (by kernel_rfl)
        have d2 : a'.tmps.getD 2 undef = .slice (some ⟨(w.heap.size + 1 + 1), 0, none⟩) 2 2 := ha.at 2 (by kernel_rfl)
        have d3 : a'.tmps.getD 3 undef = .int .i64 1 := ha.at 3 (by kernel_rfl)
        have d5 : a'.tmps.getD 5 undef = .agg #[.slice none 0 0, .slice none 0 0, .slice none 0 0, .int .i64 0] := ha.at 5 (by kernel_rfl)
        have d6 : a'.tmps.getD 6 undef = .slice (some ⟨(w.heap.size + 1 + 1), 0, none⟩) 2 2 := ha.at 6 (by kernel_rfl)
        have d49 : a'.tmps.getD 49 undef = undef := ha.at 49 (by kernel_rfl)
        have e2 : a' = ⟨#[a'.tmps.getD 0 undef, a'.tmps.getD 1 undef, a'.tmps.getD 2 undef, a'.tmps.getD 3 undef, a'.tmps.getD 4 undef, a'.tmps.getD 5 undef, a'.tmps.getD 6 undef, a'.tmps.getD 7 undef, a'.tmps.getD 8 undef, a'.tmps.getD 9 undef, a'.tmps.getD 10 undef, a'.tmps.getD 11 undef, a'.tmps.getD 12 undef, a'.tmps.getD 13 undef, a'.tmps.getD 14 undef, a'.tmps.getD 15 undef, a'.tmps.getD 16 undef, a'.tmps.getD 17 undef, a'.tmps.getD 18 undef, a'.tmps.getD 19 undef, a'.tmps.getD 20 undef, a'.tmps.getD 21 undef, a'.tmps.getD 22 undef, a'.tmps.getD 23 undef, a'.tmps.getD 24 undef, a'.tmps.getD 25 undef, a'.tmps.getD 26 undef, a'.tmps.getD 27 undef, a'.tmps.getD 28 undef, a'.tmps.getD 29 undef, a'.tmps.getD 30 undef, a'.tmps.getD 31 undef, a'.tmps.getD 32 undef, a'.tmps.getD 33 undef, a'.tmps.getD 34 undef, a'.tmps.getD 35 undef, a'.tmps.getD 36 undef, a'.tmps.getD 37 undef, a'.tmps.getD 38 undef, a'.tmps.getD 39 undef, a'.tmps.getD 40 undef, a'.tmps.getD 41 undef, a'.tmps.getD 42 undef, a'.tmps.getD 43 undef, a'.tmps.getD 44 undef, a'.tmps.getD 45 undef, a'.tmps.getD 46 undef, a'.tmps.getD 47 undef, a'.tmps.getD 48 undef, a'.tmps.getD 49 undef], []⟩ := by rw [← (show a'.defers = [] from ha.2.1)]; exact act_eq a' 50 ha.1
        rw [d17, d0, d1, d2, d3, d5, d6, d49] at e2
        clear hG ha d17 d0 d1 d2 d3 d5 d6 d49
        generalize a'.tmps.getD 4 undef = x4 at *
        generalize a'.tmps.getD 7 undef = x7 at *
        generalize a'.tmps.getD 8 undef = x8 at *
        generalize a'.tmps.getD 9 undef = x9 at *
        generalize a'.tmps.getD 10 undef = x10 at *
        generalize a'.tmps.getD 11 undef = x11 at *
        generalize a'.tmps.getD 12 undef = x12 at *
        generalize a'.tmps.getD 13 undef = x13 at *
        generalize a'.tmps.getD 14 undef = x14 at *
        generalize a'.tmps.getD 15 undef = x15 at *
        generalize a'.tmps.getD 16 undef = x16 at *
        generalize a'.tmps.getD 18 undef = x18 at *
        generalize a'.tmps.getD 19 undef = x19 at *
        generalize a'.tmps.getD 20 undef = x20 at *
        generalize a'.tmps.getD 21 undef = x21 at *
        generalize a'.tmps.getD 22 undef = x22 at *
        generalize a'.tmps.getD 23 undef = x23 at *
        generalize a'.tmps.getD 24 undef = x24 at *
        generalize a'.tmps.getD 25 undef = x25 at *
        generalize a'.tmps.getD 26 undef = x26 at *
        generalize a'.tmps.getD 27 undef = x27 at *
        generalize a'.tmps.getD 28 undef = x28 at *
        generalize a'.tmps.getD 29 undef = x29 at *
        generalize a'.tmps.getD 30 undef = x30 at *
        generalize a'.tmps.getD 31 undef = x31 at *
        generalize a'.tmps.getD 32 undef = x32 at *
        generalize a'.tmps.getD 33 undef = x33 at *
        generalize a'.tmps.getD 34 undef = x34 at *
        generalize a'.tmps.getD 35 undef = x35 at *
        generalize a'.tmps.getD 36 undef = x36 at *
        generalize a'.tmps.getD 37 undef = x37 at *
        generalize a'.tmps.getD 38 undef = x38 at *
        generalize a'.tmps.getD 39 undef = x39 at *
        generalize a'.tmps.getD 40 undef = x40 at *
        generalize a'.tmps.getD 41 undef = x41 at *
        generalize a'.tmps.getD 42 undef = x42 at *
        generalize a'.tmps.getD 43 undef = x43 at *
        generalize a'.tmps.getD 44 undef = x44 at *
        generalize a'.tmps.getD 45 undef = x45 at *
        generalize a'.tmps.getD 46 undef = x46 at *
        generalize a'.tmps.getD 47 undef = x47 at *
        generalize a'.tmps.getD 48 undef = x48 at *
        subst e2
        simp only [List.drop_succ_cons, List.drop_zero]
        obtain ⟨gt, x, c1, y, c2, rfl, hrt, oi, orr⟩ := D26
        replace rx := rx.below hb rx.lt
        replace rz := rz.below hb rz.lt
        replace rk := rk.below hb rk.lt
        have otl := ot
        replace ot := ot.below hb
        replace ob := owns_below ob hb
        have h7 := hB.size
        have hB := hB.trans (hb.mono hB.size)
        clear hb hF HN
        have hnew : OwnT w' W7.heap.size ((⟨x, c1, y, c2, none, 0, none, 0⟩, ⟨is, rs, nw, kBlue, 4, [], [], 0⟩) : TnP).1 ((⟨x, c1, y, c2, none, 0, none, 0⟩, ⟨is, rs, nw, kBlue, 4, [], [], 0⟩) : TnP).2 := ownT_desk oi orr
        have hap : ApT (qs ++ [((⟨x, c1, y, c2, none, 0, none, 0⟩, ⟨is, rs, nw, kBlue, 4, [], [], 0⟩) : TnP)]) := apT_more ot.2.2 (B := W7.heap.size) (fun j hj b hbh => (otl.2.1 j hj).lt hbh) (fun b hbh => hnew.ge hbh)
        have hall : ∀ j (hj : j < (qs ++ [((⟨x, c1, y, c2, none, 0, none, 0⟩, ⟨is, rs, nw, kBlue, 4, [], [], 0⟩) : TnP)]).length), OwnT w' w.heap.size (qs ++ [((⟨x, c1, y, c2, none, 0, none, 0⟩, ⟨is, rs, nw, kBlue, 4, [], [], 0⟩) : TnP)])[j].1 (qs ++ [((⟨x, c1, y, c2, none, 0, none, 0⟩, ⟨is, rs, nw, kBlue, 4, [], [], 0⟩) : TnP)])[j].2 := ownT_more ot.2.1 (hnew.mono h7)
        have hrt2 : Row w' gt 55 (tnL ((⟨x, c1, y, c2, none, 0, none, 0⟩, ⟨is, rs, nw, kBlue, 4, [], [], 0⟩) : TnP).1 ((⟨x, c1, y, c2, none, 0, none, 0⟩, ⟨is, rs, nw, kBlue, 4, [], [], 0⟩) : TnP).2) := hrt
        have HLEN : Hid (1 = qs.length) := ot.len
        have ho := ot.1
        have HM2 : Hid ((qs ++ [((⟨x, c1, y, c2, none, 0, none, 0⟩, ⟨is, rs, nw, kBlue, 4, [], [], 0⟩) : TnP)]).map (·.2) = dTS.take 2) := by
          show _ = _
          rw [List.map_append, HM.out]
          unfold dTS dTn
          rw [HE0.out]
          rfl
        have HA : Hid _ := And.intro rx (And.intro rz (And.intro rk (And.intro hap (And.intro hall (And.intro ob hB)))))
        clear hrt oi orr otl ot hnew rx rz rk hap hall ob HM
        go_wp2_with (at_builtin; refine wpList_append_tn rfl _ _ rfl w.heap.size _ 1 qs rfl HLEN.out ho gt 1 ((⟨x, c1, y, c2, none, 0, none, 0⟩, ⟨is, rs, nw, kBlue, 4, [], [], 0⟩) : TnP) rfl hrt2 (by omega) (by have := HA.out.2.2.2.2.2.2.size; omega) ?_)
        intro v5 w5 ho5 hb5 hk5
        obtain ⟨rx, rz, rk, hap, hall, ob, hB⟩ := HA.out
        replace rx := hk5 _ _ _ (by decide) rx
        replace rz := hk5 _ _ _ (by decide) rz
        replace rk := hk5 _ _ _ (by decide) rk
        have hall5 := fun j hj => (hall j hj).kept (w' := w5) fun b tt l hb r => hk5 b tt l (fun e => by subst e; exact (hall j hj).ne r (by decide) hb) r
        have ob5 := owns_kept (w' := w5) ob fun b tt l e r => hk5 b tt l (fun e2 => by subst e2; exact owns_ne ob r (by decide) e) r
        have hB5 := hB.trans hb5
        obtain ⟨p5, c5, rfl⟩ := owns_shapeT ho5
        clear HA hk5 hb5 hB ob hall ho hrt2
        have m0 : w5.cell? ⟨(w.heap.size + 1), 0, none⟩ = some (.slice pT 1 cT) := rx.cell 0
        have f0 := rx.frozen 0
        have hko : ∀ b tt l, b ≠ (w.heap.size + 1) → Row w5 b tt l → Row (w5.setCell ⟨(w.heap.size + 1), 0, none⟩ (.slice p5 2 c5)) b tt l := fun b tt l hne h => h.other 0 (.slice p5 2 c5) hne
        have HZ : Hid (Row (w5.setCell ⟨(w.heap.size + 1), 0, none⟩ (.slice p5 2 c5)) (w.heap.size + 1) 33 [.slice p5 2 c5, .slice pB 2 cB, .slice none 0 0, .int .i64 0] ∧ OwnTs (w5.setCell ⟨(w.heap.size + 1), 0, none⟩ (.slice p5 2 c5)) w.heap.size p5 2 c5 (qs ++ [((⟨x, c1, y, c2, none, 0, none, 0⟩, ⟨is, rs, nw, kBlue, 4, [], [], 0⟩) : TnP)]) ∧ (w5.setCell ⟨(w.heap.size + 1), 0, none⟩ (.slice p5 2 c5)).ownsRow w.heap.size 77 4 (.slice pB 2 cB) 2 (rowBd (dBS.take 2)) ∧ Row (w5.setCell ⟨(w.heap.size + 1), 0, none⟩ (.slice p5 2 c5)) w.heap.size 33 [.slice none 0 0, .slice none 0 0, .slice none 0 0, .int .i64 0] ∧ Row (w5.setCell ⟨(w.heap.size + 1), 0, none⟩ (.slice p5 2 c5)) (w.heap.size + 1 + 1) 9 [.string ⟨#[114, 101, 100]⟩, .string ⟨#[98, 108, 117, 101]⟩] ∧ Below w.heap.size w (w5.setCell ⟨(w.heap.size + 1), 0, none⟩ (.slice p5 2 c5))) := ⟨rx.set 0 (.slice p5 2 c5), ⟨owns_kept ho5 fun b tt l e r => hko b tt l (fun e2 => by subst e2; exact owns_ne ho5 rx (by decide) e) r, fun j hj => (hall5 j hj).kept fun b tt l hb r => hko b tt l (fun e2 => by subst e2; exact (hall5 j hj).ne rx (by decide) hb) r, hap⟩, owns_kept ob5 fun b tt l e r => hko b tt l (fun e2 => by subst e2; exact owns_ne ob5 rx (by decide) e) r, hko _ _ _ (by omega) rz, hko _ _ _ (row_ne rk rx (by decide)) rk, hB5.setCell (p := ⟨(w.heap.size + 1), 0, none⟩) (by show w.heap.size ≤ w.heap.size + 1; omega) (.slice p5 2 c5)⟩
        clear rx rz rk hap hall5 ob5 hB5 ho5 hko
        go_upto_region 8 with fail
        clear m0 f0
        generalize (w5.setCell ⟨(w.heap.size + 1), 0, none⟩ (.slice p5 2 c5)) = w6 at *
        obtain ⟨rx, ot, ob, rz, rk, hB⟩ := HZ.out
        clear HZ
        have m1 : (w6.alloc (.cells #[.int .i64 0, .int .i64 20, .int .i64 1, .int .i64 0] 77)).cell? ⟨(w.heap.size + 1), 1, none⟩ = some (.slice pB 2 cB) := (rx.alloc (.cells #[.int .i64 0, .int .i64 20, .int .i64 1, .int .i64 0] 77)).cell 1
        have y1 : w6.cell? ⟨(w.heap.size + 1), 1, none⟩ = some (.slice pB 2 cB) := rx.cell 1
        have rb := Row.new w6 77 [.int .i64 0, .int .i64 20, .int .i64 1, .int .i64 0]
        have HA : Hid _ := And.intro (rx.alloc (.cells #[.int .i64 0, .int .i64 20, .int .i64 1, .int .i64 0] 77)) (And.intro (ot.below (ent_new0 w6 (.cells #[.int .i64 0, .int .i64 20, .int .i64 1, .int .i64 0] 77))) (And.intro (rz.alloc (.cells #[.int .i64 0, .int .i64 20, .int .i64 1, .int .i64 0] 77)) (And.intro (rk.alloc (.cells #[.int .i64 0, .int .i64 20, .int .i64 1, .int .i64 0] 77)) (hB.alloc hB.size (.cells #[.int .i64 0, .int .i64 20, .int .i64 1, .int .i64 0] 77)))))
        have ho := World.ownsRow.alloc ob (.cells #[.int .i64 0, .int .i64 20, .int .i64 1, .int .i64 0] 77)
        have hsz : w.heap.size ≤ (w6.alloc (.cells #[.int .i64 0, .int .i64 20, .int .i64 1, .int .i64 0] 77)).heap.size := by have := hB.size; simp; omega
        clear rx ot ob rz rk hB
        go_wp2_with (at_builtin; refine wpList_append_bd rfl _ _ rfl w.heap.size _ 2 (dBS.take 2) rfl rfl ho w6.heap.size 1 (⟨0, 20, 1, 0⟩ : Bd) rfl rb (by omega) hsz ?_)
        intro v8 w8 ho8 hb8 hk8
        obtain ⟨rx, ot, rz, rk, hB⟩ := HA.out
        replace rx := hk8 _ _ _ (by decide) rx
        replace rz := hk8 _ _ _ (by decide) rz
        replace rk := hk8 _ _ _ (by decide) rk
        have ot8 : OwnTs w8 w.heap.size p5 2 c5 (qs ++ [((⟨x, c1, y, c2, none, 0, none, 0⟩, ⟨is, rs, nw, kBlue, 4, [], [], 0⟩) : TnP)]) := ⟨owns_kept ot.1 fun b tt l e r => hk8 b tt l (fun e2 => by subst e2; exact owns_ne ot.1 r (by decide) e) r, fun j hj => (ot.2.1 j hj).kept fun b tt l hb r => hk8 b tt l (fun e => by subst e; exact (ot.2.1 j hj).ne r (by decide) hb) r, ot.2.2⟩
        have hB8 := hB.trans hb8
        obtain ⟨p8, c8, rfl⟩ := owns_shapeT ho8
        clear HA hk8 hb8 hB ot ho rb hsz y1 m1
        have m1 : w8.cell? ⟨(w.heap.size + 1), 1, none⟩ = some (.slice pB 2 cB) := rx.cell 1
        have f1 := rx.frozen 1
        have hko : ∀ b tt l, b ≠ (w.heap.size + 1) → Row w8 b tt l → Row (w8.setCell ⟨(w.heap.size + 1), 1, none⟩ (.slice p8 3 c8)) b tt l := fun b tt l hne h => h.other 1 (.slice p8 3 c8) hne
        have HZ : Hid (Row (w8.setCell ⟨(w.heap.size + 1), 1, none⟩ (.slice p8 3 c8)) (w.heap.size + 1) 33 [.slice p5 2 c5, .slice p8 3 c8, .slice none 0 0, .int .i64 0] ∧ OwnTs (w8.setCell ⟨(w.heap.size + 1), 1, none⟩ (.slice p8 3 c8)) w.heap.size p5 2 c5 (qs ++ [((⟨x, c1, y, c2, none, 0, none, 0⟩, ⟨is, rs, nw, kBlue, 4, [], [], 0⟩) : TnP)]) ∧ (w8.setCell ⟨(w.heap.size + 1), 1, none⟩ (.slice p8 3 c8)).ownsRow w.heap.size 77 4 (.slice p8 3 c8) 3 (rowBd (dBS.take 3)) ∧ Row (w8.setCell ⟨(w.heap.size + 1), 1, none⟩ (.slice p8 3 c8)) w.heap.size 33 [.slice none 0 0, .slice none 0 0, .slice none 0 0, .int .i64 0] ∧ Row (w8.setCell ⟨(w.heap.size + 1), 1, none⟩ (.slice p8 3 c8)) (w.heap.size + 1 + 1) 9 [.string ⟨#[114, 101, 100]⟩, .string ⟨#[98, 108, 117, 101]⟩] ∧ Below w.heap.size w (w8.setCell ⟨(w.heap.size + 1), 1, none⟩ (.slice p8 3 c8))) := ⟨rx.set 1 (.slice p8 3 c8), ⟨owns_kept ot8.1 fun b tt l e r => hko b tt l (fun e2 => by subst e2; exact owns_ne ot8.1 rx (by decide) e) r, fun j hj => (ot8.2.1 j hj).kept fun b tt l hb r => hko b tt l (fun e2 => by subst e2; exact (ot8.2.1 j hj).ne rx (by decide) hb) r, ot8.2.2⟩, owns_kept ho8 fun b tt l e r => hko b tt l (fun e2 => by subst e2; exact owns_ne ho8 rx (by decide) e) r, hko _ _ _ (by omega) rz, hko _ _ _ (row_ne rk rx (by decide)) rk, hB8.setCell (p := ⟨(w.heap.size + 1), 1, none⟩) (by show w.heap.size ≤ w.heap.size + 1; omega) (.slice p8 3 c8)⟩
        clear rx rz rk ot8 hB8 ho8 hko
        go_upto_region 9 with fail
        clear m1 f1
        generalize (w8.setCell ⟨(w.heap.size + 1), 1, none⟩ (.slice p8 3 c8)) = w9 at *
        obtain ⟨rx, ot, ob, rz, rk, hB⟩ := HZ.out
        clear HZ
        have m1 : (w9.alloc (.cells #[.int .i64 0, .int .i64 21, .int .i64 1, .int .i64 1] 77)).cell? ⟨(w.heap.size + 1), 1, none⟩ = some (.slice p8 3 c8) := (rx.alloc (.cells #[.int .i64 0, .int .i64 21, .int .i64 1, .int .i64 1] 77)).cell 1
        have y1 : w9.cell? ⟨(w.heap.size + 1), 1, none⟩ = some (.slice p8 3 c8) := rx.cell 1
        have rb := Row.new w9 77 [.int .i64 0, .int .i64 21, .int .i64 1, .int .i64 1]
        have HA : Hid _ := And.intro (rx.alloc (.cells #[.int .i64 0, .int .i64 21, .int .i64 1, .int .i64 1] 77)) (And.intro (ot.below (ent_new0 w9 (.cells #[.int .i64 0, .int .i64 21, .int .i64 1, .int .i64 1] 77))) (And.intro (rz.alloc (.cells #[.int .i64 0, .int .i64 21, .int .i64 1, .int .i64 1] 77)) (And.intro (rk.alloc (.cells #[.int .i64 0, .int .i64 21, .int .i64 1, .int .i64 1] 77)) (hB.alloc hB.size (.cells #[.int .i64 0, .int .i64 21, .int .i64 1, .int .i64 1] 77)))))
        have ho := World.ownsRow.alloc ob (.cells #[.int .i64 0, .int .i64 21, .int .i64 1, .int .i64 1] 77)
        have hsz : w.heap.size ≤ (w9.alloc (.cells #[.int .i64 0, .int .i64 21, .int .i64 1, .int .i64 1] 77)).heap.size := by have := hB.size; simp; omega
        clear rx ot ob rz rk hB
        go_wp2_with (at_builtin; refine wpList_append_bd rfl _ _ rfl w.heap.size _ 3 (dBS.take 3) rfl rfl ho w9.heap.size 1 (⟨0, 21, 1, 1⟩ : Bd) rfl rb (by omega) hsz ?_)
        intro v10 w10 ho10 hb10 hk10
        obtain ⟨rx, ot, rz, rk, hB⟩ := HA.out
        replace rx := hk10 _ _ _ (by decide) rx
        replace rz := hk10 _ _ _ (by decide) rz
        replace rk := hk10 _ _ _ (by decide) rk
        have ot10 : OwnTs w10 w.heap.size p5 2 c5 (qs ++ [((⟨x, c1, y, c2, none, 0, none, 0⟩, ⟨is, rs, nw, kBlue, 4, [], [], 0⟩) : TnP)]) := ⟨owns_kept ot.1 fun b tt l e r => hk10 b tt l (fun e2 => by subst e2; exact owns_ne ot.1 r (by decide) e) r, fun j hj => (ot.2.1 j hj).kept fun b tt l hb r => hk10 b tt l (fun e => by subst e; exact (ot.2.1 j hj).ne r (by decide) hb) r, ot.2.2⟩
        have hB10 := hB.trans hb10
        obtain ⟨p10, c10, rfl⟩ := owns_shapeT ho10
        clear HA hk10 hb10 hB ot ho rb hsz y1 m1
        have m1 : w10.cell? ⟨(w.heap.size + 1), 1, none⟩ = some (.slice p8 3 c8) := rx.cell 1
        have f1 := rx.frozen 1
        have hko : ∀ b tt l, b ≠ (w.heap.size + 1) → Row w10 b tt l → Row (w10.setCell ⟨(w.heap.size + 1), 1, none⟩ (.slice p10 4 c10)) b tt l := fun b tt l hne h => h.other 1 (.slice p10 4 c10) hne
        have HZ : Hid (Row (w10.setCell ⟨(w.heap.size + 1), 1, none⟩ (.slice p10 4 c10)) (w.heap.size + 1) 33 [.slice p5 2 c5, .slice p10 4 c10, .slice none 0 0, .int .i64 0] ∧ OwnTs (w10.setCell ⟨(w.heap.size + 1), 1, none⟩ (.slice p10 4 c10)) w.heap.size p5 2 c5 (qs ++ [((⟨x, c1, y, c2, none, 0, none, 0⟩, ⟨is, rs, nw, kBlue, 4, [], [], 0⟩) : TnP)]) ∧ (w10.setCell ⟨(w.heap.size + 1), 1, none⟩ (.slice p10 4 c10)).ownsRow w.heap.size 77 4 (.slice p10 4 c10) 4 (rowBd (dBS.take 4)) ∧ Row (w10.setCell ⟨(w.heap.size + 1), 1, none⟩ (.slice p10 4 c10)) w.heap.size 33 [.slice none 0 0, .slice none 0 0, .slice none 0 0, .int .i64 0] ∧ Row (w10.setCell ⟨(w.heap.size + 1), 1, none⟩ (.slice p10 4 c10)) (w.heap.size + 1 + 1) 9 [.string ⟨#[114, 101, 100]⟩, .string ⟨#[98, 108, 117, 101]⟩] ∧ Below w.heap.size w (w10.setCell ⟨(w.heap.size + 1), 1, none⟩ (.slice p10 4 c10))) := ⟨rx.set 1 (.slice p10 4 c10), ⟨owns_kept ot10.1 fun b tt l e r => hko b tt l (fun e2 => by subst e2; exact owns_ne ot10.1 rx (by decide) e) r, fun j hj => (ot10.2.1 j hj).kept fun b tt l hb r => hko b tt l (fun e2 => by subst e2; exact (ot10.2.1 j hj).ne rx (by decide) hb) r, ot10.2.2⟩, owns_kept ho10 fun b tt l e r => hko b tt l (fun e2 => by subst e2; exact owns_ne ho10 rx (by decide) e) r, hko _ _ _ (by omega) rz, hko _ _ _ (row_ne rk rx (by decide)) rk, hB10.setCell (p := ⟨(w.heap.size + 1), 1, none⟩) (by show w.heap.size ≤ w.heap.size + 1; omega) (.slice p10 4 c10)⟩
        clear rx rz rk ot10 hB10 ho10 hko
        go_wp2_with fail
        clear m1 f1
        go_roundw
        case rel => exact ⟨2, by omega, by go_num, p5, c5, p10, c10, qs ++ [((⟨x, c1, y, c2, none, 0, none, 0⟩, ⟨is, rs, nw, kBlue, 4, [], [], 0⟩) : TnP)], HZ.out.1, HZ.out.2.1, HM2.out, HZ.out.2.2.1, HZ.out.2.2.2.1, HZ.out.2.2.2.2.1, HZ.out.2.2.2.2.2⟩
        case measure => simp [intOf]
    case inr.inr =>
      obtain ⟨pT, cT, pB, cB, qs, rx, ot, hm, ob, rz, rk, hB⟩ := hst
      replace rx : Row wr (w.heap.size + 1) 33 [.slice pT 2 cT, .slice pB 4 cB, .slice none 0 0, .int .i64 0] := rx
      replace ob : wr.ownsRow w.heap.size 77 4 (.slice pB 4 cB) 4 (rowBd dBS) := ob
      rw [show ((2 : Nat) : Int) = 2 from rfl]
      clear rk HN
      have x0 : wr.cell? ⟨(w.heap.size + 1), 0, none⟩ = some (.slice pT 2 cT) := rx.cell 0
      have x1 : wr.cell? ⟨(w.heap.size + 1), 1, none⟩ = some (.slice pB 4 cB) := rx.cell 1
      have x2 : wr.cell? ⟨(w.heap.size + 1), 2, none⟩ = some (.slice none 0 0) := rx.cell 2
      have x3 : wr.cell? ⟨(w.heap.size + 1), 3, none⟩ = some (.int .i64 0) := rx.cell 3
      have HM : Hid (qs.map (·.2) = dTS) := hm
      clear hm rx
      have z0 : wr.cell? ⟨w.heap.size, 0, none⟩ = some (.slice none 0 0) := rz.cell 0
      have z1 : wr.cell? ⟨w.heap.size, 1, none⟩ = some (.slice none 0 0) := rz.cell 1
      have z2 : wr.cell? ⟨w.heap.size, 2, none⟩ = some (.slice none 0 0) := rz.cell 2
      have z3 : wr.cell? ⟨w.heap.size, 3, none⟩ = some (.int .i64 0) := rz.cell 3
      have f0 : wr.frozen? ⟨w.heap.size, 0, none⟩ = false := rz.frozen 0
      have f1 : wr.frozen? ⟨w.heap.size, 1, none⟩ = false := rz.frozen 1
      have f2 : wr.frozen? ⟨w.heap.size, 2, none⟩ = false := rz.frozen 2
      have f3 : wr.frozen? ⟨w.heap.size, 3, none⟩ = false := rz.frozen 3
      have hko : ∀ g t l, g ≠ w.heap.size → Row wr g t l → Row ((((wr.setCell ⟨w.heap.size, 0, none⟩ (.slice pT 2 cT)).setCell ⟨w.heap.size, 1, none⟩ (.slice pB 4 cB)).setCell ⟨w.heap.size, 2, none⟩ (.slice none 0 0)).setCell ⟨w.heap.size, 3, none⟩ (.int .i64 0)) g t l := fun g t l hne h => ((((h.other 0 (.slice pT 2 cT) hne).other 1 (.slice pB 4 cB) hne).other 2 (.slice none 0 0) hne).other 3 (.int .i64 0) hne)
      have HE : Hid ((Row ((((wr.setCell ⟨w.heap.size, 0, none⟩ (.slice pT 2 cT)).setCell ⟨w.heap.size, 1, none⟩ (.slice pB 4 cB)).setCell ⟨w.heap.size, 2, none⟩ (.slice none 0 0)).setCell ⟨w.heap.size, 3, none⟩ (.int .i64 0)) w.heap.size 33 [.slice pT 2 cT, .slice pB 4 cB, .slice none 0 0, .int .i64 0] ∧ Below w.heap.size w ((((wr.setCell ⟨w.heap.size, 0, none⟩ (.slice pT 2 cT)).setCell ⟨w.heap.size, 1, none⟩ (.slice pB 4 cB)).setCell ⟨w.heap.size, 2, none⟩ (.slice none 0 0)).setCell ⟨w.heap.size, 3, none⟩ (.int .i64 0))) ∧ OwnTs ((((wr.setCell ⟨w.heap.size, 0, none⟩ (.slice pT 2 cT)).setCell ⟨w.heap.size, 1, none⟩ (.slice pB 4 cB)).setCell ⟨w.heap.size, 2, none⟩ (.slice none 0 0)).setCell ⟨w.heap.size, 3, none⟩ (.int .i64 0)) w.heap.size pT 2 cT qs ∧ ((((wr.setCell ⟨w.heap.size, 0, none⟩ (.slice pT 2 cT)).setCell ⟨w.heap.size, 1, none⟩ (.slice pB 4 cB)).setCell ⟨w.heap.size, 2, none⟩ (.slice none 0 0)).setCell ⟨w.heap.size, 3, none⟩ (.int .i64 0)).ownsRow w.heap.size 77 4 (.slice pB 4 cB) 4 (rowBd dBS)) := ⟨⟨((((rz.set 0 (.slice pT 2 cT)).set 1 (.slice pB 4 cB)).set 2 (.slice none 0 0)).set 3 (.int .i64 0)), ((((hB.setCell (p := ⟨w.heap.size, 0, none⟩) (Nat.le_refl _) (.slice pT 2 cT)).setCell (p := ⟨w.heap.size, 1, none⟩) (Nat.le_refl _) (.slice pB 4 cB)).setCell (p := ⟨w.heap.size, 2, none⟩) (Nat.le_refl _) (.slice none 0 0)).setCell (p := ⟨w.heap.size, 3, none⟩) (Nat.le_refl _) (.int .i64 0))⟩, ⟨owns_kept ot.1 fun b tt l e r => hko b tt l (fun e2 => by subst e2; exact owns_ne ot.1 rz (by decide) e) r, fun j hj => (ot.2.1 j hj).kept fun b tt l hb r => hko b tt l (fun e2 => by subst e2; exact (ot.2.1 j hj).ne rz (by decide) hb) r, ot.2.2⟩, owns_kept ob fun b tt l e r => hko b tt l (fun e2 => by subst e2; exact owns_ne ob rz (by decide) e) r⟩
      clear rz hB hko ot ob
      go_wp2_with fail
      obtain ⟨⟨k1, k2⟩, ot, ob⟩ := HE.out
      clear HE z0 f0 z1 f1 z2 f2 z3 f3
      generalize ((((wr.setCell ⟨w.heap.size, 0, none⟩ (.slice pT 2 cT)).setCell ⟨w.heap.size, 1, none⟩ (.slice pB 4 cB)).setCell ⟨w.heap.size, 2, none⟩ (.slice none 0 0)).setCell ⟨w.heap.size, 3, none⟩ (.int .i64 0)) = Y at *
      have e0 : Y.cell? ⟨w.heap.size, 0, none⟩ = some (.slice pT 2 cT) := k1.cell 0
      have e1 : Y.cell? ⟨w.heap.size, 1, none⟩ = some (.slice pB 4 cB) := k1.cell 1
      have e2 : Y.cell? ⟨w.heap.size, 2, none⟩ = some (.slice none 0 0) := k1.cell 2
      have e3 : Y.cell? ⟨w.heap.size, 3, none⟩ = some (.int .i64 0) := k1.cell 3
      exact bodyPost_ret (v := .agg #[.slice pT 2 cT, .slice pB 4 cB, .slice none 0 0, .int .i64 0]) (by simp [results, Tryz.results10, go_sem, e0, e1, e2, e3]) rfl ⟨⟨pT, cT, pB, cB, none, 0, rfl, ansX_of HM.out ⟨ot, ob, World.ownsRow_nil _ _ _ 6⟩⟩, k2⟩
end Go.Proofs.YtialedffpaoacaaGreatDoor
