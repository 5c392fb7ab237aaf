/- What stands behind a datagram's head, of the model. -/
import Derived.Test.YtchgnjpbjnkdmaaHeadS
namespace Go.Proofs.Ytchgnjpbjnkdmaa
open Go.RowKit

def bodyTx (sp dp : Int) (t : ByteArray) (sum : Int) : ByteArray := ⟨(bodyL sp dp t.data.toList sum).toArray⟩
theorem bodyTx_size (sp dp : Int) (t : ByteArray) (sum : Int) : (bodyTx sp dp t sum).size = 8 + t.size := by
  show (bodyL sp dp t.data.toList sum).toArray.size = _
  rw [List.size_toArray, bodyL_length]
  simp
theorem bodyT_eq (sp dp : Int) (t : ByteArray) (sum : Int) : wordT sp ++ wordT dp ++ wordT (8 + (t.size : Int)) ++ wordT sum ++ t = bodyTx sp dp t sum := by
  apply ByteArray.ext
  apply Array.toList_inj.1
  have e : t.data.toList.length = t.size := by simp
  simp only [bodyTx, bodyL, e]
  simp [wordT, wordsL]
set_option maxRecDepth 100000 in
set_option maxHeartbeats 1000000 in
theorem specBody_any (s d sp dp ttl : Int) (t : ByteArray) (sum : Int) (w : World) (hs0 : 0 ≤ sp ∧ sp ≤ 65535) (hd0 : 0 ≤ dp ∧ dp ≤ 65535) (hn : t.size ≤ 300) (hm0 : 0 ≤ sum ∧ sum ≤ 65535) :
    Calls Try.prog 83 #[dgV s d sp dp ttl t, .int .i64 sum] w fun e w' => e = .returned (.string (bodyTx sp dp t sum)) ∧ Below w.heap.size w w' := by
  rw [← bodyT_eq sp dp t sum]
  unfold dgV
  have HW1 : Hid (∀ w, Calls Try.prog 82 #[.int .i64 sp] w fun e w' => e = .returned (.string (wordT sp)) ∧ Below w.heap.size w w') := fun w => specWord_any _ w (by omega) (by omega)
  have HW2 : Hid (∀ w, Calls Try.prog 82 #[.int .i64 dp] w fun e w' => e = .returned (.string (wordT dp)) ∧ Below w.heap.size w w') := fun w => specWord_any _ w (by omega) (by omega)
  have HW3 : Hid (∀ w, Calls Try.prog 82 #[.int .i64 (8 + (t.size : Int))] w fun e w' => e = .returned (.string (wordT (8 + (t.size : Int)))) ∧ Below w.heap.size w w') := fun w => specWord_any _ w (by omega) (by omega)
  have HW4 : Hid (∀ w, Calls Try.prog 82 #[.int .i64 sum] w fun e w' => e = .returned (.string (wordT sum)) ∧ Below w.heap.size w w') := fun w => specWord_any _ w (by omega) (by omega)
  have hw1 := wrap_i64_in (8 + (t.size : Int)) (by omega) (by omega)
  have z1 := wordT_size sp
  have z2 := wordT_size dp
  have z3 := wordT_size (8 + (t.size : Int))
  have z4 := wordT_size sum
  have HR : Hid (Row (w.alloc (.cells #[.int .i64 s, .int .i64 d, .int .i64 sp, .int .i64 dp, .int .i64 ttl, .string t] 40)) w.heap.size 40 [.int .i64 s, .int .i64 d, .int .i64 sp, .int .i64 dp, .int .i64 ttl, .string t]) := Row.new w _ _
  generalize wordT sp = W1 at *
  generalize wordT dp = W2 at *
  generalize wordT (8 + (t.size : Int)) = W3 at *
  generalize wordT sum = W4 at *
  go_enter Try.func83, Try.ntmps83
  go_wp2_with fail
  have hGN : (([(5, Is (.pointer (some ⟨w.heap.size, 2, none⟩))), (6, Is (.int .i64 sp)), (7, Is (.string W1)), (8, Is (.pointer (some ⟨w.heap.size, 3, none⟩))), (9, Is (.int .i64 dp)), (10, Is (.string W2)), (11, Is (.string (W1 ++ W2))), (12, Is (.pointer (some ⟨w.heap.size, 5, none⟩))), (13, Is (.string t)), (14, Is (.int .i64 (t.size : Int))), (15, Is (.int .i64 (8 + (t.size : Int)))), (16, Is (.string W3)), (17, Is (.string (W1 ++ W2 ++ W3))), (18, Is (.int .i64 sum)), (19, Is (.string W4)), (20, Is (.string (W1 ++ W2 ++ W3 ++ W4))), (21, Is (.pointer (some ⟨w.heap.size, 5, none⟩))), (22, Is (.string t)), (23, Is (.string (W1 ++ W2 ++ W3 ++ W4 ++ t))), (4, Is (.string (W1 ++ W2 ++ W3 ++ W4 ++ t)))] : List (Nat × (Value → World → Prop))).map (·.1)).Nodup := by simp
  refine wp_region_steady 20 (SlotG [(5, Is (.pointer (some ⟨w.heap.size, 2, none⟩))), (6, Is (.int .i64 sp)), (7, Is (.string W1)), (8, Is (.pointer (some ⟨w.heap.size, 3, none⟩))), (9, Is (.int .i64 dp)), (10, Is (.string W2)), (11, Is (.string (W1 ++ W2))), (12, Is (.pointer (some ⟨w.heap.size, 5, none⟩))), (13, Is (.string t)), (14, Is (.int .i64 (t.size : Int))), (15, Is (.int .i64 (8 + (t.size : Int)))), (16, Is (.string W3)), (17, Is (.string (W1 ++ W2 ++ W3))), (18, Is (.int .i64 sum)), (19, Is (.string W4)), (20, Is (.string (W1 ++ W2 ++ W3 ++ W4))), (21, Is (.pointer (some ⟨w.heap.size, 5, none⟩))), (22, Is (.string t)), (23, Is (.string (W1 ++ W2 ++ W3 ++ W4 ++ t))), (4, Is (.string (W1 ++ W2 ++ W3 ++ W4 ++ t)))]) (by kernel_rfl) (by kernel_rfl) (Stabs.all ⟨stab_is _, stab_is _, stab_is _, stab_is _, stab_is _, stab_is _, stab_is _, stab_is _, stab_is _, stab_is _, stab_is _, stab_is _, stab_is _, stab_is _, stab_is _, stab_is _, stab_is _, stab_is _, stab_is _, stab_is _, trivial⟩) ?_ ?_
  · intro o ho
    simp only [List.take_succ_cons, List.take_zero, List.mem_cons, List.not_mem_nil, or_false] at ho
    rcases ho with rfl | rfl | rfl | rfl | rfl | rfl | rfl | rfl | rfl | rfl | rfl | rfl | rfl | rfl | rfl | rfl | rfl | rfl | rfl | rfl
    · intro a' w' hb ha hdep
      have d2 : a'.tmps.getD 2 undef = .pointer (some ⟨w.heap.size, 0, none⟩) := ha.at 2 (by kernel_rfl)
      have hmk := fun (x : Value) (W : World) => SlotG.mk (x := x) (w := W) 0 rfl hGN
      clear hGN ha hdep
      go_simp
      exact ⟨_, rfl, Below.refl _ _, hmk _ _ rfl⟩
    · intro a' w' hb ha hdep
      have d5 : a'.tmps.getD 5 undef = .pointer (some ⟨w.heap.size, 2, none⟩) := (hdep 5 (of_decide_eq_true (by kernel_rfl))).is 0 rfl
      have hmk := fun (x : Value) (W : World) => SlotG.mk (x := x) (w := W) 1 rfl hGN
      clear hGN ha hdep
      have c2 : w'.cell? ⟨w.heap.size, 2, none⟩ = some (.int .i64 sp) := (HR.out.below hb HR.out.lt).cell 2
      go_simp
      exact ⟨_, rfl, Below.refl _ _, hmk _ _ rfl⟩
    · intro a' w' hb ha hdep
      have d6 : a'.tmps.getD 6 undef = .int .i64 sp := (hdep 6 (of_decide_eq_true (by kernel_rfl))).is 1 rfl
      have hmk := fun (x : Value) (W : World) => SlotG.mk (x := x) (w := W) 2 rfl hGN
      clear hGN ha hdep
      go_simp
      refine (HW1.out _).mono ?_
      rintro e w2 ⟨rfl, hb2⟩
      exact ⟨_, rfl, hb2, hmk _ _ rfl⟩
    · intro a' w' hb ha hdep
      have d2 : a'.tmps.getD 2 undef = .pointer (some ⟨w.heap.size, 0, none⟩) := ha.at 2 (by kernel_rfl)
      have hmk := fun (x : Value) (W : World) => SlotG.mk (x := x) (w := W) 3 rfl hGN
      clear hGN ha hdep
      go_simp
      exact ⟨_, rfl, Below.refl _ _, hmk _ _ rfl⟩
    · intro a' w' hb ha hdep
      have d8 : a'.tmps.getD 8 undef = .pointer (some ⟨w.heap.size, 3, none⟩) := (hdep 8 (of_decide_eq_true (by kernel_rfl))).is 3 rfl
      have hmk := fun (x : Value) (W : World) => SlotG.mk (x := x) (w := W) 4 rfl hGN
      clear hGN ha hdep
      have c3 : w'.cell? ⟨w.heap.size, 3, none⟩ = some (.int .i64 dp) := (HR.out.below hb HR.out.lt).cell 3
      go_simp
      exact ⟨_, rfl, Below.refl _ _, hmk _ _ rfl⟩
    · intro a' w' hb ha hdep
      have d9 : a'.tmps.getD 9 undef = .int .i64 dp := (hdep 9 (of_decide_eq_true (by kernel_rfl))).is 4 rfl
      have hmk := fun (x : Value) (W : World) => SlotG.mk (x := x) (w := W) 5 rfl hGN
      clear hGN ha hdep
      go_simp
      refine (HW2.out _).mono ?_
      rintro e w2 ⟨rfl, hb2⟩
      exact ⟨_, rfl, hb2, hmk _ _ rfl⟩
    · intro a' w' hb ha hdep
      have d7 : a'.tmps.getD 7 undef = .string W1 := (hdep 7 (of_decide_eq_true (by kernel_rfl))).is 2 rfl
      have d10 : a'.tmps.getD 10 undef = .string W2 := (hdep 10 (of_decide_eq_true (by kernel_rfl))).is 5 rfl
      have hmk := fun (x : Value) (W : World) => SlotG.mk (x := x) (w := W) 6 rfl hGN
      clear hGN ha hdep
      have hs : ¬ 9223372036854775807 < W1.size + W2.size := by omega
      go_simp
      exact ⟨_, rfl, Below.refl _ _, hmk _ _ rfl⟩
    · intro a' w' hb ha hdep
      have d2 : a'.tmps.getD 2 undef = .pointer (some ⟨w.heap.size, 0, none⟩) := ha.at 2 (by kernel_rfl)
      have hmk := fun (x : Value) (W : World) => SlotG.mk (x := x) (w := W) 7 rfl hGN
      clear hGN ha hdep
      go_simp
      exact ⟨_, rfl, Below.refl _ _, hmk _ _ rfl⟩
    · intro a' w' hb ha hdep
      have d12 : a'.tmps.getD 12 undef = .pointer (some ⟨w.heap.size, 5, none⟩) := (hdep 12 (of_decide_eq_true (by kernel_rfl))).is 7 rfl
      have hmk := fun (x : Value) (W : World) => SlotG.mk (x := x) (w := W) 8 rfl hGN
      clear hGN ha hdep
      have c5 : w'.cell? ⟨w.heap.size, 5, none⟩ = some (.string t) := (HR.out.below hb HR.out.lt).cell 5
      go_simp
      exact ⟨_, rfl, Below.refl _ _, hmk _ _ rfl⟩
    · intro a' w' hb ha hdep
      have d13 : a'.tmps.getD 13 undef = .string t := (hdep 13 (of_decide_eq_true (by kernel_rfl))).is 8 rfl
      have hmk := fun (x : Value) (W : World) => SlotG.mk (x := x) (w := W) 9 rfl hGN
      clear hGN ha hdep
      go_simp
      exact ⟨_, rfl, Below.refl _ _, hmk _ _ rfl⟩
    · intro a' w' hb ha hdep
      have d14 : a'.tmps.getD 14 undef = .int .i64 (t.size : Int) := (hdep 14 (of_decide_eq_true (by kernel_rfl))).is 9 rfl
      have hmk := fun (x : Value) (W : World) => SlotG.mk (x := x) (w := W) 10 rfl hGN
      clear hGN ha hdep
      go_simp
      exact ⟨_, rfl, Below.refl _ _, hmk _ _ rfl⟩
    · intro a' w' hb ha hdep
      have d15 : a'.tmps.getD 15 undef = .int .i64 (8 + (t.size : Int)) := (hdep 15 (of_decide_eq_true (by kernel_rfl))).is 10 rfl
      have hmk := fun (x : Value) (W : World) => SlotG.mk (x := x) (w := W) 11 rfl hGN
      clear hGN ha hdep
      go_simp
      refine (HW3.out _).mono ?_
      rintro e w2 ⟨rfl, hb2⟩
      exact ⟨_, rfl, hb2, hmk _ _ rfl⟩
    · intro a' w' hb ha hdep
      have d11 : a'.tmps.getD 11 undef = .string (W1 ++ W2) := (hdep 11 (of_decide_eq_true (by kernel_rfl))).is 6 rfl
      have d16 : a'.tmps.getD 16 undef = .string W3 := (hdep 16 (of_decide_eq_true (by kernel_rfl))).is 11 rfl
      have hmk := fun (x : Value) (W : World) => SlotG.mk (x := x) (w := W) 12 rfl hGN
      clear hGN ha hdep
      have hs : ¬ 9223372036854775807 < W1.size + W2.size + W3.size := by omega
      go_simp
      exact ⟨_, rfl, Below.refl _ _, hmk _ _ rfl⟩
    · intro a' w' hb ha hdep
      have d1 : a'.tmps.getD 1 undef = .int .i64 sum := ha.at 1 (by kernel_rfl)
      have hmk := fun (x : Value) (W : World) => SlotG.mk (x := x) (w := W) 13 rfl hGN
      clear hGN ha hdep
      go_simp
      exact ⟨_, rfl, Below.refl _ _, hmk _ _ rfl⟩
    · intro a' w' hb ha hdep
      have d18 : a'.tmps.getD 18 undef = .int .i64 sum := (hdep 18 (of_decide_eq_true (by kernel_rfl))).is 13 rfl
      have hmk := fun (x : Value) (W : World) => SlotG.mk (x := x) (w := W) 14 rfl hGN
      clear hGN ha hdep
      go_simp
      refine (HW4.out _).mono ?_
      rintro e w2 ⟨rfl, hb2⟩
      exact ⟨_, rfl, hb2, hmk _ _ rfl⟩
    · intro a' w' hb ha hdep
      have d17 : a'.tmps.getD 17 undef = .string (W1 ++ W2 ++ W3) := (hdep 17 (of_decide_eq_true (by kernel_rfl))).is 12 rfl
      have d19 : a'.tmps.getD 19 undef = .string W4 := (hdep 19 (of_decide_eq_true (by kernel_rfl))).is 14 rfl
      have hmk := fun (x : Value) (W : World) => SlotG.mk (x := x) (w := W) 15 rfl hGN
      clear hGN ha hdep
      have hs : ¬ 9223372036854775807 < W1.size + W2.size + W3.size + W4.size := by omega
      go_simp
      exact ⟨_, rfl, Below.refl _ _, hmk _ _ rfl⟩
    · intro a' w' hb ha hdep
      have d2 : a'.tmps.getD 2 undef = .pointer (some ⟨w.heap.size, 0, none⟩) := ha.at 2 (by kernel_rfl)
      have hmk := fun (x : Value) (W : World) => SlotG.mk (x := x) (w := W) 16 rfl hGN
      clear hGN ha hdep
      go_simp
      exact ⟨_, rfl, Below.refl _ _, hmk _ _ rfl⟩
    · intro a' w' hb ha hdep
      have d21 : a'.tmps.getD 21 undef = .pointer (some ⟨w.heap.size, 5, none⟩) := (hdep 21 (of_decide_eq_true (by kernel_rfl))).is 16 rfl
      have hmk := fun (x : Value) (W : World) => SlotG.mk (x := x) (w := W) 17 rfl hGN
      clear hGN ha hdep
      have c5 : w'.cell? ⟨w.heap.size, 5, none⟩ = some (.string t) := (HR.out.below hb HR.out.lt).cell 5
      go_simp
      exact ⟨_, rfl, Below.refl _ _, hmk _ _ rfl⟩
    · intro a' w' hb ha hdep
      have d20 : a'.tmps.getD 20 undef = .string (W1 ++ W2 ++ W3 ++ W4) := (hdep 20 (of_decide_eq_true (by kernel_rfl))).is 15 rfl
      have d22 : a'.tmps.getD 22 undef = .string t := (hdep 22 (of_decide_eq_true (by kernel_rfl))).is 17 rfl
      have hmk := fun (x : Value) (W : World) => SlotG.mk (x := x) (w := W) 18 rfl hGN
      clear hGN ha hdep
      have hs : ¬ 9223372036854775807 < 8 + t.size := by omega
      go_simp
      exact ⟨_, rfl, Below.refl _ _, hmk _ _ rfl⟩
    · intro a' w' hb ha hdep
      have d23 : a'.tmps.getD 23 undef = .string (W1 ++ W2 ++ W3 ++ W4 ++ t) := (hdep 23 (of_decide_eq_true (by kernel_rfl))).is 18 rfl
      have hmk := fun (x : Value) (W : World) => SlotG.mk (x := x) (w := W) 19 rfl hGN
      clear hGN ha hdep
      go_simp
      exact ⟨_, rfl, Below.refl _ _, hmk _ _ rfl⟩
  · intro a' w' hb ha hG
    clear hGN
    have d4 : a'.tmps.getD 4 undef = .string (W1 ++ W2 ++ W3 ++ W4 ++ t) := (hG _ (List.mem_of_getElem? (i := 19) rfl) 4 rfl).is 19 rfl
    simp only [List.drop_succ_cons, List.drop_zero]
    have hB := (new_below0 w (.cells #[.int .i64 s, .int .i64 d, .int .i64 sp, .int .i64 dp, .int .i64 ttl, .string t] 40)).trans (hb.mono (by simp))
    obtain ⟨T, D⟩ := a'
    obtain rfl : D = [] := ha.2.1
    clear hb hG ha
    go_wp2
    go_ret
    exact ⟨congrArg Ending.returned d4, hB⟩
end Go.Proofs.Ytchgnjpbjnkdmaa
