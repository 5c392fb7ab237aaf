/- A frame's bytes, of the model. -/
import Derived.Test.YtchgnjpbjnkdmaaStabW
import Derived.Test.YtchgnjpbjnkdmaaWordS
import Derived.Test.YtchgnjpbjnkdmaaFrameR
import Derived.Test.YtchgnjpbjnkdmaaTwoCells
namespace Go.Proofs.Ytchgnjpbjnkdmaa
open Go.RowKit

def zerosT (n : Nat) : ByteArray := ⟨(List.replicate n 0).toArray⟩
theorem zerosT_size (n : Nat) : (zerosT n).size = n := by simp [zerosT, ByteArray.size]
theorem make_bytes_run (w : World) (n : Nat) (hn : n ≤ 100000) :
    ∃ w', (Instr.makeSlice 22 (.int .i64 (n : Int)) (.int .i64 (n : Int))).run Try.prog w = .ok (.slice (some ⟨w.heap.size, 0, none⟩) n n) w' ∧ RowB w' w.heap.size 5 (List.replicate n 0) ∧ Below w.heap.size w w' := by
  obtain ⟨i0, hi0, hz0, hz1, hz2⟩ := info_parts Try.infoB
  obtain ⟨w', hrun, hown, hgrow⟩ := run_make_full (P := Try.prog) w w.heap.size 22 5 i0 (.int .u8 0) 1 Try.underlying22 hi0 hz0 hz1 .i64 .i64 n (by rw [hz2]; omega) (by unfold maxLen; omega) (Nat.le_refl _)
  refine ⟨w', hrun, ?_, (Below.refl _ _).grown hgrow (Nat.le_refl _) (by intro k hk; cases hk)⟩
  rcases hown.2 with ⟨h', _⟩ | ⟨g, cap, cur, h', hbg, hg, hnc, hcm, hcs, htake⟩
  · simp at h'
  · simp only [Value.slice.injEq, Option.some.injEq, Addr.mk.injEq, and_true, true_and] at h'
    obtain ⟨rfl, rfl⟩ := h'
    unfold RowB
    rw [hg]
    have e1 : cur.toList = (madeCells (Value.int IntKind.u8 0).cells (n * 1)).toList := by
      rw [← htake, List.take_of_length_le (by simp [hcs])]
    have e2 : (madeCells (Value.int IntKind.u8 0).cells (n * 1)).toList = cellsB (List.replicate n 0) := by
      simp [cellsB, madeCells, Value.cells]
      rw [List.eq_replicate_iff]
      simp [Nat.mod_one]
    rw [e2] at e1
    rw [← e1]
set_option maxRecDepth 100000 in
theorem specFrame_any (v : Int) (t : ByteArray) (w : World) (h0 : 1 ≤ v) (h1 : v ≤ 4094) (ht : t.size ≤ 1000) :
    Calls Try.prog 73 #[.agg #[.int .i64 v, .string t]] w fun e w' => e = .returned (.string (zerosT 12 ++ wordT 33024 ++ wordT v ++ wordT 2048 ++ t)) ∧ Below w.heap.size w w' := by
  have HW : Hid ((w.alloc (.cells #[.int .i64 v, .string t] 43)).cell? ⟨w.heap.size, 0, none⟩ = some (.int .i64 v) ∧ (w.alloc (.cells #[.int .i64 v, .string t] 43)).cell? ⟨w.heap.size, 1, none⟩ = some (.string t)) := TwoAt.new w _ _ _
  go_enter Try.func73, Try.ntmps73
  go_wp2_with fail
  have hGN : (([(2, Is (.string (zerosT 12 ++ wordT 33024 ++ wordT v ++ wordT 2048 ++ t))), (3, fun x W => ∃ g, x = .slice (some ⟨g, 0, none⟩) 12 12 ∧ RowB W g 5 (List.replicate 12 0)), (4, Is (.string (zerosT 12))), (5, Is (.string (wordT 33024))), (6, Is (.string (zerosT 12 ++ wordT 33024))), (7, Is (.pointer (some ⟨w.heap.size, 0, none⟩))), (8, Is (.int .i64 v)), (9, Is (.string (wordT v))), (10, Is (.string (zerosT 12 ++ wordT 33024 ++ wordT v))), (11, Is (.string (wordT 2048))), (12, Is (.string (zerosT 12 ++ wordT 33024 ++ wordT v ++ wordT 2048))), (13, Is (.pointer (some ⟨w.heap.size, 1, none⟩))), (14, Is (.string t)), (15, Is (.string (zerosT 12 ++ wordT 33024 ++ wordT v ++ wordT 2048 ++ t)))] : List (Nat × (Value → World → Prop))).map (·.1)).Nodup := by simp
  refine wp_region_steady 14 (SlotG [(2, Is (.string (zerosT 12 ++ wordT 33024 ++ wordT v ++ wordT 2048 ++ t))), (3, fun x W => ∃ g, x = .slice (some ⟨g, 0, none⟩) 12 12 ∧ RowB W g 5 (List.replicate 12 0)), (4, Is (.string (zerosT 12))), (5, Is (.string (wordT 33024))), (6, Is (.string (zerosT 12 ++ wordT 33024))), (7, Is (.pointer (some ⟨w.heap.size, 0, none⟩))), (8, Is (.int .i64 v)), (9, Is (.string (wordT v))), (10, Is (.string (zerosT 12 ++ wordT 33024 ++ wordT v))), (11, Is (.string (wordT 2048))), (12, Is (.string (zerosT 12 ++ wordT 33024 ++ wordT v ++ wordT 2048))), (13, Is (.pointer (some ⟨w.heap.size, 1, none⟩))), (14, Is (.string t)), (15, Is (.string (zerosT 12 ++ wordT 33024 ++ wordT v ++ wordT 2048 ++ t)))]) (by kernel_rfl) (by kernel_rfl) (Stabs.all ⟨stab_is _, stab_rowB 12 (List.replicate 12 0), stab_is _, stab_is _, stab_is _, stab_is _, stab_is _, stab_is _, stab_is _, stab_is _, stab_is _, stab_is _, stab_is _, stab_is _, trivial⟩) ?_ ?_
  · intro o ho
    simp only [List.take_succ_cons, List.take_zero, List.mem_cons, List.not_mem_nil, or_false] at ho
    rcases ho with rfl | rfl | rfl | rfl | rfl | rfl | rfl | rfl | rfl | rfl | rfl | rfl | rfl | rfl
    · intro a' w' hb ha hdep
      have hmk := fun (x : Value) (W : World) => SlotG.mk (x := x) (w := W) 1 rfl hGN
      clear hGN ha hdep
      obtain ⟨w2, hrun, hr2, hb2⟩ := make_bytes_run w' 12 (by omega)
      rw [show ((12 : Nat) : Int) = 12 from rfl] at hrun
      go_simp
      exact ⟨_, rfl, hmk _ _ ⟨w'.heap.size, rfl, hr2⟩⟩
    · intro a' w' hb ha hdep
      have D3 := (hdep 3 (of_decide_eq_true (by kernel_rfl))).get 1 rfl
      have hmk := fun (x : Value) (W : World) => SlotG.mk (x := x) (w := W) 2 rfl hGN
      clear hGN ha hdep
      obtain ⟨g, d3, hr3⟩ := D3
      have hconv := hr3.conv (zerosT 12) (by simp [zerosT]) (n := 12) rfl (by omega)
      go_simp
      exact ⟨_, rfl, Below.refl _ _, hmk _ _ rfl⟩
    · intro a' w' hb ha hdep
      have hmk := fun (x : Value) (W : World) => SlotG.mk (x := x) (w := W) 3 rfl hGN
      clear hGN ha hdep
      go_simp
      refine (specWord_any 33024 _ (by omega) (by omega)).mono ?_
      rintro e w2 ⟨rfl, hb2⟩
      exact ⟨_, rfl, hb2, hmk _ _ rfl⟩
    · intro a' w' hb ha hdep
      have d4 : a'.tmps.getD 4 undef = .string (zerosT 12) := (hdep 4 (of_decide_eq_true (by kernel_rfl))).is 2 rfl
      have d5 : a'.tmps.getD 5 undef = .string (wordT 33024) := (hdep 5 (of_decide_eq_true (by kernel_rfl))).is 3 rfl
      have hmk := fun (x : Value) (W : World) => SlotG.mk (x := x) (w := W) 4 rfl hGN
      clear hGN ha hdep
      have hs : ¬ 9223372036854775807 < (zerosT 12).size + (wordT 33024).size := by simp only [wordT_size, zerosT_size]; omega
      go_simp
      exact ⟨_, rfl, Below.refl _ _, hmk _ _ rfl⟩
    · intro a' w' hb ha hdep
      have d1 : a'.tmps.getD 1 undef = .pointer (some ⟨w.heap.size, 0, none⟩) := ha.at 1 (by kernel_rfl)
      have hmk := fun (x : Value) (W : World) => SlotG.mk (x := x) (w := W) 5 rfl hGN
      clear hGN ha hdep
      go_simp
      exact ⟨_, rfl, Below.refl _ _, hmk _ _ rfl⟩
    · intro a' w' hb ha hdep
      have d7 : a'.tmps.getD 7 undef = .pointer (some ⟨w.heap.size, 0, none⟩) := (hdep 7 (of_decide_eq_true (by kernel_rfl))).is 5 rfl
      have hmk := fun (x : Value) (W : World) => SlotG.mk (x := x) (w := W) 6 rfl hGN
      clear hGN ha hdep
      have c : w'.cell? ⟨w.heap.size, 0, none⟩ = some (.int .i64 v) := by rw [hb.cell (p := ⟨w.heap.size, 0, none⟩) (by simp)]; exact HW.out.1
      go_simp
      exact ⟨_, rfl, Below.refl _ _, hmk _ _ rfl⟩
    · intro a' w' hb ha hdep
      have d8 : a'.tmps.getD 8 undef = .int .i64 v := (hdep 8 (of_decide_eq_true (by kernel_rfl))).is 6 rfl
      have hmk := fun (x : Value) (W : World) => SlotG.mk (x := x) (w := W) 7 rfl hGN
      clear hGN ha hdep
      go_simp
      refine (specWord_any v _ (by omega) (by omega)).mono ?_
      rintro e w2 ⟨rfl, hb2⟩
      exact ⟨_, rfl, hb2, hmk _ _ rfl⟩
    · intro a' w' hb ha hdep
      have d6 : a'.tmps.getD 6 undef = .string (zerosT 12 ++ wordT 33024) := (hdep 6 (of_decide_eq_true (by kernel_rfl))).is 4 rfl
      have d9 : a'.tmps.getD 9 undef = .string (wordT v) := (hdep 9 (of_decide_eq_true (by kernel_rfl))).is 7 rfl
      have hmk := fun (x : Value) (W : World) => SlotG.mk (x := x) (w := W) 8 rfl hGN
      clear hGN ha hdep
      have hs : ¬ 9223372036854775807 < (zerosT 12).size + (wordT 33024).size + (wordT v).size := by simp only [wordT_size, zerosT_size]; omega
      go_simp
      exact ⟨_, rfl, Below.refl _ _, hmk _ _ rfl⟩
    · intro a' w' hb ha hdep
      have hmk := fun (x : Value) (W : World) => SlotG.mk (x := x) (w := W) 9 rfl hGN
      clear hGN ha hdep
      go_simp
      refine (specWord_any 2048 _ (by omega) (by omega)).mono ?_
      rintro e w2 ⟨rfl, hb2⟩
      exact ⟨_, rfl, hb2, hmk _ _ rfl⟩
    · intro a' w' hb ha hdep
      have d10 : a'.tmps.getD 10 undef = .string (zerosT 12 ++ wordT 33024 ++ wordT v) := (hdep 10 (of_decide_eq_true (by kernel_rfl))).is 8 rfl
      have d11 : a'.tmps.getD 11 undef = .string (wordT 2048) := (hdep 11 (of_decide_eq_true (by kernel_rfl))).is 9 rfl
      have hmk := fun (x : Value) (W : World) => SlotG.mk (x := x) (w := W) 10 rfl hGN
      clear hGN ha hdep
      have hs : ¬ 9223372036854775807 < (zerosT 12).size + (wordT 33024).size + (wordT v).size + (wordT 2048).size := by simp only [wordT_size, zerosT_size]; omega
      go_simp
      exact ⟨_, rfl, Below.refl _ _, hmk _ _ rfl⟩
    · intro a' w' hb ha hdep
      have d1 : a'.tmps.getD 1 undef = .pointer (some ⟨w.heap.size, 0, none⟩) := ha.at 1 (by kernel_rfl)
      have hmk := fun (x : Value) (W : World) => SlotG.mk (x := x) (w := W) 11 rfl hGN
      clear hGN ha hdep
      go_simp
      exact ⟨_, rfl, Below.refl _ _, hmk _ _ rfl⟩
    · intro a' w' hb ha hdep
      have d13 : a'.tmps.getD 13 undef = .pointer (some ⟨w.heap.size, 1, none⟩) := (hdep 13 (of_decide_eq_true (by kernel_rfl))).is 11 rfl
      have hmk := fun (x : Value) (W : World) => SlotG.mk (x := x) (w := W) 12 rfl hGN
      clear hGN ha hdep
      have c : w'.cell? ⟨w.heap.size, 1, none⟩ = some (.string t) := by rw [hb.cell (p := ⟨w.heap.size, 1, none⟩) (by simp)]; exact HW.out.2
      go_simp
      exact ⟨_, rfl, Below.refl _ _, hmk _ _ rfl⟩
    · intro a' w' hb ha hdep
      have d12 : a'.tmps.getD 12 undef = .string (zerosT 12 ++ wordT 33024 ++ wordT v ++ wordT 2048) := (hdep 12 (of_decide_eq_true (by kernel_rfl))).is 10 rfl
      have d14 : a'.tmps.getD 14 undef = .string t := (hdep 14 (of_decide_eq_true (by kernel_rfl))).is 12 rfl
      have hmk := fun (x : Value) (W : World) => SlotG.mk (x := x) (w := W) 13 rfl hGN
      clear hGN ha hdep
      have hs : ¬ 9223372036854775807 < (zerosT 12).size + (wordT 33024).size + (wordT v).size + (wordT 2048).size + (t).size := by simp only [wordT_size, zerosT_size]; omega
      go_simp
      exact ⟨_, rfl, Below.refl _ _, hmk _ _ rfl⟩
    · intro a' w' hb ha hdep
      have d15 : a'.tmps.getD 15 undef = .string (zerosT 12 ++ wordT 33024 ++ wordT v ++ wordT 2048 ++ t) := (hdep 15 (of_decide_eq_true (by kernel_rfl))).is 13 rfl
      have hmk := fun (x : Value) (W : World) => SlotG.mk (x := x) (w := W) 0 rfl hGN
      clear hGN ha hdep
      go_simp
      exact ⟨_, rfl, Below.refl _ _, hmk _ _ rfl⟩
  · intro a' w' hb ha hG
    clear hGN
    have d2 : a'.tmps.getD 2 undef = .string (zerosT 12 ++ wordT 33024 ++ wordT v ++ wordT 2048 ++ t) := (hG _ (List.mem_of_getElem? (i := 13) rfl) 2 rfl).is 0 rfl
    simp only [List.drop_succ_cons, List.drop_zero]
    have hB := (new_below w (.cells #[.int .i64 v, .string t] 43)).trans (hb.mono (by simp))
    obtain ⟨T, D⟩ := a'
    obtain rfl : D = [] := ha.2.1
    clear hb hG ha
    go_wp2
    go_ret
    exact ⟨congrArg Ending.returned d2, hB⟩
/-- FrameBytes. -/
def frT (v : Int) (t : ByteArray) : ByteArray := ⟨(frL v t.data.toList).toArray⟩
theorem frT_eq (v : Int) (t : ByteArray) : zerosT 12 ++ wordT 33024 ++ wordT v ++ wordT 2048 ++ t = frT v t := by
  apply ByteArray.ext
  apply Array.toList_inj.1
  have e0 : wordL 0 = [0, 0] := rfl
  simp [zerosT, wordT, frT, frL, wordsL, e0, List.replicate]
def frO (v : Int) (t : ByteArray) : ByteArray := if frB v t.size then frT v t else ByteArray.empty
theorem frO_in (v : Int) (t : ByteArray) (h : frB v t.size = true) : frO v t = frT v t := if_pos h
theorem frO_out (v : Int) (t : ByteArray) (h : ¬ frB v t.size = true) : frO v t = ByteArray.empty := if_neg h
theorem frB_spec {v : Int} {n : Nat} (h : frB v n = true) : 1 ≤ v ∧ v ≤ 4094 ∧ n ≤ 1000 := of_decide_eq_true h
set_option maxRecDepth 100000 in
theorem specFrameBytes_any (v : Int) (t : ByteArray) (w : World) :
    Calls Try.prog 35 #[.agg #[.int .i64 v, .string t]] w fun e w' => e = .returned (.string (frO v t)) ∧ Below w.heap.size w w' := by
  have HR : Hid (∀ w, Calls Try.prog 43 #[.agg #[.int .i64 v, .string t]] w fun e w' => e = .returned (.bool (frB v t.size)) ∧ Below w.heap.size w w') := specFrameRight_any v t
  by_cases hR : frB v t.size = true
  · rw [frO_in v t hR]
    rw [hR] at HR
    obtain ⟨h0, h1, h2⟩ := frB_spec hR
    have HF : Hid (∀ w, Calls Try.prog 73 #[.agg #[.int .i64 v, .string t]] w fun e w' => e = .returned (.string (frT v t)) ∧ Below w.heap.size w w') := by
      intro w; rw [← frT_eq]; exact specFrame_any v t w h0 h1 h2
    go_enter Try.func35, Try.ntmps35
    go_wp2_with fail
    refine (HR.out _).mono ?_
    rintro e w1 ⟨rfl, hb1⟩
    obtain ⟨c0, c1⟩ := (TwoAt.new w (.int .i64 v) (.string t) 43).below hb1
    have hB1 := after_next (new_below w (.cells #[.int .i64 v, .string t] 43)) hb1 (by simp)
    clear hb1
    go_wp2_with fail
    refine (HF.out _).mono ?_
    rintro e w2 ⟨rfl, hb2⟩
    have hB2 := after_next hB1 hb2 hB1.size
    go_wp2
    go_ret
    exact ⟨rfl, hB2⟩
  · rw [frO_out v t hR]
    rw [show frB v t.size = false by simpa using hR] at HR
    go_enter Try.func35, Try.ntmps35
    go_wp2_with fail
    refine (HR.out _).mono ?_
    rintro e w1 ⟨rfl, hb1⟩
    have hB1 := after_next (new_below w (.cells #[.int .i64 v, .string t] 43)) hb1 (by simp)
    go_wp2
    go_ret
    exact ⟨rfl, hB1⟩
end Go.Proofs.Ytchgnjpbjnkdmaa
