/- DgramRead of the model. -/
import Derived.Test.YtchgnjpbjnkdmaaDReadM
import Derived.Test.YtchgnjpbjnkdmaaStabW
namespace Go.Proofs.Ytchgnjpbjnkdmaa
open Go.RowKit

theorem cut_to (t : ByteArray) (a b : Nat) (x y : Int) (hx : x = a) (hy : y = b) (hab : a ≤ b) (hb : b ≤ t.size) (w : World) : (Instr.slice 9 (.string t) (some (.int .i64 x)) (some (.int .i64 y)) none).run Try.prog w = .ok (.string (t.extract a b)) w := by
  rw [run_slice_string _ _ _ _ _ _ _ Try.underlying9 (by omega) (by omega) (by omega), hx, hy]; rfl
theorem cut_on (t : ByteArray) (i : Int) (n : Nat) (hi : i = n) (hn : n ≤ t.size) (w : World) : (Instr.slice 9 (.string t) (some (.int .i64 i)) none none).run Try.prog w = .ok (.string (t.extract n t.size)) w := by
  rw [run_slice_string_from_if _ _ _ _ _ Try.underlying9, if_pos (by omega), hi]; rfl
theorem cut_upto (t : ByteArray) (i : Int) (n : Nat) (hi : i = n) (hn : n ≤ t.size) (w : World) : (Instr.slice 9 (.string t) none (some (.int .i64 i)) none).run Try.prog w = .ok (.string (t.extract 0 n)) w := by
  rw [run_slice_string_to_if _ _ _ _ _ Try.underlying9, if_pos (by omega), hi]; rfl
def bareZT (t : ByteArray) : ByteArray := ⟨(bareZ t.data.toList).toArray⟩
theorem bareZT_eq (t : ByteArray) : t.extract 0 10 ++ wordT 0 ++ t.extract 12 26 ++ wordT 0 ++ t.extract 28 t.size = bareZT t := by
  apply ByteArray.ext
  apply Array.toList_inj.1
  have hts : t.data.toList.length = t.size := by simp
  have e0 : wordL 0 = [0, 0] := rfl
  have e1 := cutL_extract t 0 10
  have e2 := cutL_extract t 12 26
  have e3 := cutL_extract t 28 t.size
  have e4 : cutL t.data.toList 28 t.size = t.data.toList.drop 28 := by unfold cutL; rw [← hts, List.take_length]
  have e5 : cutL t.data.toList 12 26 = (t.data.toList.drop 12).take 14 := by unfold cutL; rw [List.drop_take]
  have e6 : cutL t.data.toList 0 10 = t.data.toList.take 10 := rfl
  simp only [ByteArray.data_append, Array.toList_append, e1, e2, e3, e4, e5, e6, wordT, bareZT, bareZ, e0, List.append_assoc]
set_option maxRecDepth 100000 in
set_option maxHeartbeats 1000000 in
theorem specBare_any (t : ByteArray) (w : World) (h : 28 ≤ t.size) (h8 : t.size ≤ 8000) :
    Calls Try.prog 75 #[.string t] w fun e w' => e = .returned (.string (bareZT t)) ∧ Below w.heap.size w w' := by
  rw [← bareZT_eq]
  have HS1 : Hid (∀ w, (Instr.slice 9 (.string t) none (some (.int .i64 10)) none).run Try.prog w = .ok (.string (t.extract 0 10)) w) := fun w => cut_upto t 10 10 rfl (by omega) w
  have HS2 : Hid (∀ w, (Instr.slice 9 (.string t) (some (.int .i64 12)) (some (.int .i64 26)) none).run Try.prog w = .ok (.string (t.extract 12 26)) w) := fun w => cut_to t 12 26 12 26 rfl rfl (by omega) (by omega) w
  have HS3 : Hid (∀ w, (Instr.slice 9 (.string t) (some (.int .i64 28)) none none).run Try.prog w = .ok (.string (t.extract 28 t.size)) w) := fun w => cut_on t 28 28 rfl (by omega) w
  have HZ : Hid (∀ w, Calls Try.prog 82 #[.int .i64 0] w fun e w' => e = .returned (.string (wordT 0)) ∧ Below w.heap.size w w') := fun w => specWord_any 0 w (by omega) (by omega)
  have z1 : (t.extract 0 10).size ≤ 8000 := by simp; omega
  have z2 : (t.extract 12 26).size ≤ 8000 := by simp; omega
  have z3 : (t.extract 28 t.size).size ≤ 8000 := by simp; omega
  have z0 : (wordT 0).size ≤ 2 := by rw [wordT_size]; omega
  generalize t.extract 0 10 = T1 at *
  generalize t.extract 12 26 = T2 at *
  generalize t.extract 28 t.size = T3 at *
  generalize wordT 0 = Z0 at *
  go_enter Try.func75, Try.ntmps75
  go_wp2_with fail
  have hGN : (([(3, Is (.string t)), (4, Is (.string T1)), (5, Is (.string Z0)), (6, Is (.string (T1 ++ Z0))), (7, Is (.string t)), (8, Is (.string T2)), (9, Is (.string (T1 ++ Z0 ++ T2))), (10, Is (.string Z0)), (11, Is (.string (T1 ++ Z0 ++ T2 ++ Z0))), (12, Is (.string t)), (13, Is (.string T3)), (14, Is (.string (T1 ++ Z0 ++ T2 ++ Z0 ++ T3))), (2, Is (.string (T1 ++ Z0 ++ T2 ++ Z0 ++ T3)))] : List (Nat × (Value → World → Prop))).map (·.1)).Nodup := by simp
  refine wp_region_steady 13 (SlotG [(3, Is (.string t)), (4, Is (.string T1)), (5, Is (.string Z0)), (6, Is (.string (T1 ++ Z0))), (7, Is (.string t)), (8, Is (.string T2)), (9, Is (.string (T1 ++ Z0 ++ T2))), (10, Is (.string Z0)), (11, Is (.string (T1 ++ Z0 ++ T2 ++ Z0))), (12, Is (.string t)), (13, Is (.string T3)), (14, Is (.string (T1 ++ Z0 ++ T2 ++ Z0 ++ T3))), (2, Is (.string (T1 ++ Z0 ++ T2 ++ Z0 ++ T3)))]) (by kernel_rfl) (by kernel_rfl) (Stabs.all ⟨stab_is _, stab_is _, stab_is _, stab_is _, stab_is _, stab_is _, stab_is _, stab_is _, stab_is _, stab_is _, stab_is _, stab_is _, stab_is _, trivial⟩) ?_ ?_
  · intro o ho
    simp only [List.take_succ_cons, List.take_zero, List.mem_cons, List.not_mem_nil, or_false] at ho
    rcases ho with rfl | rfl | rfl | rfl | rfl | rfl | rfl | rfl | rfl | rfl | rfl | rfl | rfl
    · intro a' w' hb ha hdep
      have d0 : a'.tmps.getD 0 undef = .string t := ha.at 0 (by kernel_rfl)
      have hmk := fun (x : Value) (W : World) => SlotG.mk (x := x) (w := W) 0 rfl hGN
      clear hGN ha hdep
      go_simp
      exact ⟨_, rfl, Below.refl _ _, hmk _ _ rfl⟩
    · intro a' w' hb ha hdep
      have d3 : a'.tmps.getD 3 undef = .string t := (hdep 3 (of_decide_eq_true (by kernel_rfl))).is 0 rfl
      have hmk := fun (x : Value) (W : World) => SlotG.mk (x := x) (w := W) 1 rfl hGN
      clear hGN ha hdep
      have hs := HS1.out w'
      go_simp
      exact ⟨_, rfl, Below.refl _ _, hmk _ _ rfl⟩
    · intro a' w' hb ha hdep
      have hmk := fun (x : Value) (W : World) => SlotG.mk (x := x) (w := W) 2 rfl hGN
      clear hGN ha hdep
      go_simp
      refine (HZ.out _).mono ?_
      rintro e w2 ⟨rfl, hb2⟩
      exact ⟨_, rfl, hb2, hmk _ _ rfl⟩
    · intro a' w' hb ha hdep
      have d4 : a'.tmps.getD 4 undef = .string T1 := (hdep 4 (of_decide_eq_true (by kernel_rfl))).is 1 rfl
      have d5 : a'.tmps.getD 5 undef = .string Z0 := (hdep 5 (of_decide_eq_true (by kernel_rfl))).is 2 rfl
      have hmk := fun (x : Value) (W : World) => SlotG.mk (x := x) (w := W) 3 rfl hGN
      clear hGN ha hdep
      have hs : ¬ 9223372036854775807 < T1.size + Z0.size := by omega
      go_simp
      exact ⟨_, rfl, Below.refl _ _, hmk _ _ rfl⟩
    · intro a' w' hb ha hdep
      have d0 : a'.tmps.getD 0 undef = .string t := ha.at 0 (by kernel_rfl)
      have hmk := fun (x : Value) (W : World) => SlotG.mk (x := x) (w := W) 4 rfl hGN
      clear hGN ha hdep
      go_simp
      exact ⟨_, rfl, Below.refl _ _, hmk _ _ rfl⟩
    · intro a' w' hb ha hdep
      have d7 : a'.tmps.getD 7 undef = .string t := (hdep 7 (of_decide_eq_true (by kernel_rfl))).is 4 rfl
      have hmk := fun (x : Value) (W : World) => SlotG.mk (x := x) (w := W) 5 rfl hGN
      clear hGN ha hdep
      have hs := HS2.out w'
      go_simp
      exact ⟨_, rfl, Below.refl _ _, hmk _ _ rfl⟩
    · intro a' w' hb ha hdep
      have d6 : a'.tmps.getD 6 undef = .string (T1 ++ Z0) := (hdep 6 (of_decide_eq_true (by kernel_rfl))).is 3 rfl
      have d8 : a'.tmps.getD 8 undef = .string T2 := (hdep 8 (of_decide_eq_true (by kernel_rfl))).is 5 rfl
      have hmk := fun (x : Value) (W : World) => SlotG.mk (x := x) (w := W) 6 rfl hGN
      clear hGN ha hdep
      have hs : ¬ 9223372036854775807 < T1.size + Z0.size + T2.size := by omega
      go_simp
      exact ⟨_, rfl, Below.refl _ _, hmk _ _ rfl⟩
    · intro a' w' hb ha hdep
      have hmk := fun (x : Value) (W : World) => SlotG.mk (x := x) (w := W) 7 rfl hGN
      clear hGN ha hdep
      go_simp
      refine (HZ.out _).mono ?_
      rintro e w2 ⟨rfl, hb2⟩
      exact ⟨_, rfl, hb2, hmk _ _ rfl⟩
    · intro a' w' hb ha hdep
      have d9 : a'.tmps.getD 9 undef = .string (T1 ++ Z0 ++ T2) := (hdep 9 (of_decide_eq_true (by kernel_rfl))).is 6 rfl
      have d10 : a'.tmps.getD 10 undef = .string Z0 := (hdep 10 (of_decide_eq_true (by kernel_rfl))).is 7 rfl
      have hmk := fun (x : Value) (W : World) => SlotG.mk (x := x) (w := W) 8 rfl hGN
      clear hGN ha hdep
      have hs : ¬ 9223372036854775807 < T1.size + Z0.size + T2.size + Z0.size := by omega
      go_simp
      exact ⟨_, rfl, Below.refl _ _, hmk _ _ rfl⟩
    · intro a' w' hb ha hdep
      have d0 : a'.tmps.getD 0 undef = .string t := ha.at 0 (by kernel_rfl)
      have hmk := fun (x : Value) (W : World) => SlotG.mk (x := x) (w := W) 9 rfl hGN
      clear hGN ha hdep
      go_simp
      exact ⟨_, rfl, Below.refl _ _, hmk _ _ rfl⟩
    · intro a' w' hb ha hdep
      have d12 : a'.tmps.getD 12 undef = .string t := (hdep 12 (of_decide_eq_true (by kernel_rfl))).is 9 rfl
      have hmk := fun (x : Value) (W : World) => SlotG.mk (x := x) (w := W) 10 rfl hGN
      clear hGN ha hdep
      have hs := HS3.out w'
      go_simp
      exact ⟨_, rfl, Below.refl _ _, hmk _ _ rfl⟩
    · intro a' w' hb ha hdep
      have d11 : a'.tmps.getD 11 undef = .string (T1 ++ Z0 ++ T2 ++ Z0) := (hdep 11 (of_decide_eq_true (by kernel_rfl))).is 8 rfl
      have d13 : a'.tmps.getD 13 undef = .string T3 := (hdep 13 (of_decide_eq_true (by kernel_rfl))).is 10 rfl
      have hmk := fun (x : Value) (W : World) => SlotG.mk (x := x) (w := W) 11 rfl hGN
      clear hGN ha hdep
      have hs : ¬ 9223372036854775807 < T1.size + Z0.size + T2.size + Z0.size + T3.size := by omega
      go_simp
      exact ⟨_, rfl, Below.refl _ _, hmk _ _ rfl⟩
    · intro a' w' hb ha hdep
      have d14 : a'.tmps.getD 14 undef = .string (T1 ++ Z0 ++ T2 ++ Z0 ++ T3) := (hdep 14 (of_decide_eq_true (by kernel_rfl))).is 11 rfl
      have hmk := fun (x : Value) (W : World) => SlotG.mk (x := x) (w := W) 12 rfl hGN
      clear hGN ha hdep
      go_simp
      exact ⟨_, rfl, Below.refl _ _, hmk _ _ rfl⟩
  · intro a' w' hb ha hG
    clear hGN
    have d2 : a'.tmps.getD 2 undef = .string (T1 ++ Z0 ++ T2 ++ Z0 ++ T3) := (hG _ (List.mem_of_getElem? (i := 12) rfl) 2 rfl).is 12 rfl
    simp only [List.drop_succ_cons, List.drop_zero]
    have hB := hb
    obtain ⟨T, D⟩ := a'
    obtain rfl : D = [] := ha.2.1
    clear hb hG ha
    go_wp2
    go_ret
    exact ⟨congrArg Ending.returned d2, hB⟩
theorem notEmpty (r : ByteArray) (h28 : 28 ≤ r.size) : r.toList.isEmpty = false := by
  rw [ByteArray.toList_eq, List.isEmpty_eq_false_iff]
  intro e
  have := congrArg List.length e
  simp at this
  rw [this] at h28
  simp at h28
theorem index_at (t : ByteArray) (k : Nat) (x : Int) (hx : x = k) (h : k < t.size) (w : World) : (Instr.index 9 (.string t) (.int .i64 x)).run Try.prog w = .ok (.int .u8 ((t[k]).toNat : Int)) w := by
  subst hx
  rw [run_index_string _ _ _ _ _ Try.underlying9]
  simp [h]
set_option maxRecDepth 100000 in
set_option maxHeartbeats 2000000 in
theorem specDgramRead_in (t : ByteArray) (w : World) (h : 28 ≤ t.size) (h8 : t.size ≤ 8000) (v : Value) (hv0 : dgOf t = t ∧ v = dOut (numAt t 12 16) (numAt t 16 20) (numAt t 20 22) (numAt t 22 24) (numAt t 8 9) (dtD t) 0 ∨ dgOf t ≠ t ∧ v = dOut 0 0 0 0 0 ByteArray.empty (whyN t (dgOf t))) :
    Calls Try.prog 36 #[.string t] w fun e w' => e = .returned v ∧ Below w.heap.size w w' := by
  have hsz := dgOf_size t
  have hv : dgOf t = t ∧ v = dOut (numAt t 12 16) (numAt t 16 20) (numAt t 20 22) (numAt t 22 24) (numAt t 8 9) (dtD t) 0 ∨ dgOf t ≠ t ∧ (dgOf t = ByteArray.empty ∧ v = dOut 0 0 0 0 0 ByteArray.empty 3 ∨ (dgOf t).toList.isEmpty = false ∧ (bareZT (dgOf t) = bareZT t ∧ v = dOut 0 0 0 0 0 ByteArray.empty 5 ∨ bareZT (dgOf t) ≠ bareZT t ∧ v = dOut 0 0 0 0 0 ByteArray.empty 3)) := by
    rcases hv0 with hv | ⟨hn, hv⟩
    · exact .inl hv
    · refine .inr ⟨hn, ?_⟩
      by_cases hre : dgOf t = ByteArray.empty
      · exact .inl ⟨hre, by rw [hv, show whyN t (dgOf t) = 3 from if_neg fun e => e.1 hre]⟩
      · obtain ⟨h28, h328⟩ : 28 ≤ (dgOf t).size ∧ (dgOf t).size ≤ 328 := by rcases hsz with e | e; exact absurd e hre; exact e
        have hie := notEmpty (dgOf t) h28
        have hiff := bareT_iff t (dgOf t) h h28
        have hinj : ∀ a b : ByteArray, bareZT a = bareZT b ↔ bareZ a.data.toList = bareZ b.data.toList := fun a b => ⟨fun e => by have := congrArg (fun x : ByteArray => x.data.toList) e; simpa [bareZT] using this, fun e => by unfold bareZT; rw [e]⟩
        refine .inr ⟨hie, ?_⟩
        by_cases hb : bareL t.data.toList = bareL (dgOf t).data.toList
        · exact .inl ⟨(hinj _ _).2 (hiff.2 hb).symm, by rw [hv, show whyN t (dgOf t) = 5 from if_pos ⟨hre, hb⟩]⟩
        · exact .inr ⟨fun e => hb (hiff.1 ((hinj _ _).1 e).symm), by rw [hv, show whyN t (dgOf t) = 3 from if_neg fun e => hb e.2]⟩
  have HBT : Hid (∀ w, Calls Try.prog 75 #[.string t] w fun e w' => e = .returned (.string (bareZT t)) ∧ Below w.heap.size w w') := fun w => specBare_any t w h h8
  have HBZ : Hid ((dgOf t).toList.isEmpty = false → ∀ w, Calls Try.prog 75 #[.string (dgOf t)] w fun e w' => e = .returned (.string (bareZT (dgOf t))) ∧ Below w.heap.size w w') := fun hie w => by
    rcases hsz with e | e
    · simp [e, ByteArray.toList_eq] at hie
    · exact specBare_any _ w e.1 (by omega)
  have HS1 : Hid (∀ w, (Instr.slice 9 (.string t) (some (.int .i64 12)) (some (.int .i64 16)) none).run Try.prog w = .ok (.string (t.extract 12 16)) w) := fun w => cut_to t 12 16 12 16 rfl rfl (by omega) (by omega) w
  have HS2 : Hid (∀ w, (Instr.slice 9 (.string t) (some (.int .i64 16)) (some (.int .i64 20)) none).run Try.prog w = .ok (.string (t.extract 16 20)) w) := fun w => cut_to t 16 20 16 20 rfl rfl (by omega) (by omega) w
  have HS3 : Hid (∀ w, (Instr.slice 9 (.string t) (some (.int .i64 20)) (some (.int .i64 22)) none).run Try.prog w = .ok (.string (t.extract 20 22)) w) := fun w => cut_to t 20 22 20 22 rfl rfl (by omega) (by omega) w
  have HS4 : Hid (∀ w, (Instr.slice 9 (.string t) (some (.int .i64 22)) (some (.int .i64 24)) none).run Try.prog w = .ok (.string (t.extract 22 24)) w) := fun w => cut_to t 22 24 22 24 rfl rfl (by omega) (by omega) w
  have HS6 : Hid (∀ w, (Instr.slice 9 (.string t) (some (.int .i64 28)) none none).run Try.prog w = .ok (.string (dtD t)) w) := fun w => cut_on t 28 28 rfl (by omega) w
  have HG : ∀ a b, b ≤ t.size → b - a ≤ 4 → ∀ w, Calls Try.prog 74 #[.string (t.extract a b)] w fun e w' => e = .returned (.int .i64 (numAt t a b : Int)) ∧ w = w' := fun a b hb h4 w => by
    have := specGet_any (t.extract a b) w (by simp; omega)
    rw [cutL_extract] at this
    exact this
  have HG1 : Hid (∀ w, Calls Try.prog 74 #[.string (t.extract 12 16)] w fun e w' => e = .returned (.int .i64 (numAt t 12 16 : Int)) ∧ w = w') := HG 12 16 (by omega) (by omega)
  have HG2 : Hid (∀ w, Calls Try.prog 74 #[.string (t.extract 16 20)] w fun e w' => e = .returned (.int .i64 (numAt t 16 20 : Int)) ∧ w = w') := HG 16 20 (by omega) (by omega)
  have HG3 : Hid (∀ w, Calls Try.prog 74 #[.string (t.extract 20 22)] w fun e w' => e = .returned (.int .i64 (numAt t 20 22 : Int)) ∧ w = w') := HG 20 22 (by omega) (by omega)
  have HG4 : Hid (∀ w, Calls Try.prog 74 #[.string (t.extract 22 24)] w fun e w' => e = .returned (.int .i64 (numAt t 22 24 : Int)) ∧ w = w') := HG 22 24 (by omega) (by omega)
  have HI8 : Hid (∀ w, (Instr.index 9 (.string t) (.int .i64 8)).run Try.prog w = .ok (.int .u8 (numAt t 8 9 : Int)) w) := fun w => by
    have := index_at t 8 8 rfl (by omega) w
    rw [← numAt_one t h] at this
    exact this
  have hV5 : numAt t 8 9 < 256 := by rw [numAt_one t h]; exact UInt8.toNat_lt _
  have hwV := wrap_i64_in (numAt t 8 9 : Int) (by omega) (by omega)
  have hit := notEmpty t h
  have HF : Hid (∀ w, Calls Try.prog 34 #[dgV (numAt t 12 16) (numAt t 16 20) (numAt t 20 22) (numAt t 22 24) (numAt t 8 9) (dtD t)] w fun e w' => e = .returned (.string (dgOf t)) ∧ Below w.heap.size w w') := specDgramBytes_any _ _ _ _ _ _
  unfold dgV at HF
  clear hv0 hsz HG
  generalize numAt t 12 16 = V1 at *
  generalize numAt t 16 20 = V2 at *
  generalize numAt t 20 22 = V3 at *
  generalize numAt t 22 24 = V4 at *
  generalize numAt t 8 9 = V5 at *
  generalize dtD t = D at *
  generalize dgOf t = Z at *
  generalize bareZT t = BT at *
  generalize bareZT Z = BZ at *
  go_enter Try.func36, Try.ntmps36
  go_wp2_with fail
  have hGN : (([(13, Is (.string t)), (14, Is (.string (t.extract 12 16))), (15, Is (.int .i64 (V1 : Int))), (16, Is (.string t)), (17, Is (.string (t.extract 16 20))), (18, Is (.int .i64 (V2 : Int))), (19, Is (.string t)), (20, Is (.string (t.extract 20 22))), (21, Is (.int .i64 (V3 : Int))), (22, Is (.string t)), (23, Is (.string (t.extract 22 24))), (24, Is (.int .i64 (V4 : Int))), (25, Is (.string t)), (26, Is (.int .u8 (V5 : Int))), (27, Is (.int .i64 (V5 : Int))), (28, Is (.string t)), (29, Is (.string D)), (30, Is (.agg #[.int .i64 (V1 : Int), .int .i64 (V2 : Int), .int .i64 (V3 : Int), .int .i64 (V4 : Int), .int .i64 (V5 : Int), .string D])), (3, fun x W => ∃ g, x = .pointer (some ⟨g, 0, none⟩) ∧ w.heap.size < g ∧ Row W g 40 [.int .i64 0, .int .i64 0, .int .i64 0, .int .i64 0, .int .i64 0, .string ⟨#[]⟩])] : List (Nat × (Value → World → Prop))).map (·.1)).Nodup := by simp
  refine wp_region_steady 19 (SlotG [(13, Is (.string t)), (14, Is (.string (t.extract 12 16))), (15, Is (.int .i64 (V1 : Int))), (16, Is (.string t)), (17, Is (.string (t.extract 16 20))), (18, Is (.int .i64 (V2 : Int))), (19, Is (.string t)), (20, Is (.string (t.extract 20 22))), (21, Is (.int .i64 (V3 : Int))), (22, Is (.string t)), (23, Is (.string (t.extract 22 24))), (24, Is (.int .i64 (V4 : Int))), (25, Is (.string t)), (26, Is (.int .u8 (V5 : Int))), (27, Is (.int .i64 (V5 : Int))), (28, Is (.string t)), (29, Is (.string D)), (30, Is (.agg #[.int .i64 (V1 : Int), .int .i64 (V2 : Int), .int .i64 (V3 : Int), .int .i64 (V4 : Int), .int .i64 (V5 : Int), .string D])), (3, fun x W => ∃ g, x = .pointer (some ⟨g, 0, none⟩) ∧ w.heap.size < g ∧ Row W g 40 [.int .i64 0, .int .i64 0, .int .i64 0, .int .i64 0, .int .i64 0, .string ⟨#[]⟩])]) (by kernel_rfl) (by kernel_rfl) (Stabs.all ⟨stab_is _, stab_is _, stab_is _, stab_is _, stab_is _, stab_is _, stab_is _, stab_is _, stab_is _, stab_is _, stab_is _, stab_is _, stab_is _, stab_is _, stab_is _, stab_is _, stab_is _, stab_is _, stab_ptr w.heap.size _, trivial⟩) ?_ ?_
  · intro o ho
    simp only [List.take_succ_cons, List.take_zero, List.mem_cons, List.not_mem_nil, or_false] at ho
    rcases ho with rfl | rfl | rfl | rfl | rfl | rfl | rfl | rfl | rfl | rfl | rfl | rfl | rfl | rfl | rfl | rfl | rfl | rfl | rfl
    · intro a' w' hb ha hdep
      have d0 : a'.tmps.getD 0 undef = .string t := ha.at 0 (by kernel_rfl)
      have hmk := fun (x : Value) (W : World) => SlotG.mk (x := x) (w := W) 0 rfl hGN
      clear hGN ha hdep
      go_simp
      exact ⟨_, rfl, Below.refl _ _, hmk _ _ rfl⟩
    · intro a' w' hb ha hdep
      have d13 : a'.tmps.getD 13 undef = .string t := (hdep 13 (of_decide_eq_true (by kernel_rfl))).is 0 rfl
      have hmk := fun (x : Value) (W : World) => SlotG.mk (x := x) (w := W) 1 rfl hGN
      clear hGN ha hdep
      have hs := HS1.out w'
      go_simp
      exact ⟨_, rfl, Below.refl _ _, hmk _ _ rfl⟩
    · intro a' w' hb ha hdep
      have d14 : a'.tmps.getD 14 undef = .string (t.extract 12 16) := (hdep 14 (of_decide_eq_true (by kernel_rfl))).is 1 rfl
      have hmk := fun (x : Value) (W : World) => SlotG.mk (x := x) (w := W) 2 rfl hGN
      clear hGN ha hdep
      go_simp
      refine (HG1.out _).mono ?_
      rintro e w2 ⟨rfl, rfl⟩
      exact ⟨_, rfl, Below.refl _ _, hmk _ _ rfl⟩
    · intro a' w' hb ha hdep
      have d0 : a'.tmps.getD 0 undef = .string t := ha.at 0 (by kernel_rfl)
      have hmk := fun (x : Value) (W : World) => SlotG.mk (x := x) (w := W) 3 rfl hGN
      clear hGN ha hdep
      go_simp
      exact ⟨_, rfl, Below.refl _ _, hmk _ _ rfl⟩
    · intro a' w' hb ha hdep
      have d16 : a'.tmps.getD 16 undef = .string t := (hdep 16 (of_decide_eq_true (by kernel_rfl))).is 3 rfl
      have hmk := fun (x : Value) (W : World) => SlotG.mk (x := x) (w := W) 4 rfl hGN
      clear hGN ha hdep
      have hs := HS2.out w'
      go_simp
      exact ⟨_, rfl, Below.refl _ _, hmk _ _ rfl⟩
    · intro a' w' hb ha hdep
      have d17 : a'.tmps.getD 17 undef = .string (t.extract 16 20) := (hdep 17 (of_decide_eq_true (by kernel_rfl))).is 4 rfl
      have hmk := fun (x : Value) (W : World) => SlotG.mk (x := x) (w := W) 5 rfl hGN
      clear hGN ha hdep
      go_simp
      refine (HG2.out _).mono ?_
      rintro e w2 ⟨rfl, rfl⟩
      exact ⟨_, rfl, Below.refl _ _, hmk _ _ rfl⟩
    · intro a' w' hb ha hdep
      have d0 : a'.tmps.getD 0 undef = .string t := ha.at 0 (by kernel_rfl)
      have hmk := fun (x : Value) (W : World) => SlotG.mk (x := x) (w := W) 6 rfl hGN
      clear hGN ha hdep
      go_simp
      exact ⟨_, rfl, Below.refl _ _, hmk _ _ rfl⟩
    · intro a' w' hb ha hdep
      have d19 : a'.tmps.getD 19 undef = .string t := (hdep 19 (of_decide_eq_true (by kernel_rfl))).is 6 rfl
      have hmk := fun (x : Value) (W : World) => SlotG.mk (x := x) (w := W) 7 rfl hGN
      clear hGN ha hdep
      have hs := HS3.out w'
      go_simp
      exact ⟨_, rfl, Below.refl _ _, hmk _ _ rfl⟩
    · intro a' w' hb ha hdep
      have d20 : a'.tmps.getD 20 undef = .string (t.extract 20 22) := (hdep 20 (of_decide_eq_true (by kernel_rfl))).is 7 rfl
      have hmk := fun (x : Value) (W : World) => SlotG.mk (x := x) (w := W) 8 rfl hGN
      clear hGN ha hdep
      go_simp
      refine (HG3.out _).mono ?_
      rintro e w2 ⟨rfl, rfl⟩
      exact ⟨_, rfl, Below.refl _ _, hmk _ _ rfl⟩
    · intro a' w' hb ha hdep
      have d0 : a'.tmps.getD 0 undef = .string t := ha.at 0 (by kernel_rfl)
      have hmk := fun (x : Value) (W : World) => SlotG.mk (x := x) (w := W) 9 rfl hGN
      clear hGN ha hdep
      go_simp
      exact ⟨_, rfl, Below.refl _ _, hmk _ _ rfl⟩
    · intro a' w' hb ha hdep
      have d22 : a'.tmps.getD 22 undef = .string t := (hdep 22 (of_decide_eq_true (by kernel_rfl))).is 9 rfl
      have hmk := fun (x : Value) (W : World) => SlotG.mk (x := x) (w := W) 10 rfl hGN
      clear hGN ha hdep
      have hs := HS4.out w'
      go_simp
      exact ⟨_, rfl, Below.refl _ _, hmk _ _ rfl⟩
    · intro a' w' hb ha hdep
      have d23 : a'.tmps.getD 23 undef = .string (t.extract 22 24) := (hdep 23 (of_decide_eq_true (by kernel_rfl))).is 10 rfl
      have hmk := fun (x : Value) (W : World) => SlotG.mk (x := x) (w := W) 11 rfl hGN
      clear hGN ha hdep
      go_simp
      refine (HG4.out _).mono ?_
      rintro e w2 ⟨rfl, rfl⟩
      exact ⟨_, rfl, Below.refl _ _, hmk _ _ rfl⟩
    · intro a' w' hb ha hdep
      have d0 : a'.tmps.getD 0 undef = .string t := ha.at 0 (by kernel_rfl)
      have hmk := fun (x : Value) (W : World) => SlotG.mk (x := x) (w := W) 12 rfl hGN
      clear hGN ha hdep
      go_simp
      exact ⟨_, rfl, Below.refl _ _, hmk _ _ rfl⟩
    · intro a' w' hb ha hdep
      have d25 : a'.tmps.getD 25 undef = .string t := (hdep 25 (of_decide_eq_true (by kernel_rfl))).is 12 rfl
      have hmk := fun (x : Value) (W : World) => SlotG.mk (x := x) (w := W) 13 rfl hGN
      clear hGN ha hdep
      have hs := HI8.out w'
      go_simp
      exact ⟨_, rfl, Below.refl _ _, hmk _ _ rfl⟩
    · intro a' w' hb ha hdep
      have d26 : a'.tmps.getD 26 undef = .int .u8 (V5 : Int) := (hdep 26 (of_decide_eq_true (by kernel_rfl))).is 13 rfl
      have hmk := fun (x : Value) (W : World) => SlotG.mk (x := x) (w := W) 14 rfl hGN
      clear hGN ha hdep
      go_simp
      exact ⟨_, rfl, Below.refl _ _, hmk _ _ rfl⟩
    · intro a' w' hb ha hdep
      have d0 : a'.tmps.getD 0 undef = .string t := ha.at 0 (by kernel_rfl)
      have hmk := fun (x : Value) (W : World) => SlotG.mk (x := x) (w := W) 15 rfl hGN
      clear hGN ha hdep
      go_simp
      exact ⟨_, rfl, Below.refl _ _, hmk _ _ rfl⟩
    · intro a' w' hb ha hdep
      have d28 : a'.tmps.getD 28 undef = .string t := (hdep 28 (of_decide_eq_true (by kernel_rfl))).is 15 rfl
      have hmk := fun (x : Value) (W : World) => SlotG.mk (x := x) (w := W) 16 rfl hGN
      clear hGN ha hdep
      have hs := HS6.out w'
      go_simp
      exact ⟨_, rfl, Below.refl _ _, hmk _ _ rfl⟩
    · intro a' w' hb ha hdep
      have d15 : a'.tmps.getD 15 undef = .int .i64 (V1 : Int) := (hdep 15 (of_decide_eq_true (by kernel_rfl))).is 2 rfl
      have d18 : a'.tmps.getD 18 undef = .int .i64 (V2 : Int) := (hdep 18 (of_decide_eq_true (by kernel_rfl))).is 5 rfl
      have d21 : a'.tmps.getD 21 undef = .int .i64 (V3 : Int) := (hdep 21 (of_decide_eq_true (by kernel_rfl))).is 8 rfl
      have d24 : a'.tmps.getD 24 undef = .int .i64 (V4 : Int) := (hdep 24 (of_decide_eq_true (by kernel_rfl))).is 11 rfl
      have d27 : a'.tmps.getD 27 undef = .int .i64 (V5 : Int) := (hdep 27 (of_decide_eq_true (by kernel_rfl))).is 14 rfl
      have d29 : a'.tmps.getD 29 undef = .string D := (hdep 29 (of_decide_eq_true (by kernel_rfl))).is 16 rfl
      have hmk := fun (x : Value) (W : World) => SlotG.mk (x := x) (w := W) 17 rfl hGN
      clear hGN ha hdep
      rw [Array.getD_eq_getD_getElem?] at d15 d18 d21 d24 d27 d29
      go_simp
      exact ⟨_, rfl, Below.refl _ _, hmk _ _ rfl⟩
    · intro a' w' hb ha hdep
      have hmk := fun (x : Value) (W : World) => SlotG.mk (x := x) (w := W) 18 rfl hGN
      clear hGN ha hdep
      go_simp
      have hlt : w.heap.size < w'.heap.size := by have := hb.size; simp at this; omega
      exact ⟨_, rfl, new_below0 _ _, hmk _ _ ⟨_, rfl, hlt, Row.new w' 40 _⟩⟩
  · intro a' w' hb ha hG
    clear hGN
    have d30 : a'.tmps.getD 30 undef = .agg #[.int .i64 (V1 : Int), .int .i64 (V2 : Int), .int .i64 (V3 : Int), .int .i64 (V4 : Int), .int .i64 (V5 : Int), .string D] := (hG _ (List.mem_of_getElem? (i := 17) rfl) 30 rfl).is 17 rfl
    have D3 := (hG _ (List.mem_of_getElem? (i := 18) rfl) 3 rfl).get 18 rfl
    have d0 : a'.tmps.getD 0 undef = .string t := ha.at 0 (by kernel_rfl)
    have d2 : a'.tmps.getD 2 undef = .pointer (some ⟨w.heap.size, 0, none⟩) := ha.at 2 (by kernel_rfl)
    have e2 : a' = ⟨#[a'.tmps.getD 0 undef, a'.tmps.getD 1 undef, a'.tmps.getD 2 undef, a'.tmps.getD 3 undef, a'.tmps.getD 4 undef, a'.tmps.getD 5 undef, a'.tmps.getD 6 undef, a'.tmps.getD 7 undef, a'.tmps.getD 8 undef, a'.tmps.getD 9 undef, a'.tmps.getD 10 undef, a'.tmps.getD 11 undef, a'.tmps.getD 12 undef, a'.tmps.getD 13 undef, a'.tmps.getD 14 undef, a'.tmps.getD 15 undef, a'.tmps.getD 16 undef, a'.tmps.getD 17 undef, a'.tmps.getD 18 undef, a'.tmps.getD 19 undef, a'.tmps.getD 20 undef, a'.tmps.getD 21 undef, a'.tmps.getD 22 undef, a'.tmps.getD 23 undef, a'.tmps.getD 24 undef, a'.tmps.getD 25 undef, a'.tmps.getD 26 undef, a'.tmps.getD 27 undef, a'.tmps.getD 28 undef, a'.tmps.getD 29 undef, a'.tmps.getD 30 undef, a'.tmps.getD 31 undef, a'.tmps.getD 32 undef, a'.tmps.getD 33 undef, a'.tmps.getD 34 undef, a'.tmps.getD 35 undef, a'.tmps.getD 36 undef, a'.tmps.getD 37 undef, a'.tmps.getD 38 undef, a'.tmps.getD 39 undef, a'.tmps.getD 40 undef, a'.tmps.getD 41 undef, a'.tmps.getD 42 undef, a'.tmps.getD 43 undef, a'.tmps.getD 44 undef, a'.tmps.getD 45 undef, a'.tmps.getD 46 undef, a'.tmps.getD 47 undef, a'.tmps.getD 48 undef, a'.tmps.getD 49 undef, a'.tmps.getD 50 undef], []⟩ := by rw [← (show a'.defers = [] from ha.2.1)]; exact act_eq a' 51 ha.1
    rw [d30, d0, d2] at e2
    clear hG ha d30 d0 d2
    generalize a'.tmps.getD 1 undef = x1 at *
    generalize a'.tmps.getD 3 undef = x3 at *
    generalize a'.tmps.getD 4 undef = x4 at *
    generalize a'.tmps.getD 5 undef = x5 at *
    generalize a'.tmps.getD 6 undef = x6 at *
    generalize a'.tmps.getD 7 undef = x7 at *
    generalize a'.tmps.getD 8 undef = x8 at *
    generalize a'.tmps.getD 9 undef = x9 at *
    generalize a'.tmps.getD 10 undef = x10 at *
    generalize a'.tmps.getD 11 undef = x11 at *
    generalize a'.tmps.getD 12 undef = x12 at *
    generalize a'.tmps.getD 13 undef = x13 at *
    generalize a'.tmps.getD 14 undef = x14 at *
    generalize a'.tmps.getD 15 undef = x15 at *
    generalize a'.tmps.getD 16 undef = x16 at *
    generalize a'.tmps.getD 17 undef = x17 at *
    generalize a'.tmps.getD 18 undef = x18 at *
    generalize a'.tmps.getD 19 undef = x19 at *
    generalize a'.tmps.getD 20 undef = x20 at *
    generalize a'.tmps.getD 21 undef = x21 at *
    generalize a'.tmps.getD 22 undef = x22 at *
    generalize a'.tmps.getD 23 undef = x23 at *
    generalize a'.tmps.getD 24 undef = x24 at *
    generalize a'.tmps.getD 25 undef = x25 at *
    generalize a'.tmps.getD 26 undef = x26 at *
    generalize a'.tmps.getD 27 undef = x27 at *
    generalize a'.tmps.getD 28 undef = x28 at *
    generalize a'.tmps.getD 29 undef = x29 at *
    generalize a'.tmps.getD 31 undef = x31 at *
    generalize a'.tmps.getD 32 undef = x32 at *
    generalize a'.tmps.getD 33 undef = x33 at *
    generalize a'.tmps.getD 34 undef = x34 at *
    generalize a'.tmps.getD 35 undef = x35 at *
    generalize a'.tmps.getD 36 undef = x36 at *
    generalize a'.tmps.getD 37 undef = x37 at *
    generalize a'.tmps.getD 38 undef = x38 at *
    generalize a'.tmps.getD 39 undef = x39 at *
    generalize a'.tmps.getD 40 undef = x40 at *
    generalize a'.tmps.getD 41 undef = x41 at *
    generalize a'.tmps.getD 42 undef = x42 at *
    generalize a'.tmps.getD 43 undef = x43 at *
    generalize a'.tmps.getD 44 undef = x44 at *
    generalize a'.tmps.getD 45 undef = x45 at *
    generalize a'.tmps.getD 46 undef = x46 at *
    generalize a'.tmps.getD 47 undef = x47 at *
    generalize a'.tmps.getD 48 undef = x48 at *
    generalize a'.tmps.getD 49 undef = x49 at *
    generalize a'.tmps.getD 50 undef = x50 at *
    subst e2
    simp only [List.drop_succ_cons, List.drop_zero]
    obtain ⟨g, rfl, hg, hr⟩ := D3
    have hB := (new_below0 w (.cells #[.int .i64 0, .int .i64 0, .int .i64 0, .int .i64 0, .int .i64 0, .string ⟨#[]⟩, .int .i64 0] 49)).trans (hb.mono (by simp))
    have q : Row w' w.heap.size 49 [.int .i64 0, .int .i64 0, .int .i64 0, .int .i64 0, .int .i64 0, .string ⟨#[]⟩, .int .i64 0] := (Row.new w 49 [.int .i64 0, .int .i64 0, .int .i64 0, .int .i64 0, .int .i64 0, .string ⟨#[]⟩, .int .i64 0]).below hb (by simp)
    have s0 : w'.cell? ⟨g, 0, none⟩ = some (.int .i64 0) := hr.cell 0
    have s1 : w'.cell? ⟨g, 1, none⟩ = some (.int .i64 0) := hr.cell 1
    have s2 : w'.cell? ⟨g, 2, none⟩ = some (.int .i64 0) := hr.cell 2
    have s3 : w'.cell? ⟨g, 3, none⟩ = some (.int .i64 0) := hr.cell 3
    have s4 : w'.cell? ⟨g, 4, none⟩ = some (.int .i64 0) := hr.cell 4
    have s5 : w'.cell? ⟨g, 5, none⟩ = some (.string ⟨#[]⟩) := hr.cell 5
    have t0 := hr.frozen 0
    have t1 := hr.frozen 1
    have t2 := hr.frozen 2
    have t3 := hr.frozen 3
    have t4 := hr.frozen 4
    have t5 := hr.frozen 5
    have hr2 : Row ((((((w'.setCell ⟨g, 0, none⟩ (.int .i64 (V1 : Int))).setCell ⟨g, 1, none⟩ (.int .i64 (V2 : Int))).setCell ⟨g, 2, none⟩ (.int .i64 (V3 : Int))).setCell ⟨g, 3, none⟩ (.int .i64 (V4 : Int))).setCell ⟨g, 4, none⟩ (.int .i64 (V5 : Int))).setCell ⟨g, 5, none⟩ (.string D)) g 40 [.int .i64 (V1 : Int), .int .i64 (V2 : Int), .int .i64 (V3 : Int), .int .i64 (V4 : Int), .int .i64 (V5 : Int), .string D] := (((((hr.set 0 _).set 1 _).set 2 _).set 3 _).set 4 _).set 5 _
    have q2 : Row ((((((w'.setCell ⟨g, 0, none⟩ (.int .i64 (V1 : Int))).setCell ⟨g, 1, none⟩ (.int .i64 (V2 : Int))).setCell ⟨g, 2, none⟩ (.int .i64 (V3 : Int))).setCell ⟨g, 3, none⟩ (.int .i64 (V4 : Int))).setCell ⟨g, 4, none⟩ (.int .i64 (V5 : Int))).setCell ⟨g, 5, none⟩ (.string D)) w.heap.size 49 [.int .i64 0, .int .i64 0, .int .i64 0, .int .i64 0, .int .i64 0, .string ⟨#[]⟩, .int .i64 0] := (((((q.other 0 _ (by omega)).other 1 _ (by omega)).other 2 _ (by omega)).other 3 _ (by omega)).other 4 _ (by omega)).other 5 _ (by omega)
    have hBs : Below w.heap.size w ((((((w'.setCell ⟨g, 0, none⟩ (.int .i64 (V1 : Int))).setCell ⟨g, 1, none⟩ (.int .i64 (V2 : Int))).setCell ⟨g, 2, none⟩ (.int .i64 (V3 : Int))).setCell ⟨g, 3, none⟩ (.int .i64 (V4 : Int))).setCell ⟨g, 4, none⟩ (.int .i64 (V5 : Int))).setCell ⟨g, 5, none⟩ (.string D)) := (((((hB.setCell (by simp; omega) _).setCell (by simp; omega) _).setCell (by simp; omega) _).setCell (by simp; omega) _).setCell (by simp; omega) _).setCell (by simp; omega) _
    clear q hr hb hB
    go_wp2_with fail
    generalize hWX : ((((((w'.setCell ⟨g, 0, none⟩ (.int .i64 (V1 : Int))).setCell ⟨g, 1, none⟩ (.int .i64 (V2 : Int))).setCell ⟨g, 2, none⟩ (.int .i64 (V3 : Int))).setCell ⟨g, 3, none⟩ (.int .i64 (V4 : Int))).setCell ⟨g, 4, none⟩ (.int .i64 (V5 : Int))).setCell ⟨g, 5, none⟩ (.string D)) = WX at *
    clear hWX s0 t0 s1 t1 s2 t2 s3 t3 s4 t4 s5 t5
    refine (HF.out _).mono ?_
    rintro e w2 ⟨rfl, hb2⟩
    have hB2 := after_next hBs hb2 hBs.size
    have u2 := hr2.below hb2 hr2.lt
    have q3 := q2.below hb2 q2.lt
    clear hr2 q2 hBs hb2 HF HG1 HG2 HG3 HG4 HS1 HS2 HS3 HS4 HS6 HI8
    rcases hv with ⟨he, rfl⟩ | ⟨he, hvv⟩
    · subst he
      have s0 : w2.cell? ⟨g, 0, none⟩ = some (.int .i64 (V1 : Int)) := u2.cell 0
      have s1 : w2.cell? ⟨g, 1, none⟩ = some (.int .i64 (V2 : Int)) := u2.cell 1
      have s2 : w2.cell? ⟨g, 2, none⟩ = some (.int .i64 (V3 : Int)) := u2.cell 2
      have s3 : w2.cell? ⟨g, 3, none⟩ = some (.int .i64 (V4 : Int)) := u2.cell 3
      have s4 : w2.cell? ⟨g, 4, none⟩ = some (.int .i64 (V5 : Int)) := u2.cell 4
      have s5 : w2.cell? ⟨g, 5, none⟩ = some (.string D) := u2.cell 5
      have r0 : w2.cell? ⟨w.heap.size, 0, none⟩ = some (.int .i64 0) := q3.cell 0
      have r1 : w2.cell? ⟨w.heap.size, 1, none⟩ = some (.int .i64 0) := q3.cell 1
      have r2 : w2.cell? ⟨w.heap.size, 2, none⟩ = some (.int .i64 0) := q3.cell 2
      have r3 : w2.cell? ⟨w.heap.size, 3, none⟩ = some (.int .i64 0) := q3.cell 3
      have r4 : w2.cell? ⟨w.heap.size, 4, none⟩ = some (.int .i64 0) := q3.cell 4
      have r5 : w2.cell? ⟨w.heap.size, 5, none⟩ = some (.string ⟨#[]⟩) := q3.cell 5
      have r6 : w2.cell? ⟨w.heap.size, 6, none⟩ = some (.int .i64 0) := q3.cell 6
      have f0 := q3.frozen 0
      have f1 := q3.frozen 1
      have f2 := q3.frozen 2
      have f3 := q3.frozen 3
      have f4 := q3.frozen 4
      have f5 := q3.frozen 5
      have f6 := q3.frozen 6
      clear u2 q3 HBT HBZ
      go_wp2_with fail
      refine bodyPost_ret (v := dOut V1 V2 V3 V4 V5 D 0) (by simp [results, Try.results36, go_sem, dOut, r0, r1, r2, r3, r4, r5, r6]) rfl ⟨rfl, ?_⟩
      exact ((((((hB2.setCell (Nat.le_refl _) _).setCell (Nat.le_refl _) _).setCell (Nat.le_refl _) _).setCell (Nat.le_refl _) _).setCell (Nat.le_refl _) _).setCell (Nat.le_refl _) _).setCell (Nat.le_refl _) _
    · have hne := text_ne he
      clear he u2
      rcases hvv with ⟨hze, rfl⟩ | ⟨hze, hvv⟩
      · subst hze
        have r0 : w2.cell? ⟨w.heap.size, 0, none⟩ = some (.int .i64 0) := q3.cell 0
        have r1 : w2.cell? ⟨w.heap.size, 1, none⟩ = some (.int .i64 0) := q3.cell 1
        have r2 : w2.cell? ⟨w.heap.size, 2, none⟩ = some (.int .i64 0) := q3.cell 2
        have r3 : w2.cell? ⟨w.heap.size, 3, none⟩ = some (.int .i64 0) := q3.cell 3
        have r4 : w2.cell? ⟨w.heap.size, 4, none⟩ = some (.int .i64 0) := q3.cell 4
        have r5 : w2.cell? ⟨w.heap.size, 5, none⟩ = some (.string ⟨#[]⟩) := q3.cell 5
        have r6 : w2.cell? ⟨w.heap.size, 6, none⟩ = some (.int .i64 0) := q3.cell 6
        have f0 := q3.frozen 0
        have f1 := q3.frozen 1
        have f2 := q3.frozen 2
        have f3 := q3.frozen 3
        have f4 := q3.frozen 4
        have f5 := q3.frozen 5
        have f6 := q3.frozen 6
        clear q3 HBT HBZ
        go_wp2_with fail
        refine bodyPost_ret (v := dOut 0 0 0 0 0 ByteArray.empty 3) (by simp [results, Try.results36, go_sem, dOut, r0, r1, r2, r3, r4, r5, r6]; rfl) rfl ⟨rfl, ?_⟩
        exact ((((((hB2.setCell (Nat.le_refl _) _).setCell (Nat.le_refl _) _).setCell (Nat.le_refl _) _).setCell (Nat.le_refl _) _).setCell (Nat.le_refl _) _).setCell (Nat.le_refl _) _).setCell (Nat.le_refl _) _
      · go_wp2_with fail
        refine (HBZ.out hze _).mono ?_
        rintro e w3 ⟨rfl, hb3⟩
        have hB3 := after_next hB2 hb3 hB2.size
        have q4 := q3.below hb3 q3.lt
        clear q3 hB2 hb3 HBZ
        go_wp2_with fail
        refine (HBT.out _).mono ?_
        rintro e w4 ⟨rfl, hb4⟩
        have hB4 := after_next hB3 hb4 hB3.size
        have q5 := q4.below hb4 q4.lt
        clear q4 hB3 hb4 HBT
        rcases hvv with ⟨hbe, rfl⟩ | ⟨hbe, rfl⟩
        · rw [hbe]
          have r0 : w4.cell? ⟨w.heap.size, 0, none⟩ = some (.int .i64 0) := q5.cell 0
          have r1 : w4.cell? ⟨w.heap.size, 1, none⟩ = some (.int .i64 0) := q5.cell 1
          have r2 : w4.cell? ⟨w.heap.size, 2, none⟩ = some (.int .i64 0) := q5.cell 2
          have r3 : w4.cell? ⟨w.heap.size, 3, none⟩ = some (.int .i64 0) := q5.cell 3
          have r4 : w4.cell? ⟨w.heap.size, 4, none⟩ = some (.int .i64 0) := q5.cell 4
          have r5 : w4.cell? ⟨w.heap.size, 5, none⟩ = some (.string ⟨#[]⟩) := q5.cell 5
          have r6 : w4.cell? ⟨w.heap.size, 6, none⟩ = some (.int .i64 0) := q5.cell 6
          have f0 := q5.frozen 0
          have f1 := q5.frozen 1
          have f2 := q5.frozen 2
          have f3 := q5.frozen 3
          have f4 := q5.frozen 4
          have f5 := q5.frozen 5
          have f6 := q5.frozen 6
          clear q5
          go_wp2_with fail
          refine bodyPost_ret (v := dOut 0 0 0 0 0 ByteArray.empty 5) (by simp [results, Try.results36, go_sem, dOut, r0, r1, r2, r3, r4, r5, r6]; rfl) rfl ⟨rfl, ?_⟩
          exact ((((((hB4.setCell (Nat.le_refl _) _).setCell (Nat.le_refl _) _).setCell (Nat.le_refl _) _).setCell (Nat.le_refl _) _).setCell (Nat.le_refl _) _).setCell (Nat.le_refl _) _).setCell (Nat.le_refl _) _
        · have hbn := text_ne hbe
          clear hbe
          have r0 : w4.cell? ⟨w.heap.size, 0, none⟩ = some (.int .i64 0) := q5.cell 0
          have r1 : w4.cell? ⟨w.heap.size, 1, none⟩ = some (.int .i64 0) := q5.cell 1
          have r2 : w4.cell? ⟨w.heap.size, 2, none⟩ = some (.int .i64 0) := q5.cell 2
          have r3 : w4.cell? ⟨w.heap.size, 3, none⟩ = some (.int .i64 0) := q5.cell 3
          have r4 : w4.cell? ⟨w.heap.size, 4, none⟩ = some (.int .i64 0) := q5.cell 4
          have r5 : w4.cell? ⟨w.heap.size, 5, none⟩ = some (.string ⟨#[]⟩) := q5.cell 5
          have r6 : w4.cell? ⟨w.heap.size, 6, none⟩ = some (.int .i64 0) := q5.cell 6
          have f0 := q5.frozen 0
          have f1 := q5.frozen 1
          have f2 := q5.frozen 2
          have f3 := q5.frozen 3
          have f4 := q5.frozen 4
          have f5 := q5.frozen 5
          have f6 := q5.frozen 6
          clear q5
          go_wp2_with fail
          refine bodyPost_ret (v := dOut 0 0 0 0 0 ByteArray.empty 3) (by simp [results, Try.results36, go_sem, dOut, r0, r1, r2, r3, r4, r5, r6]; rfl) rfl ⟨rfl, ?_⟩
          exact ((((((hB4.setCell (Nat.le_refl _) _).setCell (Nat.le_refl _) _).setCell (Nat.le_refl _) _).setCell (Nat.le_refl _) _).setCell (Nat.le_refl _) _).setCell (Nat.le_refl _) _).setCell (Nat.le_refl _) _
set_option maxRecDepth 100000 in
theorem specDgramRead_any (t : ByteArray) (w : World) (hz : t.size ≤ 1048576) :
    Calls Try.prog 36 #[.string t] w fun e w' => e = .returned (dgRead t) ∧ Below w.heap.size w w' := by
  by_cases h1 : 8000 < t.size
  · rw [dgRead_out t h1]
    go_enter Try.func36, Try.ntmps36
    go_wp2
    refine bodyPost_ret (v := dOut 0 0 0 0 0 ByteArray.empty 2) (by simp [results, Try.results36, go_sem, dOut]; rfl) rfl ⟨rfl, ?_⟩
    exact (Below.refl _ _).alloc (Nat.le_refl _) _
  · by_cases h2 : t.size < 28
    · rw [dgRead_short t h2]
      go_enter Try.func36, Try.ntmps36
      go_wp2
      refine bodyPost_ret (v := dOut 0 0 0 0 0 ByteArray.empty 4) (by simp [results, Try.results36, go_sem, dOut]; rfl) rfl ⟨rfl, ?_⟩
      exact (Below.refl _ _).alloc (Nat.le_refl _) _
    · by_cases he : dgOf t = t
      · exact specDgramRead_in t w (by omega) (by omega) _ (.inl ⟨he, dgRead_good t (by omega) (by omega) he⟩)
      · exact specDgramRead_in t w (by omega) (by omega) _ (.inr ⟨he, dgRead_bad t (by omega) (by omega) he⟩)
end Go.Proofs.Ytchgnjpbjnkdmaa
