/- A datagram's bytes, of the model. -/
import Derived.Test.YtchgnjpbjnkdmaaBodyS
namespace Go.Proofs.Ytchgnjpbjnkdmaa
open Go.RowKit

def dgT (s d sp dp ttl : Int) (t : ByteArray) : ByteArray := ⟨(dgL s d sp dp ttl t.data.toList).toArray⟩
theorem dgT_size (s d sp dp ttl : Int) (t : ByteArray) : (dgT s d sp dp ttl t).size = 28 + t.size := by
  show (dgL s d sp dp ttl t.data.toList).toArray.size = _
  rw [List.size_toArray, dgL_length]
  simp
theorem dgT_eq (s d sp dp ttl : Int) (t : ByteArray) : headT s d ttl t.size (sumN (headL s d ttl t.size 0)) ++ bodyTx sp dp t (bsumN s d sp dp t.data.toList) = dgT s d sp dp ttl t := by
  apply ByteArray.ext
  apply Array.toList_inj.1
  have e : t.data.toList.length = t.size := by simp
  simp only [dgT, dgL, e]
  simp [headT, bodyTx]
theorem ahead_eq (s d sp dp : Int) (t : ByteArray) : (fourQ s ++ fourQ d ++ wordT 17 ++ wordT (8 + (t.size : Int)) ++ bodyTx sp dp t 0).data.toList = aheadL s d t.size ++ bodyL sp dp t.data.toList 0 := by
  simp [fourQ, fourQL, wordT, bodyTx, aheadL, wordsL]
set_option maxRecDepth 100000 in
set_option maxHeartbeats 1000000 in
theorem specDgram_any (s d sp dp ttl : Int) (t : ByteArray) (w : World) (hR : dgB s d sp dp ttl t.size = true) :
    Calls Try.prog 72 #[dgV s d sp dp ttl t] w fun e w' => e = .returned (.string (dgT s d sp dp ttl t)) ∧ Below w.heap.size w w' := by
  obtain ⟨hs, hd, hsp, hdp, htt, hn⟩ := dgB_spec hR
  rw [← dgT_eq]
  have hts : t.data.toList.length = t.size := by simp
  have hsl := sumN_le (headL s d ttl t.size 0)
  have hbl := bsumN_le s d sp dp t.data.toList
  have HFS : Hid (∀ w, Calls Try.prog 81 #[.int .i64 s] w fun e w' => e = .returned (.string (fourQ s)) ∧ Below w.heap.size w w') := fun w => spec4_any _ w (by omega) (by omega)
  have HFD : Hid (∀ w, Calls Try.prog 81 #[.int .i64 d] w fun e w' => e = .returned (.string (fourQ d)) ∧ Below w.heap.size w w') := fun w => spec4_any _ w (by omega) (by omega)
  have HW17 : Hid (∀ w, Calls Try.prog 82 #[.int .i64 17] w fun e w' => e = .returned (.string (wordT 17)) ∧ Below w.heap.size w w') := fun w => specWord_any _ w (by omega) (by omega)
  have HW8 : Hid (∀ w, Calls Try.prog 82 #[.int .i64 (8 + (t.size : Int))] w fun e w' => e = .returned (.string (wordT (8 + (t.size : Int)))) ∧ Below w.heap.size w w') := fun w => specWord_any _ w (by omega) (by omega)
  have HBD : Hid (∀ w, Calls Try.prog 83 #[dgV s d sp dp ttl t, .int .i64 0] w fun e w' => e = .returned (.string (bodyTx sp dp t 0)) ∧ Below w.heap.size w w') := fun w => specBody_any s d sp dp ttl t 0 w hsp hdp hn (by omega)
  have HH0 : Hid (∀ w, Calls Try.prog 84 #[dgV s d sp dp ttl t, .int .i64 0] w fun e w' => e = .returned (.string (headT s d ttl t.size 0)) ∧ Below w.heap.size w w') := fun w => specHead_any s d sp dp ttl t 0 w hs hd htt hn (by omega)
  have HSH : Hid (∀ w, Calls Try.prog 76 #[.string (headT s d ttl t.size 0)] w fun e w' => e = .returned (.int .i64 ((sumN (headL s d ttl t.size 0) : Nat) : Int)) ∧ w = w') := fun w => by
    have := specSum_any (headT s d ttl t.size 0) w (by rw [headT_size]; omega)
    exact this
  have HH1 : Hid (∀ w, Calls Try.prog 84 #[dgV s d sp dp ttl t, .int .i64 ((sumN (headL s d ttl t.size 0) : Nat) : Int)] w fun e w' => e = .returned (.string (headT s d ttl t.size ((sumN (headL s d ttl t.size 0) : Nat) : Int))) ∧ Below w.heap.size w w') := fun w => specHead_any s d sp dp ttl t _ w hs hd htt hn (by omega)
  have HBY : Hid (∀ w, Calls Try.prog 83 #[dgV s d sp dp ttl t, .int .i64 ((bsumN s d sp dp t.data.toList : Nat) : Int)] w fun e w' => e = .returned (.string (bodyTx sp dp t ((bsumN s d sp dp t.data.toList : Nat) : Int))) ∧ Below w.heap.size w w') := fun w => specBody_any s d sp dp ttl t _ w hsp hdp hn (by omega)
  have HSX : Hid (∀ w, Calls Try.prog 76 #[.string (fourQ s ++ fourQ d ++ wordT 17 ++ wordT (8 + (t.size : Int)) ++ bodyTx sp dp t 0)] w fun e w' => e = .returned (.int .i64 ((sumN (aheadL s d t.size ++ bodyL sp dp t.data.toList 0) : Nat) : Int)) ∧ w = w') := fun w => by
    have := specSum_any (fourQ s ++ fourQ d ++ wordT 17 ++ wordT (8 + (t.size : Int)) ++ bodyTx sp dp t 0) w (by simp only [ByteArray.size_append, fourQ_size, wordT_size, bodyTx_size]; omega)
    rw [ahead_eq] at this
    exact this
  have HY0 : Hid (sumN (aheadL s d t.size ++ bodyL sp dp t.data.toList 0) = 0 → ((bsumN s d sp dp t.data.toList : Nat) : Int) = 65535) := by
    intro h; unfold bsumN; rw [hts, if_pos h]; rfl
  have HY1 : Hid (sumN (aheadL s d t.size ++ bodyL sp dp t.data.toList 0) ≠ 0 → ((bsumN s d sp dp t.data.toList : Nat) : Int) = ((sumN (aheadL s d t.size ++ bodyL sp dp t.data.toList 0) : Nat) : Int)) := by
    intro h; unfold bsumN; rw [hts, if_neg h]
  have z1 := fourQ_size s
  have z2 := fourQ_size d
  have z3 := wordT_size 17
  have z4 := wordT_size (8 + (t.size : Int))
  have z5 := bodyTx_size sp dp t 0
  have z6 := headT_size s d ttl t.size ((sumN (headL s d ttl t.size 0) : Nat) : Int)
  have z7 := bodyTx_size sp dp t ((bsumN s d sp dp t.data.toList : Nat) : Int)
  have hw8 := wrap_i64_in (8 + (t.size : Int)) (by omega) (by omega)
  unfold dgV at *
  have HR : Hid (Row (w.alloc (.cells #[.int .i64 s, .int .i64 d, .int .i64 sp, .int .i64 dp, .int .i64 ttl, .string t] 40)) w.heap.size 40 [.int .i64 s, .int .i64 d, .int .i64 sp, .int .i64 dp, .int .i64 ttl, .string t]) := Row.new w _ _
  generalize headT s d ttl t.size ((sumN (headL s d ttl t.size 0) : Nat) : Int) = HD at *
  generalize bodyTx sp dp t ((bsumN s d sp dp t.data.toList : Nat) : Int) = BY at *
  generalize sumN (headL s d ttl t.size 0) = HS at *
  generalize sumN (aheadL s d t.size ++ bodyL sp dp t.data.toList 0) = X at *
  generalize ((bsumN s d sp dp t.data.toList : Nat) : Int) = Y at *
  generalize headT s d ttl t.size 0 = H0 at *
  generalize bodyTx sp dp t 0 = BD at *
  generalize fourQ s = FS at *
  generalize fourQ d = FD at *
  generalize wordT 17 = W17 at *
  generalize wordT (8 + (t.size : Int)) = W8 at *
  clear hR hs hd hsp hdp htt hsl hbl hts
  go_enter Try.func72, Try.ntmps72
  go_wp2_with fail
  have hGN : (([(4, Is (.pointer (some ⟨w.heap.size, 0, none⟩))), (5, Is (.int .i64 s)), (6, Is (.string FS)), (7, Is (.pointer (some ⟨w.heap.size, 1, none⟩))), (8, Is (.int .i64 d)), (9, Is (.string FD)), (10, Is (.string (FS ++ FD))), (11, Is (.string W17)), (12, Is (.string (FS ++ FD ++ W17))), (13, Is (.pointer (some ⟨w.heap.size, 5, none⟩))), (14, Is (.string t)), (15, Is (.int .i64 (t.size : Int))), (16, Is (.int .i64 (8 + (t.size : Int)))), (17, Is (.string W8)), (18, Is (.string (FS ++ FD ++ W17 ++ W8))), (19, Is (.agg #[.int .i64 s, .int .i64 d, .int .i64 sp, .int .i64 dp, .int .i64 ttl, .string t])), (20, Is (.string BD)), (21, Is (.string (FS ++ FD ++ W17 ++ W8 ++ BD))), (22, Is (.int .i64 (X : Int))), (3, Is (.int .i64 (X : Int)))] : List (Nat × (Value → World → Prop))).map (·.1)).Nodup := by simp
  refine wp_region_steady 20 (SlotG [(4, Is (.pointer (some ⟨w.heap.size, 0, none⟩))), (5, Is (.int .i64 s)), (6, Is (.string FS)), (7, Is (.pointer (some ⟨w.heap.size, 1, none⟩))), (8, Is (.int .i64 d)), (9, Is (.string FD)), (10, Is (.string (FS ++ FD))), (11, Is (.string W17)), (12, Is (.string (FS ++ FD ++ W17))), (13, Is (.pointer (some ⟨w.heap.size, 5, none⟩))), (14, Is (.string t)), (15, Is (.int .i64 (t.size : Int))), (16, Is (.int .i64 (8 + (t.size : Int)))), (17, Is (.string W8)), (18, Is (.string (FS ++ FD ++ W17 ++ W8))), (19, Is (.agg #[.int .i64 s, .int .i64 d, .int .i64 sp, .int .i64 dp, .int .i64 ttl, .string t])), (20, Is (.string BD)), (21, Is (.string (FS ++ FD ++ W17 ++ W8 ++ BD))), (22, Is (.int .i64 (X : Int))), (3, Is (.int .i64 (X : Int)))]) (by kernel_rfl) (by kernel_rfl) (Stabs.all ⟨stab_is _, stab_is _, stab_is _, stab_is _, stab_is _, stab_is _, stab_is _, stab_is _, stab_is _, stab_is _, stab_is _, stab_is _, stab_is _, stab_is _, stab_is _, stab_is _, stab_is _, stab_is _, stab_is _, stab_is _, trivial⟩) ?_ ?_
  · intro o ho
    simp only [List.take_succ_cons, List.take_zero, List.mem_cons, List.not_mem_nil, or_false] at ho
    rcases ho with rfl | rfl | rfl | rfl | rfl | rfl | rfl | rfl | rfl | rfl | rfl | rfl | rfl | rfl | rfl | rfl | rfl | rfl | rfl | rfl
    · intro a' w' hb ha hdep
      have d1 : a'.tmps.getD 1 undef = .pointer (some ⟨w.heap.size, 0, none⟩) := ha.at 1 (by kernel_rfl)
      have hmk := fun (x : Value) (W : World) => SlotG.mk (x := x) (w := W) 0 rfl hGN
      clear hGN ha hdep
      go_simp
      exact ⟨_, rfl, Below.refl _ _, hmk _ _ rfl⟩
    · intro a' w' hb ha hdep
      have d4 : a'.tmps.getD 4 undef = .pointer (some ⟨w.heap.size, 0, none⟩) := (hdep 4 (of_decide_eq_true (by kernel_rfl))).is 0 rfl
      have hmk := fun (x : Value) (W : World) => SlotG.mk (x := x) (w := W) 1 rfl hGN
      clear hGN ha hdep
      have c0 : w'.cell? ⟨w.heap.size, 0, none⟩ = some (.int .i64 s) := (HR.out.below hb HR.out.lt).cell 0
      go_simp
      exact ⟨_, rfl, Below.refl _ _, hmk _ _ rfl⟩
    · intro a' w' hb ha hdep
      have d5 : a'.tmps.getD 5 undef = .int .i64 s := (hdep 5 (of_decide_eq_true (by kernel_rfl))).is 1 rfl
      have hmk := fun (x : Value) (W : World) => SlotG.mk (x := x) (w := W) 2 rfl hGN
      clear hGN ha hdep
      go_simp
      refine (HFS.out _).mono ?_
      rintro e w2 ⟨rfl, hb2⟩
      exact ⟨_, rfl, hb2, hmk _ _ rfl⟩
    · intro a' w' hb ha hdep
      have d1 : a'.tmps.getD 1 undef = .pointer (some ⟨w.heap.size, 0, none⟩) := ha.at 1 (by kernel_rfl)
      have hmk := fun (x : Value) (W : World) => SlotG.mk (x := x) (w := W) 3 rfl hGN
      clear hGN ha hdep
      go_simp
      exact ⟨_, rfl, Below.refl _ _, hmk _ _ rfl⟩
    · intro a' w' hb ha hdep
      have d7 : a'.tmps.getD 7 undef = .pointer (some ⟨w.heap.size, 1, none⟩) := (hdep 7 (of_decide_eq_true (by kernel_rfl))).is 3 rfl
      have hmk := fun (x : Value) (W : World) => SlotG.mk (x := x) (w := W) 4 rfl hGN
      clear hGN ha hdep
      have c1 : w'.cell? ⟨w.heap.size, 1, none⟩ = some (.int .i64 d) := (HR.out.below hb HR.out.lt).cell 1
      go_simp
      exact ⟨_, rfl, Below.refl _ _, hmk _ _ rfl⟩
    · intro a' w' hb ha hdep
      have d8 : a'.tmps.getD 8 undef = .int .i64 d := (hdep 8 (of_decide_eq_true (by kernel_rfl))).is 4 rfl
      have hmk := fun (x : Value) (W : World) => SlotG.mk (x := x) (w := W) 5 rfl hGN
      clear hGN ha hdep
      go_simp
      refine (HFD.out _).mono ?_
      rintro e w2 ⟨rfl, hb2⟩
      exact ⟨_, rfl, hb2, hmk _ _ rfl⟩
    · intro a' w' hb ha hdep
      have d6 : a'.tmps.getD 6 undef = .string FS := (hdep 6 (of_decide_eq_true (by kernel_rfl))).is 2 rfl
      have d9 : a'.tmps.getD 9 undef = .string FD := (hdep 9 (of_decide_eq_true (by kernel_rfl))).is 5 rfl
      have hmk := fun (x : Value) (W : World) => SlotG.mk (x := x) (w := W) 6 rfl hGN
      clear hGN ha hdep
      have hs : ¬ 9223372036854775807 < FS.size + FD.size := by omega
      go_simp
      exact ⟨_, rfl, Below.refl _ _, hmk _ _ rfl⟩
    · intro a' w' hb ha hdep
      have hmk := fun (x : Value) (W : World) => SlotG.mk (x := x) (w := W) 7 rfl hGN
      clear hGN ha hdep
      go_simp
      refine (HW17.out _).mono ?_
      rintro e w2 ⟨rfl, hb2⟩
      exact ⟨_, rfl, hb2, hmk _ _ rfl⟩
    · intro a' w' hb ha hdep
      have d10 : a'.tmps.getD 10 undef = .string (FS ++ FD) := (hdep 10 (of_decide_eq_true (by kernel_rfl))).is 6 rfl
      have d11 : a'.tmps.getD 11 undef = .string W17 := (hdep 11 (of_decide_eq_true (by kernel_rfl))).is 7 rfl
      have hmk := fun (x : Value) (W : World) => SlotG.mk (x := x) (w := W) 8 rfl hGN
      clear hGN ha hdep
      have hs : ¬ 9223372036854775807 < FS.size + FD.size + W17.size := by omega
      go_simp
      exact ⟨_, rfl, Below.refl _ _, hmk _ _ rfl⟩
    · intro a' w' hb ha hdep
      have d1 : a'.tmps.getD 1 undef = .pointer (some ⟨w.heap.size, 0, none⟩) := ha.at 1 (by kernel_rfl)
      have hmk := fun (x : Value) (W : World) => SlotG.mk (x := x) (w := W) 9 rfl hGN
      clear hGN ha hdep
      go_simp
      exact ⟨_, rfl, Below.refl _ _, hmk _ _ rfl⟩
    · intro a' w' hb ha hdep
      have d13 : a'.tmps.getD 13 undef = .pointer (some ⟨w.heap.size, 5, none⟩) := (hdep 13 (of_decide_eq_true (by kernel_rfl))).is 9 rfl
      have hmk := fun (x : Value) (W : World) => SlotG.mk (x := x) (w := W) 10 rfl hGN
      clear hGN ha hdep
      have c5 : w'.cell? ⟨w.heap.size, 5, none⟩ = some (.string t) := (HR.out.below hb HR.out.lt).cell 5
      go_simp
      exact ⟨_, rfl, Below.refl _ _, hmk _ _ rfl⟩
    · intro a' w' hb ha hdep
      have d14 : a'.tmps.getD 14 undef = .string t := (hdep 14 (of_decide_eq_true (by kernel_rfl))).is 10 rfl
      have hmk := fun (x : Value) (W : World) => SlotG.mk (x := x) (w := W) 11 rfl hGN
      clear hGN ha hdep
      go_simp
      exact ⟨_, rfl, Below.refl _ _, hmk _ _ rfl⟩
    · intro a' w' hb ha hdep
      have d15 : a'.tmps.getD 15 undef = .int .i64 (t.size : Int) := (hdep 15 (of_decide_eq_true (by kernel_rfl))).is 11 rfl
      have hmk := fun (x : Value) (W : World) => SlotG.mk (x := x) (w := W) 12 rfl hGN
      clear hGN ha hdep
      go_simp
      exact ⟨_, rfl, Below.refl _ _, hmk _ _ rfl⟩
    · intro a' w' hb ha hdep
      have d16 : a'.tmps.getD 16 undef = .int .i64 (8 + (t.size : Int)) := (hdep 16 (of_decide_eq_true (by kernel_rfl))).is 12 rfl
      have hmk := fun (x : Value) (W : World) => SlotG.mk (x := x) (w := W) 13 rfl hGN
      clear hGN ha hdep
      go_simp
      refine (HW8.out _).mono ?_
      rintro e w2 ⟨rfl, hb2⟩
      exact ⟨_, rfl, hb2, hmk _ _ rfl⟩
    · intro a' w' hb ha hdep
      have d12 : a'.tmps.getD 12 undef = .string (FS ++ FD ++ W17) := (hdep 12 (of_decide_eq_true (by kernel_rfl))).is 8 rfl
      have d17 : a'.tmps.getD 17 undef = .string W8 := (hdep 17 (of_decide_eq_true (by kernel_rfl))).is 13 rfl
      have hmk := fun (x : Value) (W : World) => SlotG.mk (x := x) (w := W) 14 rfl hGN
      clear hGN ha hdep
      have hs : ¬ 9223372036854775807 < FS.size + FD.size + W17.size + W8.size := by omega
      go_simp
      exact ⟨_, rfl, Below.refl _ _, hmk _ _ rfl⟩
    · intro a' w' hb ha hdep
      have d1 : a'.tmps.getD 1 undef = .pointer (some ⟨w.heap.size, 0, none⟩) := ha.at 1 (by kernel_rfl)
      have hmk := fun (x : Value) (W : World) => SlotG.mk (x := x) (w := W) 15 rfl hGN
      clear hGN ha hdep
      have c0 : w'.cell? ⟨w.heap.size, 0, none⟩ = some (.int .i64 s) := (HR.out.below hb HR.out.lt).cell 0
      have c1 : w'.cell? ⟨w.heap.size, 1, none⟩ = some (.int .i64 d) := (HR.out.below hb HR.out.lt).cell 1
      have c2 : w'.cell? ⟨w.heap.size, 2, none⟩ = some (.int .i64 sp) := (HR.out.below hb HR.out.lt).cell 2
      have c3 : w'.cell? ⟨w.heap.size, 3, none⟩ = some (.int .i64 dp) := (HR.out.below hb HR.out.lt).cell 3
      have c4 : w'.cell? ⟨w.heap.size, 4, none⟩ = some (.int .i64 ttl) := (HR.out.below hb HR.out.lt).cell 4
      have c5 : w'.cell? ⟨w.heap.size, 5, none⟩ = some (.string t) := (HR.out.below hb HR.out.lt).cell 5
      go_simp
      exact ⟨_, rfl, Below.refl _ _, hmk _ _ rfl⟩
    · intro a' w' hb ha hdep
      have d19 : a'.tmps.getD 19 undef = .agg #[.int .i64 s, .int .i64 d, .int .i64 sp, .int .i64 dp, .int .i64 ttl, .string t] := (hdep 19 (of_decide_eq_true (by kernel_rfl))).is 15 rfl
      have hmk := fun (x : Value) (W : World) => SlotG.mk (x := x) (w := W) 16 rfl hGN
      clear hGN ha hdep
      go_simp
      refine (HBD.out _).mono ?_
      rintro e w2 ⟨rfl, hb2⟩
      exact ⟨_, rfl, hb2, hmk _ _ rfl⟩
    · intro a' w' hb ha hdep
      have d18 : a'.tmps.getD 18 undef = .string (FS ++ FD ++ W17 ++ W8) := (hdep 18 (of_decide_eq_true (by kernel_rfl))).is 14 rfl
      have d20 : a'.tmps.getD 20 undef = .string BD := (hdep 20 (of_decide_eq_true (by kernel_rfl))).is 16 rfl
      have hmk := fun (x : Value) (W : World) => SlotG.mk (x := x) (w := W) 17 rfl hGN
      clear hGN ha hdep
      have hs : ¬ 9223372036854775807 < 12 + (8 + t.size) := by omega
      go_simp
      exact ⟨_, rfl, Below.refl _ _, hmk _ _ rfl⟩
    · intro a' w' hb ha hdep
      have d21 : a'.tmps.getD 21 undef = .string (FS ++ FD ++ W17 ++ W8 ++ BD) := (hdep 21 (of_decide_eq_true (by kernel_rfl))).is 17 rfl
      have hmk := fun (x : Value) (W : World) => SlotG.mk (x := x) (w := W) 18 rfl hGN
      clear hGN ha hdep
      go_simp
      refine (HSX.out _).mono ?_
      rintro e w2 ⟨rfl, rfl⟩
      exact ⟨_, rfl, Below.refl _ _, hmk _ _ rfl⟩
    · intro a' w' hb ha hdep
      have d22 : a'.tmps.getD 22 undef = .int .i64 (X : Int) := (hdep 22 (of_decide_eq_true (by kernel_rfl))).is 18 rfl
      have hmk := fun (x : Value) (W : World) => SlotG.mk (x := x) (w := W) 19 rfl hGN
      clear hGN ha hdep
      go_simp
      exact ⟨_, rfl, Below.refl _ _, hmk _ _ rfl⟩
  · intro a' w' hb ha hG
    clear hGN
    have d3 : a'.tmps.getD 3 undef = .int .i64 (X : Int) := (hG _ (List.mem_of_getElem? (i := 19) rfl) 3 rfl).is 19 rfl
    have d1 : a'.tmps.getD 1 undef = .pointer (some ⟨w.heap.size, 0, none⟩) := ha.at 1 (by kernel_rfl)
    have e2 : a' = ⟨#[a'.tmps.getD 0 undef, a'.tmps.getD 1 undef, a'.tmps.getD 2 undef, a'.tmps.getD 3 undef, a'.tmps.getD 4 undef, a'.tmps.getD 5 undef, a'.tmps.getD 6 undef, a'.tmps.getD 7 undef, a'.tmps.getD 8 undef, a'.tmps.getD 9 undef, a'.tmps.getD 10 undef, a'.tmps.getD 11 undef, a'.tmps.getD 12 undef, a'.tmps.getD 13 undef, a'.tmps.getD 14 undef, a'.tmps.getD 15 undef, a'.tmps.getD 16 undef, a'.tmps.getD 17 undef, a'.tmps.getD 18 undef, a'.tmps.getD 19 undef, a'.tmps.getD 20 undef, a'.tmps.getD 21 undef, a'.tmps.getD 22 undef, a'.tmps.getD 23 undef, a'.tmps.getD 24 undef, a'.tmps.getD 25 undef, a'.tmps.getD 26 undef, a'.tmps.getD 27 undef, a'.tmps.getD 28 undef, a'.tmps.getD 29 undef, a'.tmps.getD 30 undef, a'.tmps.getD 31 undef, a'.tmps.getD 32 undef, a'.tmps.getD 33 undef], []⟩ := by rw [← (show a'.defers = [] from ha.2.1)]; exact act_eq a' 34 ha.1
    rw [d3, d1] at e2
    clear hG ha d3 d1
    generalize a'.tmps.getD 0 undef = x0 at *
    generalize a'.tmps.getD 2 undef = x2 at *
    generalize a'.tmps.getD 4 undef = x4 at *
    generalize a'.tmps.getD 5 undef = x5 at *
    generalize a'.tmps.getD 6 undef = x6 at *
    generalize a'.tmps.getD 7 undef = x7 at *
    generalize a'.tmps.getD 8 undef = x8 at *
    generalize a'.tmps.getD 9 undef = x9 at *
    generalize a'.tmps.getD 10 undef = x10 at *
    generalize a'.tmps.getD 11 undef = x11 at *
    generalize a'.tmps.getD 12 undef = x12 at *
    generalize a'.tmps.getD 13 undef = x13 at *
    generalize a'.tmps.getD 14 undef = x14 at *
    generalize a'.tmps.getD 15 undef = x15 at *
    generalize a'.tmps.getD 16 undef = x16 at *
    generalize a'.tmps.getD 17 undef = x17 at *
    generalize a'.tmps.getD 18 undef = x18 at *
    generalize a'.tmps.getD 19 undef = x19 at *
    generalize a'.tmps.getD 20 undef = x20 at *
    generalize a'.tmps.getD 21 undef = x21 at *
    generalize a'.tmps.getD 22 undef = x22 at *
    generalize a'.tmps.getD 23 undef = x23 at *
    generalize a'.tmps.getD 24 undef = x24 at *
    generalize a'.tmps.getD 25 undef = x25 at *
    generalize a'.tmps.getD 26 undef = x26 at *
    generalize a'.tmps.getD 27 undef = x27 at *
    generalize a'.tmps.getD 28 undef = x28 at *
    generalize a'.tmps.getD 29 undef = x29 at *
    generalize a'.tmps.getD 30 undef = x30 at *
    generalize a'.tmps.getD 31 undef = x31 at *
    generalize a'.tmps.getD 32 undef = x32 at *
    generalize a'.tmps.getD 33 undef = x33 at *
    subst e2
    simp only [List.drop_succ_cons, List.drop_zero]
    have hB1 := (new_below0 w (.cells #[.int .i64 s, .int .i64 d, .int .i64 sp, .int .i64 dp, .int .i64 ttl, .string t] 40)).trans (hb.mono (by simp))
    have HR2 : Hid _ := HR.out.below hb HR.out.lt
    clear HR hb
    have HR : Hid (Row w' w.heap.size 40 [.int .i64 s, .int .i64 d, .int .i64 sp, .int .i64 dp, .int .i64 ttl, .string t]) := HR2
    clear HR2 HFS HFD HW17 HW8 HBD HSX
    generalize w' = w1 at *
    by_cases hX : X = 0
    · subst hX
      rw [HY0.out rfl] at HBY
      go_wp2_with fail
      have hGN : (([(25, Is (.agg #[.int .i64 s, .int .i64 d, .int .i64 sp, .int .i64 dp, .int .i64 ttl, .string t])), (26, Is (.agg #[.int .i64 s, .int .i64 d, .int .i64 sp, .int .i64 dp, .int .i64 ttl, .string t])), (27, Is (.string H0)), (28, Is (.int .i64 (HS : Int))), (29, Is (.string HD)), (30, Is (.agg #[.int .i64 s, .int .i64 d, .int .i64 sp, .int .i64 dp, .int .i64 ttl, .string t])), (31, Is (.int .i64 65535)), (32, Is (.string BY)), (33, Is (.string (HD ++ BY))), (2, Is (.string (HD ++ BY)))] : List (Nat × (Value → World → Prop))).map (·.1)).Nodup := by simp
      refine wp_region_steady 10 (SlotG [(25, Is (.agg #[.int .i64 s, .int .i64 d, .int .i64 sp, .int .i64 dp, .int .i64 ttl, .string t])), (26, Is (.agg #[.int .i64 s, .int .i64 d, .int .i64 sp, .int .i64 dp, .int .i64 ttl, .string t])), (27, Is (.string H0)), (28, Is (.int .i64 (HS : Int))), (29, Is (.string HD)), (30, Is (.agg #[.int .i64 s, .int .i64 d, .int .i64 sp, .int .i64 dp, .int .i64 ttl, .string t])), (31, Is (.int .i64 65535)), (32, Is (.string BY)), (33, Is (.string (HD ++ BY))), (2, Is (.string (HD ++ BY)))]) (by kernel_rfl) (by kernel_rfl) (Stabs.all ⟨stab_is _, stab_is _, stab_is _, stab_is _, stab_is _, stab_is _, stab_is _, stab_is _, stab_is _, stab_is _, trivial⟩) ?_ ?_
      · intro o ho
        simp only [List.take_succ_cons, List.take_zero, List.mem_cons, List.not_mem_nil, or_false] at ho
        rcases ho with rfl | rfl | rfl | rfl | rfl | rfl | rfl | rfl | rfl | rfl
        · intro a' w' hb ha hdep
          have d1 : a'.tmps.getD 1 undef = .pointer (some ⟨w.heap.size, 0, none⟩) := ha.at 1 (by kernel_rfl)
          have hmk := fun (x : Value) (W : World) => SlotG.mk (x := x) (w := W) 0 rfl hGN
          clear hGN ha hdep
          have c0 : w'.cell? ⟨w.heap.size, 0, none⟩ = some (.int .i64 s) := (HR.out.below hb HR.out.lt).cell 0
          have c1 : w'.cell? ⟨w.heap.size, 1, none⟩ = some (.int .i64 d) := (HR.out.below hb HR.out.lt).cell 1
          have c2 : w'.cell? ⟨w.heap.size, 2, none⟩ = some (.int .i64 sp) := (HR.out.below hb HR.out.lt).cell 2
          have c3 : w'.cell? ⟨w.heap.size, 3, none⟩ = some (.int .i64 dp) := (HR.out.below hb HR.out.lt).cell 3
          have c4 : w'.cell? ⟨w.heap.size, 4, none⟩ = some (.int .i64 ttl) := (HR.out.below hb HR.out.lt).cell 4
          have c5 : w'.cell? ⟨w.heap.size, 5, none⟩ = some (.string t) := (HR.out.below hb HR.out.lt).cell 5
          go_simp
          exact ⟨_, rfl, Below.refl _ _, hmk _ _ rfl⟩
        · intro a' w' hb ha hdep
          have d1 : a'.tmps.getD 1 undef = .pointer (some ⟨w.heap.size, 0, none⟩) := ha.at 1 (by kernel_rfl)
          have hmk := fun (x : Value) (W : World) => SlotG.mk (x := x) (w := W) 1 rfl hGN
          clear hGN ha hdep
          have c0 : w'.cell? ⟨w.heap.size, 0, none⟩ = some (.int .i64 s) := (HR.out.below hb HR.out.lt).cell 0
          have c1 : w'.cell? ⟨w.heap.size, 1, none⟩ = some (.int .i64 d) := (HR.out.below hb HR.out.lt).cell 1
          have c2 : w'.cell? ⟨w.heap.size, 2, none⟩ = some (.int .i64 sp) := (HR.out.below hb HR.out.lt).cell 2
          have c3 : w'.cell? ⟨w.heap.size, 3, none⟩ = some (.int .i64 dp) := (HR.out.below hb HR.out.lt).cell 3
          have c4 : w'.cell? ⟨w.heap.size, 4, none⟩ = some (.int .i64 ttl) := (HR.out.below hb HR.out.lt).cell 4
          have c5 : w'.cell? ⟨w.heap.size, 5, none⟩ = some (.string t) := (HR.out.below hb HR.out.lt).cell 5
          go_simp
          exact ⟨_, rfl, Below.refl _ _, hmk _ _ rfl⟩
        · intro a' w' hb ha hdep
          have d26 : a'.tmps.getD 26 undef = .agg #[.int .i64 s, .int .i64 d, .int .i64 sp, .int .i64 dp, .int .i64 ttl, .string t] := (hdep 26 (of_decide_eq_true (by kernel_rfl))).is 1 rfl
          have hmk := fun (x : Value) (W : World) => SlotG.mk (x := x) (w := W) 2 rfl hGN
          clear hGN ha hdep
          go_simp
          refine (HH0.out _).mono ?_
          rintro e w2 ⟨rfl, hb2⟩
          exact ⟨_, rfl, hb2, hmk _ _ rfl⟩
        · intro a' w' hb ha hdep
          have d27 : a'.tmps.getD 27 undef = .string H0 := (hdep 27 (of_decide_eq_true (by kernel_rfl))).is 2 rfl
          have hmk := fun (x : Value) (W : World) => SlotG.mk (x := x) (w := W) 3 rfl hGN
          clear hGN ha hdep
          go_simp
          refine (HSH.out _).mono ?_
          rintro e w2 ⟨rfl, rfl⟩
          exact ⟨_, rfl, Below.refl _ _, hmk _ _ rfl⟩
        · intro a' w' hb ha hdep
          have d25 : a'.tmps.getD 25 undef = .agg #[.int .i64 s, .int .i64 d, .int .i64 sp, .int .i64 dp, .int .i64 ttl, .string t] := (hdep 25 (of_decide_eq_true (by kernel_rfl))).is 0 rfl
          have d28 : a'.tmps.getD 28 undef = .int .i64 (HS : Int) := (hdep 28 (of_decide_eq_true (by kernel_rfl))).is 3 rfl
          have hmk := fun (x : Value) (W : World) => SlotG.mk (x := x) (w := W) 4 rfl hGN
          clear hGN ha hdep
          go_simp
          refine (HH1.out _).mono ?_
          rintro e w2 ⟨rfl, hb2⟩
          exact ⟨_, rfl, hb2, hmk _ _ rfl⟩
        · intro a' w' hb ha hdep
          have d1 : a'.tmps.getD 1 undef = .pointer (some ⟨w.heap.size, 0, none⟩) := ha.at 1 (by kernel_rfl)
          have hmk := fun (x : Value) (W : World) => SlotG.mk (x := x) (w := W) 5 rfl hGN
          clear hGN ha hdep
          have c0 : w'.cell? ⟨w.heap.size, 0, none⟩ = some (.int .i64 s) := (HR.out.below hb HR.out.lt).cell 0
          have c1 : w'.cell? ⟨w.heap.size, 1, none⟩ = some (.int .i64 d) := (HR.out.below hb HR.out.lt).cell 1
          have c2 : w'.cell? ⟨w.heap.size, 2, none⟩ = some (.int .i64 sp) := (HR.out.below hb HR.out.lt).cell 2
          have c3 : w'.cell? ⟨w.heap.size, 3, none⟩ = some (.int .i64 dp) := (HR.out.below hb HR.out.lt).cell 3
          have c4 : w'.cell? ⟨w.heap.size, 4, none⟩ = some (.int .i64 ttl) := (HR.out.below hb HR.out.lt).cell 4
          have c5 : w'.cell? ⟨w.heap.size, 5, none⟩ = some (.string t) := (HR.out.below hb HR.out.lt).cell 5
          go_simp
          exact ⟨_, rfl, Below.refl _ _, hmk _ _ rfl⟩
        · intro a' w' hb ha hdep
          have d3 : a'.tmps.getD 3 undef = .int .i64 65535 := ha.at 3 (by kernel_rfl)
          have hmk := fun (x : Value) (W : World) => SlotG.mk (x := x) (w := W) 6 rfl hGN
          clear hGN ha hdep
          go_simp
          exact ⟨_, rfl, Below.refl _ _, hmk _ _ rfl⟩
        · intro a' w' hb ha hdep
          have d30 : a'.tmps.getD 30 undef = .agg #[.int .i64 s, .int .i64 d, .int .i64 sp, .int .i64 dp, .int .i64 ttl, .string t] := (hdep 30 (of_decide_eq_true (by kernel_rfl))).is 5 rfl
          have d31 : a'.tmps.getD 31 undef = .int .i64 65535 := (hdep 31 (of_decide_eq_true (by kernel_rfl))).is 6 rfl
          have hmk := fun (x : Value) (W : World) => SlotG.mk (x := x) (w := W) 7 rfl hGN
          clear hGN ha hdep
          go_simp
          refine (HBY.out _).mono ?_
          rintro e w2 ⟨rfl, hb2⟩
          exact ⟨_, rfl, hb2, hmk _ _ rfl⟩
        · intro a' w' hb ha hdep
          have d29 : a'.tmps.getD 29 undef = .string HD := (hdep 29 (of_decide_eq_true (by kernel_rfl))).is 4 rfl
          have d32 : a'.tmps.getD 32 undef = .string BY := (hdep 32 (of_decide_eq_true (by kernel_rfl))).is 7 rfl
          have hmk := fun (x : Value) (W : World) => SlotG.mk (x := x) (w := W) 8 rfl hGN
          clear hGN ha hdep
          have hs : ¬ 9223372036854775807 < 20 + (8 + t.size) := by omega
          go_simp
          exact ⟨_, rfl, Below.refl _ _, hmk _ _ rfl⟩
        · intro a' w' hb ha hdep
          have d33 : a'.tmps.getD 33 undef = .string (HD ++ BY) := (hdep 33 (of_decide_eq_true (by kernel_rfl))).is 8 rfl
          have hmk := fun (x : Value) (W : World) => SlotG.mk (x := x) (w := W) 9 rfl hGN
          clear hGN ha hdep
          go_simp
          exact ⟨_, rfl, Below.refl _ _, hmk _ _ rfl⟩
      · intro a' w' hb ha hG
        clear hGN
        have d2 : a'.tmps.getD 2 undef = .string (HD ++ BY) := (hG _ (List.mem_of_getElem? (i := 9) rfl) 2 rfl).is 9 rfl
        simp only [List.drop_succ_cons, List.drop_zero]
        have hB := hB1.trans (hb.mono hB1.size)
        obtain ⟨T, D⟩ := a'
        obtain rfl : D = [] := ha.2.1
        clear hb hG ha
        go_wp2
        go_ret
        exact ⟨congrArg Ending.returned d2, hB⟩
    · have hXb : ((X : Int) == 0) = false := by simp; omega
      rw [HY1.out hX] at HBY
      go_wp2_with fail
      have hGN : (([(25, Is (.agg #[.int .i64 s, .int .i64 d, .int .i64 sp, .int .i64 dp, .int .i64 ttl, .string t])), (26, Is (.agg #[.int .i64 s, .int .i64 d, .int .i64 sp, .int .i64 dp, .int .i64 ttl, .string t])), (27, Is (.string H0)), (28, Is (.int .i64 (HS : Int))), (29, Is (.string HD)), (30, Is (.agg #[.int .i64 s, .int .i64 d, .int .i64 sp, .int .i64 dp, .int .i64 ttl, .string t])), (31, Is (.int .i64 (X : Int))), (32, Is (.string BY)), (33, Is (.string (HD ++ BY))), (2, Is (.string (HD ++ BY)))] : List (Nat × (Value → World → Prop))).map (·.1)).Nodup := by simp
      refine wp_region_steady 10 (SlotG [(25, Is (.agg #[.int .i64 s, .int .i64 d, .int .i64 sp, .int .i64 dp, .int .i64 ttl, .string t])), (26, Is (.agg #[.int .i64 s, .int .i64 d, .int .i64 sp, .int .i64 dp, .int .i64 ttl, .string t])), (27, Is (.string H0)), (28, Is (.int .i64 (HS : Int))), (29, Is (.string HD)), (30, Is (.agg #[.int .i64 s, .int .i64 d, .int .i64 sp, .int .i64 dp, .int .i64 ttl, .string t])), (31, Is (.int .i64 (X : Int))), (32, Is (.string BY)), (33, Is (.string (HD ++ BY))), (2, Is (.string (HD ++ BY)))]) (by kernel_rfl) (by kernel_rfl) (Stabs.all ⟨stab_is _, stab_is _, stab_is _, stab_is _, stab_is _, stab_is _, stab_is _, stab_is _, stab_is _, stab_is _, trivial⟩) ?_ ?_
      · intro o ho
        simp only [List.take_succ_cons, List.take_zero, List.mem_cons, List.not_mem_nil, or_false] at ho
        rcases ho with rfl | rfl | rfl | rfl | rfl | rfl | rfl | rfl | rfl | rfl
        · intro a' w' hb ha hdep
          have d1 : a'.tmps.getD 1 undef = .pointer (some ⟨w.heap.size, 0, none⟩) := ha.at 1 (by kernel_rfl)
          have hmk := fun (x : Value) (W : World) => SlotG.mk (x := x) (w := W) 0 rfl hGN
          clear hGN ha hdep
          have c0 : w'.cell? ⟨w.heap.size, 0, none⟩ = some (.int .i64 s) := (HR.out.below hb HR.out.lt).cell 0
          have c1 : w'.cell? ⟨w.heap.size, 1, none⟩ = some (.int .i64 d) := (HR.out.below hb HR.out.lt).cell 1
          have c2 : w'.cell? ⟨w.heap.size, 2, none⟩ = some (.int .i64 sp) := (HR.out.below hb HR.out.lt).cell 2
          have c3 : w'.cell? ⟨w.heap.size, 3, none⟩ = some (.int .i64 dp) := (HR.out.below hb HR.out.lt).cell 3
          have c4 : w'.cell? ⟨w.heap.size, 4, none⟩ = some (.int .i64 ttl) := (HR.out.below hb HR.out.lt).cell 4
          have c5 : w'.cell? ⟨w.heap.size, 5, none⟩ = some (.string t) := (HR.out.below hb HR.out.lt).cell 5
          go_simp
          exact ⟨_, rfl, Below.refl _ _, hmk _ _ rfl⟩
        · intro a' w' hb ha hdep
          have d1 : a'.tmps.getD 1 undef = .pointer (some ⟨w.heap.size, 0, none⟩) := ha.at 1 (by kernel_rfl)
          have hmk := fun (x : Value) (W : World) => SlotG.mk (x := x) (w := W) 1 rfl hGN
          clear hGN ha hdep
          have c0 : w'.cell? ⟨w.heap.size, 0, none⟩ = some (.int .i64 s) := (HR.out.below hb HR.out.lt).cell 0
          have c1 : w'.cell? ⟨w.heap.size, 1, none⟩ = some (.int .i64 d) := (HR.out.below hb HR.out.lt).cell 1
          have c2 : w'.cell? ⟨w.heap.size, 2, none⟩ = some (.int .i64 sp) := (HR.out.below hb HR.out.lt).cell 2
          have c3 : w'.cell? ⟨w.heap.size, 3, none⟩ = some (.int .i64 dp) := (HR.out.below hb HR.out.lt).cell 3
          have c4 : w'.cell? ⟨w.heap.size, 4, none⟩ = some (.int .i64 ttl) := (HR.out.below hb HR.out.lt).cell 4
          have c5 : w'.cell? ⟨w.heap.size, 5, none⟩ = some (.string t) := (HR.out.below hb HR.out.lt).cell 5
          go_simp
          exact ⟨_, rfl, Below.refl _ _, hmk _ _ rfl⟩
        · intro a' w' hb ha hdep
          have d26 : a'.tmps.getD 26 undef = .agg #[.int .i64 s, .int .i64 d, .int .i64 sp, .int .i64 dp, .int .i64 ttl, .string t] := (hdep 26 (of_decide_eq_true (by kernel_rfl))).is 1 rfl
          have hmk := fun (x : Value) (W : World) => SlotG.mk (x := x) (w := W) 2 rfl hGN
          clear hGN ha hdep
          go_simp
          refine (HH0.out _).mono ?_
          rintro e w2 ⟨rfl, hb2⟩
          exact ⟨_, rfl, hb2, hmk _ _ rfl⟩
        · intro a' w' hb ha hdep
          have d27 : a'.tmps.getD 27 undef = .string H0 := (hdep 27 (of_decide_eq_true (by kernel_rfl))).is 2 rfl
          have hmk := fun (x : Value) (W : World) => SlotG.mk (x := x) (w := W) 3 rfl hGN
          clear hGN ha hdep
          go_simp
          refine (HSH.out _).mono ?_
          rintro e w2 ⟨rfl, rfl⟩
          exact ⟨_, rfl, Below.refl _ _, hmk _ _ rfl⟩
        · intro a' w' hb ha hdep
          have d25 : a'.tmps.getD 25 undef = .agg #[.int .i64 s, .int .i64 d, .int .i64 sp, .int .i64 dp, .int .i64 ttl, .string t] := (hdep 25 (of_decide_eq_true (by kernel_rfl))).is 0 rfl
          have d28 : a'.tmps.getD 28 undef = .int .i64 (HS : Int) := (hdep 28 (of_decide_eq_true (by kernel_rfl))).is 3 rfl
          have hmk := fun (x : Value) (W : World) => SlotG.mk (x := x) (w := W) 4 rfl hGN
          clear hGN ha hdep
          go_simp
          refine (HH1.out _).mono ?_
          rintro e w2 ⟨rfl, hb2⟩
          exact ⟨_, rfl, hb2, hmk _ _ rfl⟩
        · intro a' w' hb ha hdep
          have d1 : a'.tmps.getD 1 undef = .pointer (some ⟨w.heap.size, 0, none⟩) := ha.at 1 (by kernel_rfl)
          have hmk := fun (x : Value) (W : World) => SlotG.mk (x := x) (w := W) 5 rfl hGN
          clear hGN ha hdep
          have c0 : w'.cell? ⟨w.heap.size, 0, none⟩ = some (.int .i64 s) := (HR.out.below hb HR.out.lt).cell 0
          have c1 : w'.cell? ⟨w.heap.size, 1, none⟩ = some (.int .i64 d) := (HR.out.below hb HR.out.lt).cell 1
          have c2 : w'.cell? ⟨w.heap.size, 2, none⟩ = some (.int .i64 sp) := (HR.out.below hb HR.out.lt).cell 2
          have c3 : w'.cell? ⟨w.heap.size, 3, none⟩ = some (.int .i64 dp) := (HR.out.below hb HR.out.lt).cell 3
          have c4 : w'.cell? ⟨w.heap.size, 4, none⟩ = some (.int .i64 ttl) := (HR.out.below hb HR.out.lt).cell 4
          have c5 : w'.cell? ⟨w.heap.size, 5, none⟩ = some (.string t) := (HR.out.below hb HR.out.lt).cell 5
          go_simp
          exact ⟨_, rfl, Below.refl _ _, hmk _ _ rfl⟩
        · intro a' w' hb ha hdep
          have d3 : a'.tmps.getD 3 undef = .int .i64 (X : Int) := ha.at 3 (by kernel_rfl)
          have hmk := fun (x : Value) (W : World) => SlotG.mk (x := x) (w := W) 6 rfl hGN
          clear hGN ha hdep
          go_simp
          exact ⟨_, rfl, Below.refl _ _, hmk _ _ rfl⟩
        · intro a' w' hb ha hdep
          have d30 : a'.tmps.getD 30 undef = .agg #[.int .i64 s, .int .i64 d, .int .i64 sp, .int .i64 dp, .int .i64 ttl, .string t] := (hdep 30 (of_decide_eq_true (by kernel_rfl))).is 5 rfl
          have d31 : a'.tmps.getD 31 undef = .int .i64 (X : Int) := (hdep 31 (of_decide_eq_true (by kernel_rfl))).is 6 rfl
          have hmk := fun (x : Value) (W : World) => SlotG.mk (x := x) (w := W) 7 rfl hGN
          clear hGN ha hdep
          go_simp
          refine (HBY.out _).mono ?_
          rintro e w2 ⟨rfl, hb2⟩
          exact ⟨_, rfl, hb2, hmk _ _ rfl⟩
        · intro a' w' hb ha hdep
          have d29 : a'.tmps.getD 29 undef = .string HD := (hdep 29 (of_decide_eq_true (by kernel_rfl))).is 4 rfl
          have d32 : a'.tmps.getD 32 undef = .string BY := (hdep 32 (of_decide_eq_true (by kernel_rfl))).is 7 rfl
          have hmk := fun (x : Value) (W : World) => SlotG.mk (x := x) (w := W) 8 rfl hGN
          clear hGN ha hdep
          have hs : ¬ 9223372036854775807 < 20 + (8 + t.size) := by omega
          go_simp
          exact ⟨_, rfl, Below.refl _ _, hmk _ _ rfl⟩
        · intro a' w' hb ha hdep
          have d33 : a'.tmps.getD 33 undef = .string (HD ++ BY) := (hdep 33 (of_decide_eq_true (by kernel_rfl))).is 8 rfl
          have hmk := fun (x : Value) (W : World) => SlotG.mk (x := x) (w := W) 9 rfl hGN
          clear hGN ha hdep
          go_simp
          exact ⟨_, rfl, Below.refl _ _, hmk _ _ rfl⟩
      · intro a' w' hb ha hG
        clear hGN
        have d2 : a'.tmps.getD 2 undef = .string (HD ++ BY) := (hG _ (List.mem_of_getElem? (i := 9) rfl) 2 rfl).is 9 rfl
        simp only [List.drop_succ_cons, List.drop_zero]
        have hB := hB1.trans (hb.mono hB1.size)
        obtain ⟨T, D⟩ := a'
        obtain rfl : D = [] := ha.2.1
        clear hb hG ha
        go_wp2
        go_ret
        exact ⟨congrArg Ending.returned d2, hB⟩
def dgO (s d sp dp ttl : Int) (t : ByteArray) : ByteArray := if dgB s d sp dp ttl t.size then dgT s d sp dp ttl t else ByteArray.empty
theorem dgO_in (s d sp dp ttl : Int) (t : ByteArray) (h : dgB s d sp dp ttl t.size = true) : dgO s d sp dp ttl t = dgT s d sp dp ttl t := if_pos h
theorem dgO_out (s d sp dp ttl : Int) (t : ByteArray) (h : ¬ dgB s d sp dp ttl t.size = true) : dgO s d sp dp ttl t = ByteArray.empty := if_neg h
set_option maxRecDepth 100000 in
theorem specDgramBytes_any (s d sp dp ttl : Int) (t : ByteArray) (w : World) :
    Calls Try.prog 34 #[dgV s d sp dp ttl t] w fun e w' => e = .returned (.string (dgO s d sp dp ttl t)) ∧ Below w.heap.size w w' := by
  have HR : Hid (∀ w, Calls Try.prog 41 #[dgV s d sp dp ttl t] w fun e w' => e = .returned (.bool (dgB s d sp dp ttl t.size)) ∧ Below w.heap.size w w') := specDgramRight_any s d sp dp ttl t
  by_cases hR : dgB s d sp dp ttl t.size = true
  · rw [dgO_in _ _ _ _ _ _ hR]
    rw [hR] at HR
    have HF : Hid (∀ w, Calls Try.prog 72 #[dgV s d sp dp ttl t] w fun e w' => e = .returned (.string (dgT s d sp dp ttl t)) ∧ Below w.heap.size w w') := fun w => specDgram_any s d sp dp ttl t w hR
    unfold dgV at *
    go_enter Try.func34, Try.ntmps34
    go_wp2_with fail
    refine (HR.out _).mono ?_
    rintro e w1 ⟨rfl, hb1⟩
    have q := (Row.new w 40 [.int .i64 s, .int .i64 d, .int .i64 sp, .int .i64 dp, .int .i64 ttl, .string t]).below hb1 (by simp)
    have c0 : w1.cell? ⟨w.heap.size, 0, none⟩ = some (.int .i64 s) := q.cell 0
    have c1 : w1.cell? ⟨w.heap.size, 1, none⟩ = some (.int .i64 d) := q.cell 1
    have c2 : w1.cell? ⟨w.heap.size, 2, none⟩ = some (.int .i64 sp) := q.cell 2
    have c3 : w1.cell? ⟨w.heap.size, 3, none⟩ = some (.int .i64 dp) := q.cell 3
    have c4 : w1.cell? ⟨w.heap.size, 4, none⟩ = some (.int .i64 ttl) := q.cell 4
    have c5 : w1.cell? ⟨w.heap.size, 5, none⟩ = some (.string t) := q.cell 5
    have hB1 := after_next (new_below0 w (.cells #[.int .i64 s, .int .i64 d, .int .i64 sp, .int .i64 dp, .int .i64 ttl, .string t] 40)) hb1 (by simp)
    clear hb1 q
    go_wp2_with fail
    refine (HF.out _).mono ?_
    rintro e w2 ⟨rfl, hb2⟩
    have hB2 := after_next hB1 hb2 hB1.size
    go_wp2
    go_ret
    exact ⟨rfl, hB2⟩
  · rw [dgO_out _ _ _ _ _ _ hR]
    rw [show dgB s d sp dp ttl t.size = false by simpa using hR] at HR
    unfold dgV at *
    go_enter Try.func34, Try.ntmps34
    go_wp2_with fail
    refine (HR.out _).mono ?_
    rintro e w1 ⟨rfl, hb1⟩
    have hB1 := after_next (new_below0 w (.cells #[.int .i64 s, .int .i64 d, .int .i64 sp, .int .i64 dp, .int .i64 ttl, .string t] 40)) hb1 (by simp)
    go_wp2
    go_ret
    exact ⟨rfl, hB1⟩
end Go.Proofs.Ytchgnjpbjnkdmaa
