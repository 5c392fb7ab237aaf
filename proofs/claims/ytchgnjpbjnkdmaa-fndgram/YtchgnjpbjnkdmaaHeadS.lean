/- A datagram's head, of the model. -/
import Derived.Test.YtchgnjpbjnkdmaaStabW
import Derived.Test.YtchgnjpbjnkdmaaGetS
import Derived.Test.YtchgnjpbjnkdmaaDgramR
import Derived.Test.YtchgnjpbjnkdmaaOwnV
namespace Go.Proofs.Ytchgnjpbjnkdmaa
open Go.RowKit

def fourQL (n : Int) : List UInt8 := wordL (n / 65536) ++ wordL n
def fourQ (n : Int) : ByteArray := ⟨(fourQL n).toArray⟩
theorem fourQ_size (n : Int) : (fourQ n).size = 4 := rfl
theorem fourQ_eq (n : Int) : wordT (n / 65536) ++ wordT (n % 65536) = fourQ n := by
  apply ByteArray.ext
  apply Array.toList_inj.1
  simp [wordT, fourQ, fourQL, wordL_low]
set_option maxRecDepth 100000 in
theorem spec4_any (n : Int) (w : World) (h0 : 0 ≤ n) (h1 : n ≤ 4294967295) :
    Calls Try.prog 81 #[.int .i64 n] w fun e w' => e = .returned (.string (fourQ n)) ∧ Below w.heap.size w w' := by
  have hd : n.tdiv 65536 = n / 65536 := Int.tdiv_eq_ediv_of_nonneg h0
  have hm : n.tmod 65536 = n % 65536 := Int.tmod_eq_emod_of_nonneg h0
  have hw1 := wrap_i64_in (n / 65536) (by omega) (by omega)
  have HE : Hid _ := fourQ_eq n
  have H1 : Hid (∀ w, Calls Try.prog 82 #[.int .i64 (n / 65536)] w fun e w' => e = .returned (.string (wordT (n / 65536))) ∧ Below w.heap.size w w') := fun w => specWord_any _ w (by omega) (by omega)
  have H2 : Hid (∀ w, Calls Try.prog 82 #[.int .i64 (n % 65536)] w fun e w' => e = .returned (.string (wordT (n % 65536))) ∧ Below w.heap.size w w') := fun w => specWord_any _ w (by omega) (by omega)
  have s1 := wordT_size (n / 65536)
  have s2 := wordT_size (n % 65536)
  generalize wordT (n / 65536) = A at *
  generalize wordT (n % 65536) = B at *
  go_enter Try.func81, Try.ntmps81
  go_wp2_with fail
  refine (H1.out _).mono ?_
  rintro e w1 ⟨rfl, hb1⟩
  go_wp2_with fail
  refine (H2.out _).mono ?_
  rintro e w2 ⟨rfl, hb2⟩
  go_wp2
  go_ret
  exact ⟨by rw [← HE.out]; rfl, hb1.trans (hb2.mono hb1.size)⟩
def bytesT (l : List UInt8) : ByteArray := ⟨l.toArray⟩
theorem two_new (w : World) (a b : Int) (ha : 0 ≤ a ∧ a < 256) (hb : 0 ≤ b ∧ b < 256) : RowB (w.alloc (.cells #[.int .u8 a, .int .u8 b] 5)) w.heap.size 5 [UInt8.ofNat a.toNat, UInt8.ofNat b.toNat] := by
  unfold RowB
  rw [show cellsB [UInt8.ofNat a.toNat, UInt8.ofNat b.toNat] = [.int .u8 a, .int .u8 b] by simp only [cellsB, List.map_cons, List.map_nil, byte_of_int a ha.1 ha.2, byte_of_int b hb.1 hb.2]]
  exact heap_alloc_new w _
def headT (s d ttl : Int) (n : Nat) (sum : Int) : ByteArray := ⟨(headL s d ttl n sum).toArray⟩
theorem headT_size (s d ttl : Int) (n : Nat) (sum : Int) : (headT s d ttl n sum).size = 20 := by
  show (headL s d ttl n sum).toArray.size = 20
  rw [List.size_toArray, headL_length]
theorem headT_eq (s d ttl : Int) (n : Nat) (sum : Int) (h0 : 0 ≤ ttl) (h1 : ttl ≤ 255) :
    bytesT [69, 0] ++ wordT (28 + (n : Int)) ++ fourQ 0 ++ bytesT [UInt8.ofNat ttl.toNat, 17] ++ wordT sum ++ fourQ s ++ fourQ d = headT s d ttl n sum := by
  apply ByteArray.ext
  apply Array.toList_inj.1
  have e0 : wordL 17664 = [69, 0] := rfl
  have e1 : fourQL 0 = [0, 0, 0, 0] := rfl
  have e2 : wordL 0 = [0, 0] := rfl
  have e3 : wordL (ttl * 256 + 17) = [UInt8.ofNat ttl.toNat, 17] := by
    unfold wordL
    rw [show (ttl * 256 + 17) / 256 % 256 = ttl by omega, show (ttl * 256 + 17) % 256 = 17 by omega]
    rfl
  simp [bytesT, wordT, fourQ, headT, headL, wordsL, e0, e1, e2, e3]
  simp [fourQL]
set_option maxRecDepth 100000 in
set_option maxHeartbeats 1000000 in
theorem specHead_any (s d sp dp ttl : Int) (t : ByteArray) (sum : Int) (w : World) (hs0 : 0 ≤ s ∧ s ≤ 4294967295) (hd0 : 0 ≤ d ∧ d ≤ 4294967295) (ht0 : 0 ≤ ttl ∧ ttl ≤ 255) (hn : t.size ≤ 300) (hm0 : 0 ≤ sum ∧ sum ≤ 65535) :
    Calls Try.prog 84 #[dgV s d sp dp ttl t, .int .i64 sum] w fun e w' => e = .returned (.string (headT s d ttl t.size sum)) ∧ Below w.heap.size w w' := by
  rw [← headT_eq s d ttl t.size sum ht0.1 ht0.2]
  unfold dgV
  have HW1 : Hid (∀ w, Calls Try.prog 82 #[.int .i64 (28 + (t.size : Int))] w fun e w' => e = .returned (.string (wordT (28 + (t.size : Int)))) ∧ Below w.heap.size w w') := fun w => specWord_any _ w (by omega) (by omega)
  have HW2 : Hid (∀ w, Calls Try.prog 82 #[.int .i64 sum] w fun e w' => e = .returned (.string (wordT sum)) ∧ Below w.heap.size w w') := fun w => specWord_any _ w (by omega) (by omega)
  have HF0 : Hid (∀ w, Calls Try.prog 81 #[.int .i64 0] w fun e w' => e = .returned (.string (fourQ 0)) ∧ Below w.heap.size w w') := fun w => spec4_any _ w (by omega) (by omega)
  have HFS : Hid (∀ w, Calls Try.prog 81 #[.int .i64 s] w fun e w' => e = .returned (.string (fourQ s)) ∧ Below w.heap.size w w') := fun w => spec4_any _ w (by omega) (by omega)
  have HFD : Hid (∀ w, Calls Try.prog 81 #[.int .i64 d] w fun e w' => e = .returned (.string (fourQ d)) ∧ Below w.heap.size w w') := fun w => spec4_any _ w (by omega) (by omega)
  have HL0 : Hid (∀ w : World, RowB (w.alloc (.cells #[.int .u8 69, .int .u8 0] 5)) w.heap.size 5 [69, 0]) := fun w => two_new w 69 0 (by omega) (by omega)
  have HL1 : Hid (∀ w : World, RowB (w.alloc (.cells #[.int .u8 ttl, .int .u8 17] 5)) w.heap.size 5 [UInt8.ofNat ttl.toNat, 17]) := fun w => two_new w ttl 17 (by omega) (by omega)
  have HC0 : Hid (∀ (w : World) (g : Nat), RowB w g 5 [69, 0] → (convert 22 9 (.slice (some ⟨g, 0, none⟩) 2 2)).run Try.prog w = .ok (.string (bytesT [69, 0])) w) := fun w g h => h.conv (bytesT [69, 0]) rfl (n := 2) rfl (by omega)
  have HC1 : Hid (∀ (w : World) (g : Nat), RowB w g 5 [UInt8.ofNat ttl.toNat, 17] → (convert 22 9 (.slice (some ⟨g, 0, none⟩) 2 2)).run Try.prog w = .ok (.string (bytesT [UInt8.ofNat ttl.toNat, 17])) w) := fun w g h => h.conv (bytesT [UInt8.ofNat ttl.toNat, 17]) rfl (n := 2) rfl (by omega)
  have hu : IntKind.u8.wrap ttl = ttl := by rw [IntKind.wrap_u8]; omega
  have hw1 := wrap_i64_in (28 + (t.size : Int)) (by omega) (by omega)
  have z0 : (bytesT [69, 0]).size = 2 := rfl
  have z1 := wordT_size (28 + (t.size : Int))
  have z2 := fourQ_size 0
  have z3 : (bytesT [UInt8.ofNat ttl.toNat, 17]).size = 2 := rfl
  have z4 := wordT_size sum
  have z5 := fourQ_size s
  have z6 := fourQ_size d
  have HR : Hid (Row (w.alloc (.cells #[.int .i64 s, .int .i64 d, .int .i64 sp, .int .i64 dp, .int .i64 ttl, .string t] 40)) w.heap.size 40 [.int .i64 s, .int .i64 d, .int .i64 sp, .int .i64 dp, .int .i64 ttl, .string t]) := Row.new w _ _
  generalize bytesT [69, 0] = A0 at *
  generalize wordT (28 + (t.size : Int)) = W1 at *
  generalize fourQ 0 = F0 at *
  generalize bytesT [UInt8.ofNat ttl.toNat, 17] = B0 at *
  generalize wordT sum = W2 at *
  generalize fourQ s = FS at *
  generalize fourQ d = FD at *
  go_enter Try.func84, Try.ntmps84
  go_wp2_with fail
  have hGN : (([(5, fun x W => ∃ g, x = .slice (some ⟨g, 0, none⟩) 2 2 ∧ RowB W g 5 [69, 0]), (6, Is (.string A0)), (7, Is (.pointer (some ⟨w.heap.size, 5, none⟩))), (8, Is (.string t)), (9, Is (.int .i64 (t.size : Int))), (10, Is (.int .i64 (28 + (t.size : Int)))), (11, Is (.string W1)), (12, Is (.string (A0 ++ W1))), (13, Is (.string F0)), (14, Is (.string (A0 ++ W1 ++ F0))), (15, Is (.pointer (some ⟨w.heap.size, 4, none⟩))), (16, Is (.int .i64 ttl)), (17, Is (.int .u8 ttl)), (18, fun x W => ∃ g, x = .slice (some ⟨g, 0, none⟩) 2 2 ∧ RowB W g 5 [UInt8.ofNat ttl.toNat, 17]), (19, Is (.string B0)), (20, Is (.string (A0 ++ W1 ++ F0 ++ B0))), (21, Is (.int .i64 sum)), (22, Is (.string W2)), (23, Is (.string (A0 ++ W1 ++ F0 ++ B0 ++ W2))), (24, Is (.pointer (some ⟨w.heap.size, 0, none⟩))), (25, Is (.int .i64 s)), (26, Is (.string FS)), (27, Is (.string (A0 ++ W1 ++ F0 ++ B0 ++ W2 ++ FS))), (28, Is (.pointer (some ⟨w.heap.size, 1, none⟩))), (29, Is (.int .i64 d)), (30, Is (.string FD)), (31, Is (.string (A0 ++ W1 ++ F0 ++ B0 ++ W2 ++ FS ++ FD))), (4, Is (.string (A0 ++ W1 ++ F0 ++ B0 ++ W2 ++ FS ++ FD)))] : List (Nat × (Value → World → Prop))).map (·.1)).Nodup := by simp
  refine wp_region_steady 28 (SlotG [(5, fun x W => ∃ g, x = .slice (some ⟨g, 0, none⟩) 2 2 ∧ RowB W g 5 [69, 0]), (6, Is (.string A0)), (7, Is (.pointer (some ⟨w.heap.size, 5, none⟩))), (8, Is (.string t)), (9, Is (.int .i64 (t.size : Int))), (10, Is (.int .i64 (28 + (t.size : Int)))), (11, Is (.string W1)), (12, Is (.string (A0 ++ W1))), (13, Is (.string F0)), (14, Is (.string (A0 ++ W1 ++ F0))), (15, Is (.pointer (some ⟨w.heap.size, 4, none⟩))), (16, Is (.int .i64 ttl)), (17, Is (.int .u8 ttl)), (18, fun x W => ∃ g, x = .slice (some ⟨g, 0, none⟩) 2 2 ∧ RowB W g 5 [UInt8.ofNat ttl.toNat, 17]), (19, Is (.string B0)), (20, Is (.string (A0 ++ W1 ++ F0 ++ B0))), (21, Is (.int .i64 sum)), (22, Is (.string W2)), (23, Is (.string (A0 ++ W1 ++ F0 ++ B0 ++ W2))), (24, Is (.pointer (some ⟨w.heap.size, 0, none⟩))), (25, Is (.int .i64 s)), (26, Is (.string FS)), (27, Is (.string (A0 ++ W1 ++ F0 ++ B0 ++ W2 ++ FS))), (28, Is (.pointer (some ⟨w.heap.size, 1, none⟩))), (29, Is (.int .i64 d)), (30, Is (.string FD)), (31, Is (.string (A0 ++ W1 ++ F0 ++ B0 ++ W2 ++ FS ++ FD))), (4, Is (.string (A0 ++ W1 ++ F0 ++ B0 ++ W2 ++ FS ++ FD)))]) (by kernel_rfl) (by kernel_rfl) (Stabs.all ⟨stab_rowB 2 [69, 0], stab_is _, stab_is _, stab_is _, stab_is _, stab_is _, stab_is _, stab_is _, stab_is _, stab_is _, stab_is _, stab_is _, stab_is _, stab_rowB 2 [UInt8.ofNat ttl.toNat, 17], stab_is _, stab_is _, stab_is _, stab_is _, stab_is _, stab_is _, stab_is _, stab_is _, stab_is _, stab_is _, stab_is _, stab_is _, stab_is _, stab_is _, trivial⟩) ?_ ?_
  · intro o ho
    simp only [List.take_succ_cons, List.take_zero, List.mem_cons, List.not_mem_nil, or_false] at ho
    rcases ho with rfl | rfl | rfl | rfl | rfl | rfl | rfl | rfl | rfl | rfl | rfl | rfl | rfl | rfl | rfl | rfl | rfl | rfl | rfl | rfl | rfl | rfl | rfl | rfl | rfl | rfl | rfl | rfl
    · intro a' w' hb ha hdep
      have hmk := fun (x : Value) (W : World) => SlotG.mk (x := x) (w := W) 0 rfl hGN
      clear hGN ha hdep
      go_simp
      exact ⟨_, rfl, new_below0 _ _, hmk _ _ ⟨_, rfl, HL0.out w'⟩⟩
    · intro a' w' hb ha hdep
      have D5 := (hdep 5 (of_decide_eq_true (by kernel_rfl))).get 0 rfl
      have hmk := fun (x : Value) (W : World) => SlotG.mk (x := x) (w := W) 1 rfl hGN
      clear hGN ha hdep
      obtain ⟨g, d5, hr5⟩ := D5
      have hconv := HC0.out w' g hr5
      go_simp
      exact ⟨_, rfl, Below.refl _ _, hmk _ _ rfl⟩
    · intro a' w' hb ha hdep
      have d2 : a'.tmps.getD 2 undef = .pointer (some ⟨w.heap.size, 0, none⟩) := ha.at 2 (by kernel_rfl)
      have hmk := fun (x : Value) (W : World) => SlotG.mk (x := x) (w := W) 2 rfl hGN
      clear hGN ha hdep
      go_simp
      exact ⟨_, rfl, Below.refl _ _, hmk _ _ rfl⟩
    · intro a' w' hb ha hdep
      have d7 : a'.tmps.getD 7 undef = .pointer (some ⟨w.heap.size, 5, none⟩) := (hdep 7 (of_decide_eq_true (by kernel_rfl))).is 2 rfl
      have hmk := fun (x : Value) (W : World) => SlotG.mk (x := x) (w := W) 3 rfl hGN
      clear hGN ha hdep
      have c5 : w'.cell? ⟨w.heap.size, 5, none⟩ = some (.string t) := (HR.out.below hb HR.out.lt).cell 5
      go_simp
      exact ⟨_, rfl, Below.refl _ _, hmk _ _ rfl⟩
    · intro a' w' hb ha hdep
      have d8 : a'.tmps.getD 8 undef = .string t := (hdep 8 (of_decide_eq_true (by kernel_rfl))).is 3 rfl
      have hmk := fun (x : Value) (W : World) => SlotG.mk (x := x) (w := W) 4 rfl hGN
      clear hGN ha hdep
      go_simp
      exact ⟨_, rfl, Below.refl _ _, hmk _ _ rfl⟩
    · intro a' w' hb ha hdep
      have d9 : a'.tmps.getD 9 undef = .int .i64 (t.size : Int) := (hdep 9 (of_decide_eq_true (by kernel_rfl))).is 4 rfl
      have hmk := fun (x : Value) (W : World) => SlotG.mk (x := x) (w := W) 5 rfl hGN
      clear hGN ha hdep
      go_simp
      exact ⟨_, rfl, Below.refl _ _, hmk _ _ rfl⟩
    · intro a' w' hb ha hdep
      have d10 : a'.tmps.getD 10 undef = .int .i64 (28 + (t.size : Int)) := (hdep 10 (of_decide_eq_true (by kernel_rfl))).is 5 rfl
      have hmk := fun (x : Value) (W : World) => SlotG.mk (x := x) (w := W) 6 rfl hGN
      clear hGN ha hdep
      go_simp
      refine (HW1.out _).mono ?_
      rintro e w2 ⟨rfl, hb2⟩
      exact ⟨_, rfl, hb2, hmk _ _ rfl⟩
    · intro a' w' hb ha hdep
      have d6 : a'.tmps.getD 6 undef = .string A0 := (hdep 6 (of_decide_eq_true (by kernel_rfl))).is 1 rfl
      have d11 : a'.tmps.getD 11 undef = .string W1 := (hdep 11 (of_decide_eq_true (by kernel_rfl))).is 6 rfl
      have hmk := fun (x : Value) (W : World) => SlotG.mk (x := x) (w := W) 7 rfl hGN
      clear hGN ha hdep
      have hs : ¬ 9223372036854775807 < A0.size + W1.size := by omega
      go_simp
      exact ⟨_, rfl, Below.refl _ _, hmk _ _ rfl⟩
    · intro a' w' hb ha hdep
      have hmk := fun (x : Value) (W : World) => SlotG.mk (x := x) (w := W) 8 rfl hGN
      clear hGN ha hdep
      go_simp
      refine (HF0.out _).mono ?_
      rintro e w2 ⟨rfl, hb2⟩
      exact ⟨_, rfl, hb2, hmk _ _ rfl⟩
    · intro a' w' hb ha hdep
      have d12 : a'.tmps.getD 12 undef = .string (A0 ++ W1) := (hdep 12 (of_decide_eq_true (by kernel_rfl))).is 7 rfl
      have d13 : a'.tmps.getD 13 undef = .string F0 := (hdep 13 (of_decide_eq_true (by kernel_rfl))).is 8 rfl
      have hmk := fun (x : Value) (W : World) => SlotG.mk (x := x) (w := W) 9 rfl hGN
      clear hGN ha hdep
      have hs : ¬ 9223372036854775807 < A0.size + W1.size + F0.size := by omega
      go_simp
      exact ⟨_, rfl, Below.refl _ _, hmk _ _ rfl⟩
    · intro a' w' hb ha hdep
      have d2 : a'.tmps.getD 2 undef = .pointer (some ⟨w.heap.size, 0, none⟩) := ha.at 2 (by kernel_rfl)
      have hmk := fun (x : Value) (W : World) => SlotG.mk (x := x) (w := W) 10 rfl hGN
      clear hGN ha hdep
      go_simp
      exact ⟨_, rfl, Below.refl _ _, hmk _ _ rfl⟩
    · intro a' w' hb ha hdep
      have d15 : a'.tmps.getD 15 undef = .pointer (some ⟨w.heap.size, 4, none⟩) := (hdep 15 (of_decide_eq_true (by kernel_rfl))).is 10 rfl
      have hmk := fun (x : Value) (W : World) => SlotG.mk (x := x) (w := W) 11 rfl hGN
      clear hGN ha hdep
      have c4 : w'.cell? ⟨w.heap.size, 4, none⟩ = some (.int .i64 ttl) := (HR.out.below hb HR.out.lt).cell 4
      go_simp
      exact ⟨_, rfl, Below.refl _ _, hmk _ _ rfl⟩
    · intro a' w' hb ha hdep
      have d16 : a'.tmps.getD 16 undef = .int .i64 ttl := (hdep 16 (of_decide_eq_true (by kernel_rfl))).is 11 rfl
      have hmk := fun (x : Value) (W : World) => SlotG.mk (x := x) (w := W) 12 rfl hGN
      clear hGN ha hdep
      go_simp
      exact ⟨_, rfl, Below.refl _ _, hmk _ _ rfl⟩
    · intro a' w' hb ha hdep
      have d17 : a'.tmps.getD 17 undef = .int .u8 ttl := (hdep 17 (of_decide_eq_true (by kernel_rfl))).is 12 rfl
      have hmk := fun (x : Value) (W : World) => SlotG.mk (x := x) (w := W) 13 rfl hGN
      clear hGN ha hdep
      rw [Array.getD_eq_getD_getElem?] at d17
      go_simp
      exact ⟨_, rfl, new_below0 _ _, hmk _ _ ⟨_, rfl, HL1.out w'⟩⟩
    · intro a' w' hb ha hdep
      have D18 := (hdep 18 (of_decide_eq_true (by kernel_rfl))).get 13 rfl
      have hmk := fun (x : Value) (W : World) => SlotG.mk (x := x) (w := W) 14 rfl hGN
      clear hGN ha hdep
      obtain ⟨g, d18, hr18⟩ := D18
      have hconv := HC1.out w' g hr18
      go_simp
      exact ⟨_, rfl, Below.refl _ _, hmk _ _ rfl⟩
    · intro a' w' hb ha hdep
      have d14 : a'.tmps.getD 14 undef = .string (A0 ++ W1 ++ F0) := (hdep 14 (of_decide_eq_true (by kernel_rfl))).is 9 rfl
      have d19 : a'.tmps.getD 19 undef = .string B0 := (hdep 19 (of_decide_eq_true (by kernel_rfl))).is 14 rfl
      have hmk := fun (x : Value) (W : World) => SlotG.mk (x := x) (w := W) 15 rfl hGN
      clear hGN ha hdep
      have hs : ¬ 9223372036854775807 < A0.size + W1.size + F0.size + B0.size := by omega
      go_simp
      exact ⟨_, rfl, Below.refl _ _, hmk _ _ rfl⟩
    · intro a' w' hb ha hdep
      have d1 : a'.tmps.getD 1 undef = .int .i64 sum := ha.at 1 (by kernel_rfl)
      have hmk := fun (x : Value) (W : World) => SlotG.mk (x := x) (w := W) 16 rfl hGN
      clear hGN ha hdep
      go_simp
      exact ⟨_, rfl, Below.refl _ _, hmk _ _ rfl⟩
    · intro a' w' hb ha hdep
      have d21 : a'.tmps.getD 21 undef = .int .i64 sum := (hdep 21 (of_decide_eq_true (by kernel_rfl))).is 16 rfl
      have hmk := fun (x : Value) (W : World) => SlotG.mk (x := x) (w := W) 17 rfl hGN
      clear hGN ha hdep
      go_simp
      refine (HW2.out _).mono ?_
      rintro e w2 ⟨rfl, hb2⟩
      exact ⟨_, rfl, hb2, hmk _ _ rfl⟩
    · intro a' w' hb ha hdep
      have d20 : a'.tmps.getD 20 undef = .string (A0 ++ W1 ++ F0 ++ B0) := (hdep 20 (of_decide_eq_true (by kernel_rfl))).is 15 rfl
      have d22 : a'.tmps.getD 22 undef = .string W2 := (hdep 22 (of_decide_eq_true (by kernel_rfl))).is 17 rfl
      have hmk := fun (x : Value) (W : World) => SlotG.mk (x := x) (w := W) 18 rfl hGN
      clear hGN ha hdep
      have hs : ¬ 9223372036854775807 < A0.size + W1.size + F0.size + B0.size + W2.size := by omega
      go_simp
      exact ⟨_, rfl, Below.refl _ _, hmk _ _ rfl⟩
    · intro a' w' hb ha hdep
      have d2 : a'.tmps.getD 2 undef = .pointer (some ⟨w.heap.size, 0, none⟩) := ha.at 2 (by kernel_rfl)
      have hmk := fun (x : Value) (W : World) => SlotG.mk (x := x) (w := W) 19 rfl hGN
      clear hGN ha hdep
      go_simp
      exact ⟨_, rfl, Below.refl _ _, hmk _ _ rfl⟩
    · intro a' w' hb ha hdep
      have d24 : a'.tmps.getD 24 undef = .pointer (some ⟨w.heap.size, 0, none⟩) := (hdep 24 (of_decide_eq_true (by kernel_rfl))).is 19 rfl
      have hmk := fun (x : Value) (W : World) => SlotG.mk (x := x) (w := W) 20 rfl hGN
      clear hGN ha hdep
      have c0 : w'.cell? ⟨w.heap.size, 0, none⟩ = some (.int .i64 s) := (HR.out.below hb HR.out.lt).cell 0
      go_simp
      exact ⟨_, rfl, Below.refl _ _, hmk _ _ rfl⟩
    · intro a' w' hb ha hdep
      have d25 : a'.tmps.getD 25 undef = .int .i64 s := (hdep 25 (of_decide_eq_true (by kernel_rfl))).is 20 rfl
      have hmk := fun (x : Value) (W : World) => SlotG.mk (x := x) (w := W) 21 rfl hGN
      clear hGN ha hdep
      go_simp
      refine (HFS.out _).mono ?_
      rintro e w2 ⟨rfl, hb2⟩
      exact ⟨_, rfl, hb2, hmk _ _ rfl⟩
    · intro a' w' hb ha hdep
      have d23 : a'.tmps.getD 23 undef = .string (A0 ++ W1 ++ F0 ++ B0 ++ W2) := (hdep 23 (of_decide_eq_true (by kernel_rfl))).is 18 rfl
      have d26 : a'.tmps.getD 26 undef = .string FS := (hdep 26 (of_decide_eq_true (by kernel_rfl))).is 21 rfl
      have hmk := fun (x : Value) (W : World) => SlotG.mk (x := x) (w := W) 22 rfl hGN
      clear hGN ha hdep
      have hs : ¬ 9223372036854775807 < A0.size + W1.size + F0.size + B0.size + W2.size + FS.size := by omega
      go_simp
      exact ⟨_, rfl, Below.refl _ _, hmk _ _ rfl⟩
    · intro a' w' hb ha hdep
      have d2 : a'.tmps.getD 2 undef = .pointer (some ⟨w.heap.size, 0, none⟩) := ha.at 2 (by kernel_rfl)
      have hmk := fun (x : Value) (W : World) => SlotG.mk (x := x) (w := W) 23 rfl hGN
      clear hGN ha hdep
      go_simp
      exact ⟨_, rfl, Below.refl _ _, hmk _ _ rfl⟩
    · intro a' w' hb ha hdep
      have d28 : a'.tmps.getD 28 undef = .pointer (some ⟨w.heap.size, 1, none⟩) := (hdep 28 (of_decide_eq_true (by kernel_rfl))).is 23 rfl
      have hmk := fun (x : Value) (W : World) => SlotG.mk (x := x) (w := W) 24 rfl hGN
      clear hGN ha hdep
      have c1 : w'.cell? ⟨w.heap.size, 1, none⟩ = some (.int .i64 d) := (HR.out.below hb HR.out.lt).cell 1
      go_simp
      exact ⟨_, rfl, Below.refl _ _, hmk _ _ rfl⟩
    · intro a' w' hb ha hdep
      have d29 : a'.tmps.getD 29 undef = .int .i64 d := (hdep 29 (of_decide_eq_true (by kernel_rfl))).is 24 rfl
      have hmk := fun (x : Value) (W : World) => SlotG.mk (x := x) (w := W) 25 rfl hGN
      clear hGN ha hdep
      go_simp
      refine (HFD.out _).mono ?_
      rintro e w2 ⟨rfl, hb2⟩
      exact ⟨_, rfl, hb2, hmk _ _ rfl⟩
    · intro a' w' hb ha hdep
      have d27 : a'.tmps.getD 27 undef = .string (A0 ++ W1 ++ F0 ++ B0 ++ W2 ++ FS) := (hdep 27 (of_decide_eq_true (by kernel_rfl))).is 22 rfl
      have d30 : a'.tmps.getD 30 undef = .string FD := (hdep 30 (of_decide_eq_true (by kernel_rfl))).is 25 rfl
      have hmk := fun (x : Value) (W : World) => SlotG.mk (x := x) (w := W) 26 rfl hGN
      clear hGN ha hdep
      have hs : ¬ 9223372036854775807 < A0.size + W1.size + F0.size + B0.size + W2.size + FS.size + FD.size := by omega
      go_simp
      exact ⟨_, rfl, Below.refl _ _, hmk _ _ rfl⟩
    · intro a' w' hb ha hdep
      have d31 : a'.tmps.getD 31 undef = .string (A0 ++ W1 ++ F0 ++ B0 ++ W2 ++ FS ++ FD) := (hdep 31 (of_decide_eq_true (by kernel_rfl))).is 26 rfl
      have hmk := fun (x : Value) (W : World) => SlotG.mk (x := x) (w := W) 27 rfl hGN
      clear hGN ha hdep
      go_simp
      exact ⟨_, rfl, Below.refl _ _, hmk _ _ rfl⟩
  · intro a' w' hb ha hG
    clear hGN
    have d4 : a'.tmps.getD 4 undef = .string (A0 ++ W1 ++ F0 ++ B0 ++ W2 ++ FS ++ FD) := (hG _ (List.mem_of_getElem? (i := 27) rfl) 4 rfl).is 27 rfl
    simp only [List.drop_succ_cons, List.drop_zero]
    have hB := (new_below0 w (.cells #[.int .i64 s, .int .i64 d, .int .i64 sp, .int .i64 dp, .int .i64 ttl, .string t] 40)).trans (hb.mono (by simp))
    obtain ⟨T, D⟩ := a'
    obtain rfl : D = [] := ha.2.1
    clear hb hG ha
    go_wp2
    go_ret
    exact ⟨congrArg Ending.returned d4, hB⟩
end Go.Proofs.Ytchgnjpbjnkdmaa
