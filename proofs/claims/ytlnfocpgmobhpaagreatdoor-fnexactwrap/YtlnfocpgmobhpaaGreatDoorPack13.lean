/- Texts that stand on each other, in one file: Rip5, EqBd, ToLk. -/
import Derived.Test.YtlnfocpgmobhpaaGreatDoorPack12
import Derived.Test.YtlnfocpgmobhpaaGreatDoorPack5
import Derived.Test.YtlnfocpgmobhpaaGreatDoorPack7
import Derived.Test.YtlnfocpgmobhpaaGreatDoorPack6
import Derived.Lib.QuietBelow
import Derived.BigQuiet
import Derived.Test.YtlnfocpgmobhpaaGreatDoorPack10
/- What routers say in bytes, of the model. -/
namespace Go.Proofs.YtlnfocpgmobhpaaGreatDoor
open Go.RowKit Go.Sort

theorem hd_conv (c : Int) (hc : 1 ≤ c ∧ c ≤ 2) (w : World) :
    (convert 127 9 (.slice (some ⟨w.heap.size, 0, none⟩) 4 4)).run Tryz.prog (w.alloc (.cells #[.int .u8 c, .int .u8 2, .int .u8 0, .int .u8 0] 5)) = .ok (.string (ripT c [])) (w.alloc (.cells #[.int .u8 c, .int .u8 2, .int .u8 0, .int .u8 0] 5)) := by
  have h := conv_lit w [c, 2, 0, 0] 4 rfl (by
    intro x hx
    simp only [List.mem_cons, List.not_mem_nil, or_false] at hx
    omega) (by omega)
  have e : (⟨([c, 2, 0, 0].map fun x => UInt8.ofNat x.toNat).toArray⟩ : ByteArray) = ripT c [] := by
    have h2 : c = 1 ∨ c = 2 := by omega
    rcases h2 with rfl | rfl <;> rfl
  rw [e] at h
  exact h
theorem ripT_next (c : Int) (es : List Ent) (k : Nat) (hk : k < es.length) (a l n m t : Int) (he : es[k] = ⟨a, l, n, m, t⟩) (hm : 1 ≤ m ∧ m ≤ 16) :
    ripT c (es.take k) ++ wordT 2 ++ wordT t ++ fourQ a ++ fourQ (maskV l) ++ fourQ n ++ fourQ m = ripT c (es.take (k + 1)) := by
  apply ByteArray.ext
  apply Array.toList_inj.1
  have e1 : fourQL m = wordL 0 ++ wordL m := by unfold fourQL; rw [show m / 65536 = 0 by omega]
  simp only [ripT, ripL, wordT, fourQ, entsBy_next es k hk, he, entBy, entNs, wordsL, List.flatMap_cons, List.flatMap_nil, ByteArray.data_append, Array.toList_append, e1]
  simp [fourQL]
set_option maxRecDepth 100000 in
set_option maxHeartbeats 1000000 in
theorem spec05Bytes_any (c : Int) (p : Option Addr) (cap : Nat) (es : List Ent) (w : World) (h : EntsIn w p es) (hr : ripB c es = true) :
    Calls Tryz.prog 59 #[ripV c p es.length cap] w fun e w' => e = .returned (.string (ripT c es)) ∧ Below w.heap.size w w' := by
  have HX : Hid (EntsIn w p es) := h
  obtain ⟨hc, h8, ha⟩ := ripB_spec hr
  have hc0 : 1 ≤ c ∧ c ≤ 2 := by omega
  have HA : Hid (es.all entB = true) := ha
  have hu : IntKind.u8.wrap c = c := by rw [IntKind.wrap_u8]; omega
  have hconv := hd_conv c hc0 (w.alloc (.cells #[.int .i64 c, .slice p es.length cap] 86))
  rw [show (w.alloc (.cells #[.int .i64 c, .slice p es.length cap] 86)).heap.size = w.heap.size + 1 by simp] at hconv
  have HK : Hid (∀ k, (ripT c (es.take k)).size ≤ 200) := fun k => by
    show (ripT c (es.take k)).size ≤ 200
    rw [ripT_size, List.length_take]; omega
  have HZ : Hid (ripT c [] = ripT c (es.take 0)) := rfl
  have HF : Hid (ripT c (es.take es.length) = ripT c es) := by show _ = _; rw [List.take_length]
  have hB0 : Below w.heap.size w ((w.alloc (.cells #[.int .i64 c, .slice p es.length cap] 86)).alloc (.cells #[.int .u8 c, .int .u8 2, .int .u8 0, .int .u8 0] 5)) := (ent_new0 w _).alloc (by simp) _
  have HC : Hid (∀ wr, Below (w.heap.size + 1) (w.alloc (.cells #[.int .i64 c, .slice p es.length cap] 86)) wr → wr.cell? ⟨w.heap.size, 1, none⟩ = some (.slice p es.length cap)) := fun wr hb => (rip_cell (by simpa using hb)).2
  unfold ripV
  clear h hr hc ha
  generalize ripT c [] = HD at *
  generalize ripT c es = RT at *
  go_enter Tryz.func59, Tryz.ntmps59
  go_wp2_with fail
  go_loopw [3, 4] (fun T i wr => ∃ k : Nat, k ≤ es.length ∧ i = .int .i64 k ∧ T = .string (ripT c (es.take k)) ∧ Below (w.heap.size + 1) (w.alloc (.cells #[.int .i64 c, .slice p es.length cap] 86)) wr) (fun _ i _ => es.length - (intOf i).toNat)
  case atStart => exact ⟨0, Nat.zero_le _, rfl, by rw [HZ.out], by have := ent_new0 (w.alloc (.cells #[.int .i64 c, .slice p es.length cap] 86)) (.cells #[.int .u8 c, .int .u8 2, .int .u8 0, .int .u8 0] 5); simpa using this⟩
  case round =>
    obtain ⟨k, hk, rfl, rfl, hb⟩ := hrel
    have x1 := HC.out _ hb
    have hbw : Below w.heap.size w wr := (ent_new0 w _).trans (hb.mono (by omega))
    by_cases hlt : k < es.length
    · obtain ⟨g, a, l, n, m, t, rfl, hg, hek, c0, c1, c2, c3, c4⟩ := (HX.out.below hbw).at k hlt
      have hgood := all_at HA.out k hlt
      rw [hek] at hgood
      obtain ⟨ga, gl, _, gn, gm, gt⟩ := entB_spec hgood
      have hmr := maskV_range l
      have HN : Hid _ := ripT_next c es k hlt a l n m t hek gm
      have hsz := HK.out k
      have HW2 : Hid (∀ w, Calls Tryz.prog 60 #[.int .i64 2] w fun e w' => e = .returned (.string (wordT 2)) ∧ Below w.heap.size w w') := fun w => specWord_any 2 w (by omega) (by omega)
      have HWt : Hid (∀ w, Calls Tryz.prog 60 #[.int .i64 t] w fun e w' => e = .returned (.string (wordT t)) ∧ Below w.heap.size w w') := fun w => specWord_any t w (by omega) (by omega)
      have HFa : Hid (∀ w, Calls Tryz.prog 61 #[.int .i64 a] w fun e w' => e = .returned (.string (fourQ a)) ∧ Below w.heap.size w w') := fun w => spec4_any a w (by omega) (by omega)
      have HFl : Hid (∀ w, Calls Tryz.prog 61 #[.int .i64 (maskV l)] w fun e w' => e = .returned (.string (fourQ (maskV l))) ∧ Below w.heap.size w w') := fun w => spec4_any (maskV l) w (by omega) (by omega)
      have HFn : Hid (∀ w, Calls Tryz.prog 61 #[.int .i64 n] w fun e w' => e = .returned (.string (fourQ n)) ∧ Below w.heap.size w w') := fun w => spec4_any n w (by omega) (by omega)
      have HFm : Hid (∀ w, Calls Tryz.prog 61 #[.int .i64 m] w fun e w' => e = .returned (.string (fourQ m)) ∧ Below w.heap.size w w') := fun w => spec4_any m w (by omega) (by omega)
      have HM : Hid (∀ w, Calls Tryz.prog 101 #[.int .i64 l] w fun e w' => e = .returned (.int .i64 (maskV l)) ∧ w = w') := specMask_any l
      have s1 := wordT_size 2
      have s2 := wordT_size t
      have s3 := fourQ_size a
      have s4 := fourQ_size (maskV l)
      have s5 := fourQ_size n
      have s6 := fourQ_size m
      clear HA hgood hek HK
      generalize ripT c (es.take k) = T0 at *
      generalize wordT 2 = W2 at *
      generalize wordT t = WT at *
      generalize fourQ a = FA at *
      generalize fourQ (maskV l) = FL at *
      generalize fourQ n = FN at *
      generalize fourQ m = FM at *
      generalize maskV l = M at *
      go_wp2_with fail
      have HR : Hid (Row (wr.alloc (.cells #[.int .i64 a, .int .i64 l, .int .i64 n, .int .i64 m, .int .i64 t] 123)) wr.heap.size 123 [.int .i64 a, .int .i64 l, .int .i64 n, .int .i64 m, .int .i64 t]) := Row.new wr _ _
      have hGN : (([(23, Is (.string T0)), (24, Is (.string W2)), (25, Is (.string (T0 ++ W2))), (26, Is (.pointer (some ⟨wr.heap.size, 4, none⟩))), (27, Is (.int .i64 t)), (28, Is (.string WT)), (29, Is (.string (T0 ++ W2 ++ WT))), (30, Is (.pointer (some ⟨wr.heap.size, 0, none⟩))), (31, Is (.pointer (some ⟨wr.heap.size, 0, none⟩))), (32, Is (.int .i64 a)), (33, Is (.string FA)), (34, Is (.string (T0 ++ W2 ++ WT ++ FA))), (35, Is (.pointer (some ⟨wr.heap.size, 0, none⟩))), (36, Is (.pointer (some ⟨wr.heap.size, 1, none⟩))), (37, Is (.int .i64 l)), (38, Is (.int .i64 M)), (39, Is (.string FL)), (40, Is (.string (T0 ++ W2 ++ WT ++ FA ++ FL))), (41, Is (.pointer (some ⟨wr.heap.size, 2, none⟩))), (42, Is (.int .i64 n)), (43, Is (.string FN)), (44, Is (.string (T0 ++ W2 ++ WT ++ FA ++ FL ++ FN))), (45, Is (.pointer (some ⟨wr.heap.size, 3, none⟩))), (46, Is (.int .i64 m)), (47, Is (.string FM)), (48, Is (.string (T0 ++ W2 ++ WT ++ FA ++ FL ++ FN ++ FM)))] : List (Nat × (Value → World → Prop))).map (·.1)).Nodup := by simp
      refine wp_region_steady 26 (SlotG [(23, Is (.string T0)), (24, Is (.string W2)), (25, Is (.string (T0 ++ W2))), (26, Is (.pointer (some ⟨wr.heap.size, 4, none⟩))), (27, Is (.int .i64 t)), (28, Is (.string WT)), (29, Is (.string (T0 ++ W2 ++ WT))), (30, Is (.pointer (some ⟨wr.heap.size, 0, none⟩))), (31, Is (.pointer (some ⟨wr.heap.size, 0, none⟩))), (32, Is (.int .i64 a)), (33, Is (.string FA)), (34, Is (.string (T0 ++ W2 ++ WT ++ FA))), (35, Is (.pointer (some ⟨wr.heap.size, 0, none⟩))), (36, Is (.pointer (some ⟨wr.heap.size, 1, none⟩))), (37, Is (.int .i64 l)), (38, Is (.int .i64 M)), (39, Is (.string FL)), (40, Is (.string (T0 ++ W2 ++ WT ++ FA ++ FL))), (41, Is (.pointer (some ⟨wr.heap.size, 2, none⟩))), (42, Is (.int .i64 n)), (43, Is (.string FN)), (44, Is (.string (T0 ++ W2 ++ WT ++ FA ++ FL ++ FN))), (45, Is (.pointer (some ⟨wr.heap.size, 3, none⟩))), (46, Is (.int .i64 m)), (47, Is (.string FM)), (48, Is (.string (T0 ++ W2 ++ WT ++ FA ++ FL ++ FN ++ FM)))]) (by kernel_rfl) (by kernel_rfl) (Stabs.all ⟨stab_is _, stab_is _, stab_is _, stab_is _, stab_is _, stab_is _, stab_is _, stab_is _, stab_is _, stab_is _, stab_is _, stab_is _, stab_is _, stab_is _, stab_is _, stab_is _, stab_is _, stab_is _, stab_is _, stab_is _, stab_is _, stab_is _, stab_is _, stab_is _, stab_is _, stab_is _, trivial⟩) ?_ ?_
      · intro o ho
        simp only [List.take_succ_cons, List.take_zero, List.mem_cons, List.not_mem_nil, or_false] at ho
        rcases ho with rfl | rfl | rfl | rfl | rfl | rfl | rfl | rfl | rfl | rfl | rfl | rfl | rfl | rfl | rfl | rfl | rfl | rfl | rfl | rfl | rfl | rfl | rfl | rfl | rfl | rfl
        · intro a' w' hb ha hdep
          have d3 : a'.tmps.getD 3 undef = .string T0 := ha.at 3 (by kernel_rfl)
          have hmk := fun (x : Value) (W : World) => SlotG.mk (x := x) (w := W) 0 rfl hGN
          clear hGN ha hdep
          go_simp
          exact ⟨_, rfl, Below.refl _ _, hmk _ _ rfl⟩
        · intro a' w' hb ha hdep
          have hmk := fun (x : Value) (W : World) => SlotG.mk (x := x) (w := W) 1 rfl hGN
          clear hGN ha hdep
          go_simp
          refine (HW2.out _).mono ?_
          rintro e w2 ⟨rfl, hb2⟩
          exact ⟨_, rfl, hb2, hmk _ _ rfl⟩
        · intro a' w' hb ha hdep
          have d23 : a'.tmps.getD 23 undef = .string T0 := (hdep 23 (of_decide_eq_true (by kernel_rfl))).is 0 rfl
          have d24 : a'.tmps.getD 24 undef = .string W2 := (hdep 24 (of_decide_eq_true (by kernel_rfl))).is 1 rfl
          have hmk := fun (x : Value) (W : World) => SlotG.mk (x := x) (w := W) 2 rfl hGN
          clear hGN ha hdep
          have hs : ¬ 9223372036854775807 < T0.size + 2 := by omega
          go_simp
          exact ⟨_, rfl, Below.refl _ _, hmk _ _ rfl⟩
        · intro a' w' hb ha hdep
          have d5 : a'.tmps.getD 5 undef = .pointer (some ⟨wr.heap.size, 0, none⟩) := ha.at 5 (by kernel_rfl)
          have hmk := fun (x : Value) (W : World) => SlotG.mk (x := x) (w := W) 3 rfl hGN
          clear hGN ha hdep
          go_simp
          exact ⟨_, rfl, Below.refl _ _, hmk _ _ rfl⟩
        · intro a' w' hb ha hdep
          have d26 : a'.tmps.getD 26 undef = .pointer (some ⟨wr.heap.size, 4, none⟩) := (hdep 26 (of_decide_eq_true (by kernel_rfl))).is 3 rfl
          have hmk := fun (x : Value) (W : World) => SlotG.mk (x := x) (w := W) 4 rfl hGN
          clear hGN ha hdep
          have c4 : w'.cell? ⟨wr.heap.size, 4, none⟩ = some (.int .i64 t) := (HR.out.below hb HR.out.lt).cell 4
          go_simp
          exact ⟨_, rfl, Below.refl _ _, hmk _ _ rfl⟩
        · intro a' w' hb ha hdep
          have d27 : a'.tmps.getD 27 undef = .int .i64 t := (hdep 27 (of_decide_eq_true (by kernel_rfl))).is 4 rfl
          have hmk := fun (x : Value) (W : World) => SlotG.mk (x := x) (w := W) 5 rfl hGN
          clear hGN ha hdep
          go_simp
          refine (HWt.out _).mono ?_
          rintro e w2 ⟨rfl, hb2⟩
          exact ⟨_, rfl, hb2, hmk _ _ rfl⟩
        · intro a' w' hb ha hdep
          have d25 : a'.tmps.getD 25 undef = .string (T0 ++ W2) := (hdep 25 (of_decide_eq_true (by kernel_rfl))).is 2 rfl
          have d28 : a'.tmps.getD 28 undef = .string WT := (hdep 28 (of_decide_eq_true (by kernel_rfl))).is 5 rfl
          have hmk := fun (x : Value) (W : World) => SlotG.mk (x := x) (w := W) 6 rfl hGN
          clear hGN ha hdep
          have hs : ¬ 9223372036854775807 < T0.size + 2 + 2 := by omega
          go_simp
          exact ⟨_, rfl, Below.refl _ _, hmk _ _ rfl⟩
        · intro a' w' hb ha hdep
          have d5 : a'.tmps.getD 5 undef = .pointer (some ⟨wr.heap.size, 0, none⟩) := ha.at 5 (by kernel_rfl)
          have hmk := fun (x : Value) (W : World) => SlotG.mk (x := x) (w := W) 7 rfl hGN
          clear hGN ha hdep
          go_simp
          exact ⟨_, rfl, Below.refl _ _, hmk _ _ rfl⟩
        · intro a' w' hb ha hdep
          have d30 : a'.tmps.getD 30 undef = .pointer (some ⟨wr.heap.size, 0, none⟩) := (hdep 30 (of_decide_eq_true (by kernel_rfl))).is 7 rfl
          have hmk := fun (x : Value) (W : World) => SlotG.mk (x := x) (w := W) 8 rfl hGN
          clear hGN ha hdep
          go_simp
          exact ⟨_, rfl, Below.refl _ _, hmk _ _ rfl⟩
        · intro a' w' hb ha hdep
          have d31 : a'.tmps.getD 31 undef = .pointer (some ⟨wr.heap.size, 0, none⟩) := (hdep 31 (of_decide_eq_true (by kernel_rfl))).is 8 rfl
          have hmk := fun (x : Value) (W : World) => SlotG.mk (x := x) (w := W) 9 rfl hGN
          clear hGN ha hdep
          have c0 : w'.cell? ⟨wr.heap.size, 0, none⟩ = some (.int .i64 a) := (HR.out.below hb HR.out.lt).cell 0
          go_simp
          exact ⟨_, rfl, Below.refl _ _, hmk _ _ rfl⟩
        · intro a' w' hb ha hdep
          have d32 : a'.tmps.getD 32 undef = .int .i64 a := (hdep 32 (of_decide_eq_true (by kernel_rfl))).is 9 rfl
          have hmk := fun (x : Value) (W : World) => SlotG.mk (x := x) (w := W) 10 rfl hGN
          clear hGN ha hdep
          go_simp
          refine (HFa.out _).mono ?_
          rintro e w2 ⟨rfl, hb2⟩
          exact ⟨_, rfl, hb2, hmk _ _ rfl⟩
        · intro a' w' hb ha hdep
          have d29 : a'.tmps.getD 29 undef = .string (T0 ++ W2 ++ WT) := (hdep 29 (of_decide_eq_true (by kernel_rfl))).is 6 rfl
          have d33 : a'.tmps.getD 33 undef = .string FA := (hdep 33 (of_decide_eq_true (by kernel_rfl))).is 10 rfl
          have hmk := fun (x : Value) (W : World) => SlotG.mk (x := x) (w := W) 11 rfl hGN
          clear hGN ha hdep
          have hs : ¬ 9223372036854775807 < T0.size + 2 + 2 + 4 := by omega
          go_simp
          exact ⟨_, rfl, Below.refl _ _, hmk _ _ rfl⟩
        · intro a' w' hb ha hdep
          have d5 : a'.tmps.getD 5 undef = .pointer (some ⟨wr.heap.size, 0, none⟩) := ha.at 5 (by kernel_rfl)
          have hmk := fun (x : Value) (W : World) => SlotG.mk (x := x) (w := W) 12 rfl hGN
          clear hGN ha hdep
          go_simp
          exact ⟨_, rfl, Below.refl _ _, hmk _ _ rfl⟩
        · intro a' w' hb ha hdep
          have d35 : a'.tmps.getD 35 undef = .pointer (some ⟨wr.heap.size, 0, none⟩) := (hdep 35 (of_decide_eq_true (by kernel_rfl))).is 12 rfl
          have hmk := fun (x : Value) (W : World) => SlotG.mk (x := x) (w := W) 13 rfl hGN
          clear hGN ha hdep
          go_simp
          exact ⟨_, rfl, Below.refl _ _, hmk _ _ rfl⟩
        · intro a' w' hb ha hdep
          have d36 : a'.tmps.getD 36 undef = .pointer (some ⟨wr.heap.size, 1, none⟩) := (hdep 36 (of_decide_eq_true (by kernel_rfl))).is 13 rfl
          have hmk := fun (x : Value) (W : World) => SlotG.mk (x := x) (w := W) 14 rfl hGN
          clear hGN ha hdep
          have c1 : w'.cell? ⟨wr.heap.size, 1, none⟩ = some (.int .i64 l) := (HR.out.below hb HR.out.lt).cell 1
          go_simp
          exact ⟨_, rfl, Below.refl _ _, hmk _ _ rfl⟩
        · intro a' w' hb ha hdep
          have d37 : a'.tmps.getD 37 undef = .int .i64 l := (hdep 37 (of_decide_eq_true (by kernel_rfl))).is 14 rfl
          have hmk := fun (x : Value) (W : World) => SlotG.mk (x := x) (w := W) 15 rfl hGN
          clear hGN ha hdep
          go_simp
          refine (HM.out _).mono ?_
          rintro e w2 ⟨rfl, rfl⟩
          exact ⟨_, rfl, Below.refl _ _, hmk _ _ rfl⟩
        · intro a' w' hb ha hdep
          have d38 : a'.tmps.getD 38 undef = .int .i64 M := (hdep 38 (of_decide_eq_true (by kernel_rfl))).is 15 rfl
          have hmk := fun (x : Value) (W : World) => SlotG.mk (x := x) (w := W) 16 rfl hGN
          clear hGN ha hdep
          go_simp
          refine (HFl.out _).mono ?_
          rintro e w2 ⟨rfl, hb2⟩
          exact ⟨_, rfl, hb2, hmk _ _ rfl⟩
        · intro a' w' hb ha hdep
          have d34 : a'.tmps.getD 34 undef = .string (T0 ++ W2 ++ WT ++ FA) := (hdep 34 (of_decide_eq_true (by kernel_rfl))).is 11 rfl
          have d39 : a'.tmps.getD 39 undef = .string FL := (hdep 39 (of_decide_eq_true (by kernel_rfl))).is 16 rfl
          have hmk := fun (x : Value) (W : World) => SlotG.mk (x := x) (w := W) 17 rfl hGN
          clear hGN ha hdep
          have hs : ¬ 9223372036854775807 < T0.size + 2 + 2 + 4 + 4 := by omega
          go_simp
          exact ⟨_, rfl, Below.refl _ _, hmk _ _ rfl⟩
        · intro a' w' hb ha hdep
          have d5 : a'.tmps.getD 5 undef = .pointer (some ⟨wr.heap.size, 0, none⟩) := ha.at 5 (by kernel_rfl)
          have hmk := fun (x : Value) (W : World) => SlotG.mk (x := x) (w := W) 18 rfl hGN
          clear hGN ha hdep
          go_simp
          exact ⟨_, rfl, Below.refl _ _, hmk _ _ rfl⟩
        · intro a' w' hb ha hdep
          have d41 : a'.tmps.getD 41 undef = .pointer (some ⟨wr.heap.size, 2, none⟩) := (hdep 41 (of_decide_eq_true (by kernel_rfl))).is 18 rfl
          have hmk := fun (x : Value) (W : World) => SlotG.mk (x := x) (w := W) 19 rfl hGN
          clear hGN ha hdep
          have c2 : w'.cell? ⟨wr.heap.size, 2, none⟩ = some (.int .i64 n) := (HR.out.below hb HR.out.lt).cell 2
          go_simp
          exact ⟨_, rfl, Below.refl _ _, hmk _ _ rfl⟩
        · intro a' w' hb ha hdep
          have d42 : a'.tmps.getD 42 undef = .int .i64 n := (hdep 42 (of_decide_eq_true (by kernel_rfl))).is 19 rfl
          have hmk := fun (x : Value) (W : World) => SlotG.mk (x := x) (w := W) 20 rfl hGN
          clear hGN ha hdep
          go_simp
          refine (HFn.out _).mono ?_
          rintro e w2 ⟨rfl, hb2⟩
          exact ⟨_, rfl, hb2, hmk _ _ rfl⟩
        · intro a' w' hb ha hdep
          have d40 : a'.tmps.getD 40 undef = .string (T0 ++ W2 ++ WT ++ FA ++ FL) := (hdep 40 (of_decide_eq_true (by kernel_rfl))).is 17 rfl
          have d43 : a'.tmps.getD 43 undef = .string FN := (hdep 43 (of_decide_eq_true (by kernel_rfl))).is 20 rfl
          have hmk := fun (x : Value) (W : World) => SlotG.mk (x := x) (w := W) 21 rfl hGN
          clear hGN ha hdep
          have hs : ¬ 9223372036854775807 < T0.size + 2 + 2 + 4 + 4 + 4 := by omega
          go_simp
          exact ⟨_, rfl, Below.refl _ _, hmk _ _ rfl⟩
        · intro a' w' hb ha hdep
          have d5 : a'.tmps.getD 5 undef = .pointer (some ⟨wr.heap.size, 0, none⟩) := ha.at 5 (by kernel_rfl)
          have hmk := fun (x : Value) (W : World) => SlotG.mk (x := x) (w := W) 22 rfl hGN
          clear hGN ha hdep
          go_simp
          exact ⟨_, rfl, Below.refl _ _, hmk _ _ rfl⟩
        · intro a' w' hb ha hdep
          have d45 : a'.tmps.getD 45 undef = .pointer (some ⟨wr.heap.size, 3, none⟩) := (hdep 45 (of_decide_eq_true (by kernel_rfl))).is 22 rfl
          have hmk := fun (x : Value) (W : World) => SlotG.mk (x := x) (w := W) 23 rfl hGN
          clear hGN ha hdep
          have c3 : w'.cell? ⟨wr.heap.size, 3, none⟩ = some (.int .i64 m) := (HR.out.below hb HR.out.lt).cell 3
          go_simp
          exact ⟨_, rfl, Below.refl _ _, hmk _ _ rfl⟩
        · intro a' w' hb ha hdep
          have d46 : a'.tmps.getD 46 undef = .int .i64 m := (hdep 46 (of_decide_eq_true (by kernel_rfl))).is 23 rfl
          have hmk := fun (x : Value) (W : World) => SlotG.mk (x := x) (w := W) 24 rfl hGN
          clear hGN ha hdep
          go_simp
          refine (HFm.out _).mono ?_
          rintro e w2 ⟨rfl, hb2⟩
          exact ⟨_, rfl, hb2, hmk _ _ rfl⟩
        · intro a' w' hb ha hdep
          have d44 : a'.tmps.getD 44 undef = .string (T0 ++ W2 ++ WT ++ FA ++ FL ++ FN) := (hdep 44 (of_decide_eq_true (by kernel_rfl))).is 21 rfl
          have d47 : a'.tmps.getD 47 undef = .string FM := (hdep 47 (of_decide_eq_true (by kernel_rfl))).is 24 rfl
          have hmk := fun (x : Value) (W : World) => SlotG.mk (x := x) (w := W) 25 rfl hGN
          clear hGN ha hdep
          have hs : ¬ 9223372036854775807 < T0.size + 2 + 2 + 4 + 4 + 4 + 4 := by omega
          go_simp
          exact ⟨_, rfl, Below.refl _ _, hmk _ _ rfl⟩
      · intro a' w' hb' ha hG
        clear hGN
        have d48 : a'.tmps.getD 48 undef = .string (T0 ++ W2 ++ WT ++ FA ++ FL ++ FN ++ FM) := (hG _ (List.mem_of_getElem? (i := 25) rfl) 48 rfl).is 25 rfl
        have d0 : a'.tmps.getD 0 undef = .agg #[.int .i64 c, .slice (some ⟨g, 0, none⟩) es.length cap] := ha.at 0 (by kernel_rfl)
        have d1 : a'.tmps.getD 1 undef = .pointer (some ⟨w.heap.size, 0, none⟩) := ha.at 1 (by kernel_rfl)
        have d2 : a'.tmps.getD 2 undef = .string ⟨#[]⟩ := ha.at 2 (by kernel_rfl)
        have d4 : a'.tmps.getD 4 undef = .int .i64 (k : Int) := ha.at 4 (by kernel_rfl)
        have d6 : a'.tmps.getD 6 undef = .pointer (some ⟨w.heap.size, 0, none⟩) := ha.at 6 (by kernel_rfl)
        have d7 : a'.tmps.getD 7 undef = .int .i64 c := ha.at 7 (by kernel_rfl)
        have d8 : a'.tmps.getD 8 undef = .int .u8 c := ha.at 8 (by kernel_rfl)
        have d9 : a'.tmps.getD 9 undef = .slice (some ⟨w.heap.size + 1, 0, none⟩) 4 4 := ha.at 9 (by kernel_rfl)
        have d10 : a'.tmps.getD 10 undef = .string HD := ha.at 10 (by kernel_rfl)
        have d49 : a'.tmps.getD 49 undef = undef := ha.at 49 (by kernel_rfl)
        have e2 : a' = ⟨#[a'.tmps.getD 0 undef, a'.tmps.getD 1 undef, a'.tmps.getD 2 undef, a'.tmps.getD 3 undef, a'.tmps.getD 4 undef, a'.tmps.getD 5 undef, a'.tmps.getD 6 undef, a'.tmps.getD 7 undef, a'.tmps.getD 8 undef, a'.tmps.getD 9 undef, a'.tmps.getD 10 undef, a'.tmps.getD 11 undef, a'.tmps.getD 12 undef, a'.tmps.getD 13 undef, a'.tmps.getD 14 undef, a'.tmps.getD 15 undef, a'.tmps.getD 16 undef, a'.tmps.getD 17 undef, a'.tmps.getD 18 undef, a'.tmps.getD 19 undef, a'.tmps.getD 20 undef, a'.tmps.getD 21 undef, a'.tmps.getD 22 undef, a'.tmps.getD 23 undef, a'.tmps.getD 24 undef, a'.tmps.getD 25 undef, a'.tmps.getD 26 undef, a'.tmps.getD 27 undef, a'.tmps.getD 28 undef, a'.tmps.getD 29 undef, a'.tmps.getD 30 undef, a'.tmps.getD 31 undef, a'.tmps.getD 32 undef, a'.tmps.getD 33 undef, a'.tmps.getD 34 undef, a'.tmps.getD 35 undef, a'.tmps.getD 36 undef, a'.tmps.getD 37 undef, a'.tmps.getD 38 undef, a'.tmps.getD 39 undef, a'.tmps.getD 40 undef, a'.tmps.getD 41 undef, a'.tmps.getD 42 undef, a'.tmps.getD 43 undef, a'.tmps.getD 44 undef, a'.tmps.getD 45 undef, a'.tmps.getD 46 undef, a'.tmps.getD 47 undef, a'.tmps.getD 48 undef, a'.tmps.getD 49 undef], []⟩ := by rw [← (show a'.defers = [] from ha.2.1)]; exact act_eq a' 50 ha.1
        rw [d48, d0, d1, d2, d4, d6, d7, d8, d9, d10, d49] at e2
        clear hG ha d48 d0 d1 d2 d4 d6 d7 d8 d9 d10 d49
        generalize a'.tmps.getD 3 undef = x3 at *
        generalize a'.tmps.getD 5 undef = x5 at *
        generalize a'.tmps.getD 11 undef = x11 at *
        generalize a'.tmps.getD 12 undef = x12 at *
        generalize a'.tmps.getD 13 undef = x13 at *
        generalize a'.tmps.getD 14 undef = x14 at *
        generalize a'.tmps.getD 15 undef = x15 at *
        generalize a'.tmps.getD 16 undef = x16 at *
        generalize a'.tmps.getD 17 undef = x17 at *
        generalize a'.tmps.getD 18 undef = x18 at *
        generalize a'.tmps.getD 19 undef = x19 at *
        generalize a'.tmps.getD 20 undef = x20 at *
        generalize a'.tmps.getD 21 undef = x21 at *
        generalize a'.tmps.getD 22 undef = x22 at *
        generalize a'.tmps.getD 23 undef = x23 at *
        generalize a'.tmps.getD 24 undef = x24 at *
        generalize a'.tmps.getD 25 undef = x25 at *
        generalize a'.tmps.getD 26 undef = x26 at *
        generalize a'.tmps.getD 27 undef = x27 at *
        generalize a'.tmps.getD 28 undef = x28 at *
        generalize a'.tmps.getD 29 undef = x29 at *
        generalize a'.tmps.getD 30 undef = x30 at *
        generalize a'.tmps.getD 31 undef = x31 at *
        generalize a'.tmps.getD 32 undef = x32 at *
        generalize a'.tmps.getD 33 undef = x33 at *
        generalize a'.tmps.getD 34 undef = x34 at *
        generalize a'.tmps.getD 35 undef = x35 at *
        generalize a'.tmps.getD 36 undef = x36 at *
        generalize a'.tmps.getD 37 undef = x37 at *
        generalize a'.tmps.getD 38 undef = x38 at *
        generalize a'.tmps.getD 39 undef = x39 at *
        generalize a'.tmps.getD 40 undef = x40 at *
        generalize a'.tmps.getD 41 undef = x41 at *
        generalize a'.tmps.getD 42 undef = x42 at *
        generalize a'.tmps.getD 43 undef = x43 at *
        generalize a'.tmps.getD 44 undef = x44 at *
        generalize a'.tmps.getD 45 undef = x45 at *
        generalize a'.tmps.getD 46 undef = x46 at *
        generalize a'.tmps.getD 47 undef = x47 at *
        subst e2
        simp only [List.drop_succ_cons, List.drop_zero]
        have hb2 := hb.trans (((ent_new0 wr (.cells #[.int .i64 a, .int .i64 l, .int .i64 n, .int .i64 m, .int .i64 t] 123)).trans (hb'.mono (by simp))).mono (by have := hb.size; simp at this; omega))
        rw [HN.out]
        clear hb' HN HW2 HWt HFa HFl HFn HFm HM HR c0 c1 c2 c3 c4 s1 s2 s3 s4 s5 s6 hsz x1 hconv hB0
        go_wp2
        go_roundw
        case rel => exact ⟨k + 1, hlt, by go_num, rfl, hb2⟩
        case measure => simp [intOf]; omega
    · obtain rfl : k = es.length := by omega
      rw [HF.out]
      clear hlt hk
      go_wp2
      go_ret
      exact ⟨rfl, hbw⟩
end Go.Proofs.YtlnfocpgmobhpaaGreatDoor
/- The laws' own look: Binds and lists of them are as themselves. (Written by gen_flat.py.) -/
namespace Go.Proofs.YtlnfocpgmobhpaaGreatDoor
open Go.RowKit Go.Sort

set_option maxRecDepth 100000 in
theorem eqBind_same (e : Bd) (w : World) : Calls Tryz.prog 50 #[bdV e, bdV e] w fun r w' => r = .returned (.bool true) ∧ Below w.heap.size w w' := by
  obtain ⟨po, vl, tn, ic⟩ := e
  unfold bdV
  have epo : (po != po) = false := by simp
  have evl : (vl != vl) = false := by simp
  have etn : (tn != tn) = false := by simp
  have eic : (ic != ic) = false := by simp
  go_enter Tryz.func50, Tryz.ntmps50
  go_wp2
  go_ret
  exact ⟨rfl, ((Below.refl _ _).alloc (Nat.le_refl _) _).alloc (by simp) _⟩
set_option maxHeartbeats 1000000 in
set_option maxRecDepth 100000 in
theorem eqBindS_any (p q : Option Addr) (c0 d0 : Nat) (es : List Bd) (w : World) (hp : BdsIn w p es) (hq : BdsIn w q es) (hn : es.length ≤ 100000000) : Calls Tryz.prog 24 #[.slice p es.length c0, .slice q es.length d0] w fun r w' => r = .returned (.bool true) ∧ Below w.heap.size w w' := by
  have HE : Hid (∀ e w, Calls Tryz.prog 50 #[bdV e, bdV e] w fun r w' => r = .returned (.bool true) ∧ Below w.heap.size w w') := eqBind_same
  have HX : Hid (BdsIn w p es ∧ BdsIn w q es) := ⟨hp, hq⟩
  have h0 : ((es.length : Int) != (es.length : Int)) = false := by simp
  clear hp hq
  go_enter Tryz.func24, Tryz.ntmps24
  go_wp2_with fail
  go_loopw [5] (fun i wr => ∃ k : Nat, k ≤ es.length ∧ i = .int .i64 k ∧ Below w.heap.size w wr) (fun i _ => es.length - (intOf i).toNat)
  case atStart => exact ⟨0, Nat.zero_le _, rfl, Below.refl _ _⟩
  case round =>
    obtain ⟨k, hk, rfl, hb⟩ := hrel
    by_cases hlt : k < es.length
    · obtain ⟨g, po, vl, tn, ic, rfl, hg, hek, x0, x1, x2, x3⟩ := (HX.out.1.below hb).at k hlt
      obtain ⟨g', po', vl', tn', ic', rfl, hg', hek', y0, y1, y2, y3⟩ := (HX.out.2.below hb).at k hlt
      rw [hek] at hek'
      simp only [Bd.mk.injEq] at hek'
      obtain ⟨rfl, rfl, rfl, rfl⟩ := hek'
      have HEk : Hid (∀ w, Calls Tryz.prog 50 #[.agg #[.int .i64 po, .int .i64 vl, .int .i64 tn, .int .i64 ic], .agg #[.int .i64 po, .int .i64 vl, .int .i64 tn, .int .i64 ic]] w fun r w' => r = .returned (.bool true) ∧ Below w.heap.size w w') := HE.out ⟨po, vl, tn, ic⟩
      clear HE hek HX
      replace x0 := cell_regrown x0
      replace y0 := cell_regrown y0
      replace x1 := cell_regrown x1
      replace y1 := cell_regrown y1
      replace x2 := cell_regrown x2
      replace y2 := cell_regrown y2
      replace x3 := cell_regrown x3
      replace y3 := cell_regrown y3
      go_wp2_with fail
      refine wp_region_quiet_below (by kernel_rfl) (by kernel_rfl) ?_
      repeat (go_big_quiet_step ((go_at_call 50; exact Calls.regrown_of (HEk.out _))))
      refine wpQuiet_nil ?_
      intro w1 hw'
      obtain ⟨⟨dq, osq⟩, hw''⟩ := hw'
      have hbq := below_regrown wr dq osq
      rw [← hw''] at hbq
      clear hw'' osq dq x0 x1 x2 x3 y0 y1 y2 y3 HEk
      have hb2 := hb.trans (hbq.mono hb.size)
      clear hbq
      go_wp2
      go_roundw
      case rel => exact ⟨k + 1, hlt, by go_num, hb2⟩
      case measure => simp [intOf]; omega
    · obtain rfl : k = es.length := by omega
      clear hlt hk
      go_wp2
      go_ret
      exact ⟨rfl, hb⟩
end Go.Proofs.YtlnfocpgmobhpaaGreatDoor
/- A Leak handed over by the laws. (Written by gen_lk.py.) -/
namespace Go.Proofs.YtlnfocpgmobhpaaGreatDoor
open Go.RowKit Go.Sort

theorem three_newK (w : World) (x y z : List Value) (t1 t2 t3 : TypeId) : ∃ W, W = ((w.alloc (.cells x.toArray t1)).alloc (.cells y.toArray t2)).alloc (.cells z.toArray t3) ∧ Row W w.heap.size t1 x ∧ Row W (w.heap.size + 1) t2 y ∧ Row W (w.heap.size + 1 + 1) t3 z ∧ Below w.heap.size w W ∧ W.heap.size = w.heap.size + 1 + 1 + 1 := by
  have q0 := ((Row.new w t1 x).alloc (.cells y.toArray t2)).alloc (.cells z.toArray t3)
  have q1 := (Row.new (w.alloc (.cells x.toArray t1)) t2 y).alloc (.cells z.toArray t3)
  have q2 := Row.new ((w.alloc (.cells x.toArray t1)).alloc (.cells y.toArray t2)) t3 z
  rw [show (w.alloc (.cells x.toArray t1)).heap.size = w.heap.size + 1 by simp] at q1
  rw [show ((w.alloc (.cells x.toArray t1)).alloc (.cells y.toArray t2)).heap.size = w.heap.size + 1 + 1 by simp] at q2
  exact ⟨_, rfl, q0, q1, q2, ((ent_new0 w _).alloc (by simp) _).alloc (by simp; omega) _, by simp⟩
set_option maxRecDepth 100000 in
set_option maxHeartbeats 1000000 in
theorem toLeak_any (f : Lk) (w : World) : Calls Tryz.prog 38 #[lkV f] w fun e w' => e = .returned (lkV f) ∧ Below w.heap.size w w' := by
  have HT : Hid (∀ w, Calls Tryz.prog 69 #[.agg #[.int .i64 f.a, .int .i64 f.l]] w fun e w' => e = .returned (.agg #[.int .i64 f.a, .int .i64 f.l]) ∧ Below w.heap.size w w') := toNet_any f.a f.l
  obtain ⟨fr, tt, a, l, ad, tg⟩ := f
  unfold lkV lkA
  simp only at HT ⊢
  obtain ⟨W, hW, q0, q1, q2, hB, hS⟩ := three_newK w [.int .i64 fr, .int .i64 tt, .int .i64 a, .int .i64 l, .int .i64 ad, .int .i64 tg] [.int .i64 0, .int .i64 0, .int .i64 0, .int .i64 0, .int .i64 0, .int .i64 0] [.int .i64 fr, .int .i64 tt, .int .i64 0, .int .i64 0, .int .i64 0, .int .i64 0] 106 102 102
  have HW : Hid _ := hW
  have HQ : Hid _ := And.intro q0 (And.intro q1 (And.intro q2 (And.intro hB hS)))
  clear hW q0 q1 q2 hB hS
  go_enter Tryz.func38, Tryz.ntmps38
  go_wp2_with fail
  refine (HT.out _).mono ?_
  rintro e w1 ⟨rfl, hb1⟩
  rw [← HW.out] at hb1
  obtain ⟨q0, q1, q2, hB, hS⟩ := HQ.out
  have p0 := q0.below hb1 q0.lt
  have p1 := q1.below hb1 q1.lt
  have p2 := q2.below hb1 q2.lt
  have hB := hB.trans (hb1.mono (by omega))
  clear q0 q1 q2 hb1 HW HQ HT
  have a0 : w1.cell? ⟨w.heap.size, 0, none⟩ = some (.int .i64 fr) := p0.cell 0
  have a1 : w1.cell? ⟨w.heap.size, 1, none⟩ = some (.int .i64 tt) := p0.cell 1
  have a2 : w1.cell? ⟨w.heap.size, 2, none⟩ = some (.int .i64 a) := p0.cell 2
  have a3 : w1.cell? ⟨w.heap.size, 3, none⟩ = some (.int .i64 l) := p0.cell 3
  have a4 : w1.cell? ⟨w.heap.size, 4, none⟩ = some (.int .i64 ad) := p0.cell 4
  have a5 : w1.cell? ⟨w.heap.size, 5, none⟩ = some (.int .i64 tg) := p0.cell 5
  have b0 : w1.cell? ⟨w.heap.size + 1, 0, none⟩ = some (.int .i64 0) := p1.cell 0
  have f0 := p1.frozen 0
  have b1 : w1.cell? ⟨w.heap.size + 1, 1, none⟩ = some (.int .i64 0) := p1.cell 1
  have f1 := p1.frozen 1
  have b2 : w1.cell? ⟨w.heap.size + 1, 2, none⟩ = some (.int .i64 0) := p1.cell 2
  have f2 := p1.frozen 2
  have b3 : w1.cell? ⟨w.heap.size + 1, 3, none⟩ = some (.int .i64 0) := p1.cell 3
  have f3 := p1.frozen 3
  have b4 : w1.cell? ⟨w.heap.size + 1, 4, none⟩ = some (.int .i64 0) := p1.cell 4
  have f4 := p1.frozen 4
  have b5 : w1.cell? ⟨w.heap.size + 1, 5, none⟩ = some (.int .i64 0) := p1.cell 5
  have f5 := p1.frozen 5
  have d0 : w1.cell? ⟨w.heap.size + 1 + 1, 0, none⟩ = some (.int .i64 fr) := p2.cell 0
  have g0 := p2.frozen 0
  have d1 : w1.cell? ⟨w.heap.size + 1 + 1, 1, none⟩ = some (.int .i64 tt) := p2.cell 1
  have g1 := p2.frozen 1
  have d2 : w1.cell? ⟨w.heap.size + 1 + 1, 2, none⟩ = some (.int .i64 0) := p2.cell 2
  have g2 := p2.frozen 2
  have d3 : w1.cell? ⟨w.heap.size + 1 + 1, 3, none⟩ = some (.int .i64 0) := p2.cell 3
  have g3 := p2.frozen 3
  have d4 : w1.cell? ⟨w.heap.size + 1 + 1, 4, none⟩ = some (.int .i64 0) := p2.cell 4
  have g4 := p2.frozen 4
  have d5 : w1.cell? ⟨w.heap.size + 1 + 1, 5, none⟩ = some (.int .i64 0) := p2.cell 5
  have g5 := p2.frozen 5
  have HE : Hid (Row (((((((((((w1.setCell ⟨w.heap.size + 1 + 1, 2, none⟩ (.int .i64 a)).setCell ⟨w.heap.size + 1 + 1, 3, none⟩ (.int .i64 l)).setCell ⟨w.heap.size + 1 + 1, 4, none⟩ (.int .i64 ad)).setCell ⟨w.heap.size + 1 + 1, 5, none⟩ (.int .i64 tg)).setCell ⟨w.heap.size + 1, 0, none⟩ (.int .i64 fr)).setCell ⟨w.heap.size + 1, 1, none⟩ (.int .i64 tt)).setCell ⟨w.heap.size + 1, 2, none⟩ (.int .i64 a)).setCell ⟨w.heap.size + 1, 3, none⟩ (.int .i64 l)).setCell ⟨w.heap.size + 1, 4, none⟩ (.int .i64 ad)).setCell ⟨w.heap.size + 1, 5, none⟩ (.int .i64 tg))) (w.heap.size + 1) 102 [.int .i64 fr, .int .i64 tt, .int .i64 a, .int .i64 l, .int .i64 ad, .int .i64 tg] ∧ Below w.heap.size w (((((((((((w1.setCell ⟨w.heap.size + 1 + 1, 2, none⟩ (.int .i64 a)).setCell ⟨w.heap.size + 1 + 1, 3, none⟩ (.int .i64 l)).setCell ⟨w.heap.size + 1 + 1, 4, none⟩ (.int .i64 ad)).setCell ⟨w.heap.size + 1 + 1, 5, none⟩ (.int .i64 tg)).setCell ⟨w.heap.size + 1, 0, none⟩ (.int .i64 fr)).setCell ⟨w.heap.size + 1, 1, none⟩ (.int .i64 tt)).setCell ⟨w.heap.size + 1, 2, none⟩ (.int .i64 a)).setCell ⟨w.heap.size + 1, 3, none⟩ (.int .i64 l)).setCell ⟨w.heap.size + 1, 4, none⟩ (.int .i64 ad)).setCell ⟨w.heap.size + 1, 5, none⟩ (.int .i64 tg)))) := ⟨((((((((((p1.other 2 (.int .i64 a) (by omega)).other 3 (.int .i64 l) (by omega)).other 4 (.int .i64 ad) (by omega)).other 5 (.int .i64 tg) (by omega)).set 0 (.int .i64 fr)).set 1 (.int .i64 tt)).set 2 (.int .i64 a)).set 3 (.int .i64 l)).set 4 (.int .i64 ad)).set 5 (.int .i64 tg)), ((((((((((hB.setCell (p := ⟨w.heap.size + 1 + 1, 2, none⟩) (by show w.heap.size ≤ w.heap.size + 1 + 1; omega) (.int .i64 a)).setCell (p := ⟨w.heap.size + 1 + 1, 3, none⟩) (by show w.heap.size ≤ w.heap.size + 1 + 1; omega) (.int .i64 l)).setCell (p := ⟨w.heap.size + 1 + 1, 4, none⟩) (by show w.heap.size ≤ w.heap.size + 1 + 1; omega) (.int .i64 ad)).setCell (p := ⟨w.heap.size + 1 + 1, 5, none⟩) (by show w.heap.size ≤ w.heap.size + 1 + 1; omega) (.int .i64 tg)).setCell (p := ⟨w.heap.size + 1, 0, none⟩) (by show w.heap.size ≤ w.heap.size + 1; omega) (.int .i64 fr)).setCell (p := ⟨w.heap.size + 1, 1, none⟩) (by show w.heap.size ≤ w.heap.size + 1; omega) (.int .i64 tt)).setCell (p := ⟨w.heap.size + 1, 2, none⟩) (by show w.heap.size ≤ w.heap.size + 1; omega) (.int .i64 a)).setCell (p := ⟨w.heap.size + 1, 3, none⟩) (by show w.heap.size ≤ w.heap.size + 1; omega) (.int .i64 l)).setCell (p := ⟨w.heap.size + 1, 4, none⟩) (by show w.heap.size ≤ w.heap.size + 1; omega) (.int .i64 ad)).setCell (p := ⟨w.heap.size + 1, 5, none⟩) (by show w.heap.size ≤ w.heap.size + 1; omega) (.int .i64 tg))⟩
  clear p0 p1 p2 hB
  go_wp2_with fail
  obtain ⟨h1, h2⟩ := HE.out
  clear HE a0 b0 d0 f0 g0 a1 b1 d1 f1 g1 a2 b2 d2 f2 g2 a3 b3 d3 f3 g3 a4 b4 d4 f4 g4 a5 b5 d5 f5 g5
  generalize ((((((((((w1.setCell ⟨w.heap.size + 1 + 1, 2, none⟩ (.int .i64 a)).setCell ⟨w.heap.size + 1 + 1, 3, none⟩ (.int .i64 l)).setCell ⟨w.heap.size + 1 + 1, 4, none⟩ (.int .i64 ad)).setCell ⟨w.heap.size + 1 + 1, 5, none⟩ (.int .i64 tg)).setCell ⟨w.heap.size + 1, 0, none⟩ (.int .i64 fr)).setCell ⟨w.heap.size + 1, 1, none⟩ (.int .i64 tt)).setCell ⟨w.heap.size + 1, 2, none⟩ (.int .i64 a)).setCell ⟨w.heap.size + 1, 3, none⟩ (.int .i64 l)).setCell ⟨w.heap.size + 1, 4, none⟩ (.int .i64 ad)).setCell ⟨w.heap.size + 1, 5, none⟩ (.int .i64 tg)) = Y at *
  have e0 : Y.cell? ⟨w.heap.size + 1, 0, none⟩ = some (.int .i64 fr) := h1.cell 0
  have e1 : Y.cell? ⟨w.heap.size + 1, 1, none⟩ = some (.int .i64 tt) := h1.cell 1
  have e2 : Y.cell? ⟨w.heap.size + 1, 2, none⟩ = some (.int .i64 a) := h1.cell 2
  have e3 : Y.cell? ⟨w.heap.size + 1, 3, none⟩ = some (.int .i64 l) := h1.cell 3
  have e4 : Y.cell? ⟨w.heap.size + 1, 4, none⟩ = some (.int .i64 ad) := h1.cell 4
  have e5 : Y.cell? ⟨w.heap.size + 1, 5, none⟩ = some (.int .i64 tg) := h1.cell 5
  exact bodyPost_ret (v := .agg #[.int .i64 fr, .int .i64 tt, .int .i64 a, .int .i64 l, .int .i64 ad, .int .i64 tg]) (by simp [results, Tryz.results38, go_sem, e0, e1, e2, e3, e4, e5]) rfl ⟨rfl, h2⟩
end Go.Proofs.YtlnfocpgmobhpaaGreatDoor
