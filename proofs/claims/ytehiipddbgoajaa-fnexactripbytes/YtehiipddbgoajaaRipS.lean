/- What routers say in bytes, of the model. -/
import Derived.Test.YtehiipddbgoajaaRipR
import Derived.Test.YtehiipddbgoajaaRipMath
import Derived.Test.YtehiipddbgoajaaMaskS
import Derived.Test.YtehiipddbgoajaaFourS
import Derived.Test.YtehiipddbgoajaaStabW
namespace Go.Proofs.Ytehiipddbgoajaa
open Go.RowKit Go.Sort

theorem hd_conv (c : Int) (hc : 1 ≤ c ∧ c ≤ 2) (w : World) :
    (convert 51 9 (.slice (some ⟨w.heap.size, 0, none⟩) 4 4)).run Try.prog (w.alloc (.cells #[.int .u8 c, .int .u8 2, .int .u8 0, .int .u8 0] 5)) = .ok (.string (ripT c [])) (w.alloc (.cells #[.int .u8 c, .int .u8 2, .int .u8 0, .int .u8 0] 5)) := by
  have h := conv_lit w [c, 2, 0, 0] 4 rfl (by
    intro x hx
    simp only [List.mem_cons, List.not_mem_nil, or_false] at hx
    omega) (by omega)
  have e : (⟨([c, 2, 0, 0].map fun x => UInt8.ofNat x.toNat).toArray⟩ : ByteArray) = ripT c [] := by
    have h2 : c = 1 ∨ c = 2 := by omega
    rcases h2 with rfl | rfl <;> rfl
  rw [e] at h
  exact h
theorem ripT_next (c : Int) (es : List Ent) (k : Nat) (hk : k < es.length) (a l n m t : Int) (he : es[k] = ⟨a, l, n, m, t⟩) (hm : 1 ≤ m ∧ m ≤ 16) :
    ripT c (es.take k) ++ wordT 2 ++ wordT t ++ fourQ a ++ fourQ (maskV l) ++ fourQ n ++ fourQ m = ripT c (es.take (k + 1)) := by
  apply ByteArray.ext
  apply Array.toList_inj.1
  have e1 : fourQL m = wordL 0 ++ wordL m := by unfold fourQL; rw [show m / 65536 = 0 by omega]
  simp only [ripT, ripL, wordT, fourQ, entsBy_next es k hk, he, entBy, entNs, wordsL, List.flatMap_cons, List.flatMap_nil, ByteArray.data_append, Array.toList_append, e1]
  simp [fourQL]
set_option maxRecDepth 100000 in
set_option maxHeartbeats 1000000 in
theorem spec05Bytes_any (c : Int) (p : Option Addr) (cap : Nat) (es : List Ent) (w : World) (h : EntsIn w p es) (hr : ripB c es = true) :
    Calls Try.prog 26 #[ripV c p es.length cap] w fun e w' => e = .returned (.string (ripT c es)) ∧ Below w.heap.size w w' := by
  have HX : Hid (EntsIn w p es) := h
  obtain ⟨hc, h8, ha⟩ := ripB_spec hr
  have hc0 : 1 ≤ c ∧ c ≤ 2 := by omega
  have HA : Hid (es.all entB = true) := ha
  have hu : IntKind.u8.wrap c = c := by rw [IntKind.wrap_u8]; omega
  have hconv := hd_conv c hc0 (w.alloc (.cells #[.int .i64 c, .slice p es.length cap] 39))
  rw [show (w.alloc (.cells #[.int .i64 c, .slice p es.length cap] 39)).heap.size = w.heap.size + 1 by simp] at hconv
  have HK : Hid (∀ k, (ripT c (es.take k)).size ≤ 200) := fun k => by
    show (ripT c (es.take k)).size ≤ 200
    rw [ripT_size, List.length_take]; omega
  have HZ : Hid (ripT c [] = ripT c (es.take 0)) := rfl
  have HF : Hid (ripT c (es.take es.length) = ripT c es) := by show _ = _; rw [List.take_length]
  have hB0 : Below w.heap.size w ((w.alloc (.cells #[.int .i64 c, .slice p es.length cap] 39)).alloc (.cells #[.int .u8 c, .int .u8 2, .int .u8 0, .int .u8 0] 5)) := (ent_new0 w _).alloc (by simp) _
  have HC : Hid (∀ wr, Below (w.heap.size + 1) (w.alloc (.cells #[.int .i64 c, .slice p es.length cap] 39)) wr → wr.cell? ⟨w.heap.size, 1, none⟩ = some (.slice p es.length cap)) := fun wr hb => (rip_cell (by simpa using hb)).2
  unfold ripV
  clear h hr hc ha
  generalize ripT c [] = HD at *
  generalize ripT c es = RT at *
  go_enter Try.func26, Try.ntmps26
  go_wp2_with fail
  go_loopw [3, 4] (fun T i wr => ∃ k : Nat, k ≤ es.length ∧ i = .int .i64 k ∧ T = .string (ripT c (es.take k)) ∧ Below (w.heap.size + 1) (w.alloc (.cells #[.int .i64 c, .slice p es.length cap] 39)) wr) (fun _ i _ => es.length - (intOf i).toNat)
  case atStart => exact ⟨0, Nat.zero_le _, rfl, by rw [HZ.out], by have := ent_new0 (w.alloc (.cells #[.int .i64 c, .slice p es.length cap] 39)) (.cells #[.int .u8 c, .int .u8 2, .int .u8 0, .int .u8 0] 5); simpa using this⟩
  case round =>
    obtain ⟨k, hk, rfl, rfl, hb⟩ := hrel
    have x1 := HC.out _ hb
    have hbw : Below w.heap.size w wr := (ent_new0 w _).trans (hb.mono (by omega))
    by_cases hlt : k < es.length
    · obtain ⟨g, a, l, n, m, t, rfl, hg, hek, c0, c1, c2, c3, c4⟩ := (HX.out.below hbw).at k hlt
      have hgood := all_at HA.out k hlt
      rw [hek] at hgood
      obtain ⟨ga, gl, _, gn, gm, gt⟩ := entB_spec hgood
      have hmr := maskV_range l
      have HN : Hid _ := ripT_next c es k hlt a l n m t hek gm
      have hsz := HK.out k
      have HW2 : Hid (∀ w, Calls Try.prog 32 #[.int .i64 2] w fun e w' => e = .returned (.string (wordT 2)) ∧ Below w.heap.size w w') := fun w => specWord_any 2 w (by omega) (by omega)
      have HWt : Hid (∀ w, Calls Try.prog 32 #[.int .i64 t] w fun e w' => e = .returned (.string (wordT t)) ∧ Below w.heap.size w w') := fun w => specWord_any t w (by omega) (by omega)
      have HFa : Hid (∀ w, Calls Try.prog 33 #[.int .i64 a] w fun e w' => e = .returned (.string (fourQ a)) ∧ Below w.heap.size w w') := fun w => spec4_any a w (by omega) (by omega)
      have HFl : Hid (∀ w, Calls Try.prog 33 #[.int .i64 (maskV l)] w fun e w' => e = .returned (.string (fourQ (maskV l))) ∧ Below w.heap.size w w') := fun w => spec4_any (maskV l) w (by omega) (by omega)
      have HFn : Hid (∀ w, Calls Try.prog 33 #[.int .i64 n] w fun e w' => e = .returned (.string (fourQ n)) ∧ Below w.heap.size w w') := fun w => spec4_any n w (by omega) (by omega)
      have HFm : Hid (∀ w, Calls Try.prog 33 #[.int .i64 m] w fun e w' => e = .returned (.string (fourQ m)) ∧ Below w.heap.size w w') := fun w => spec4_any m w (by omega) (by omega)
      have HM : Hid (∀ w, Calls Try.prog 34 #[.int .i64 l] w fun e w' => e = .returned (.int .i64 (maskV l)) ∧ w = w') := specMask_any l
      have s1 := wordT_size 2
      have s2 := wordT_size t
      have s3 := fourQ_size a
      have s4 := fourQ_size (maskV l)
      have s5 := fourQ_size n
      have s6 := fourQ_size m
      clear HA hgood hek HK
      generalize ripT c (es.take k) = T0 at *
      generalize wordT 2 = W2 at *
      generalize wordT t = WT at *
      generalize fourQ a = FA at *
      generalize fourQ (maskV l) = FL at *
      generalize fourQ n = FN at *
      generalize fourQ m = FM at *
      generalize maskV l = M at *
      go_wp2_with fail
      have HR : Hid (Row (wr.alloc (.cells #[.int .i64 a, .int .i64 l, .int .i64 n, .int .i64 m, .int .i64 t] 29)) wr.heap.size 29 [.int .i64 a, .int .i64 l, .int .i64 n, .int .i64 m, .int .i64 t]) := Row.new wr _ _
      have hGN : (([(23, Is (.string T0)), (24, Is (.string W2)), (25, Is (.string (T0 ++ W2))), (26, Is (.pointer (some ⟨wr.heap.size, 4, none⟩))), (27, Is (.int .i64 t)), (28, Is (.string WT)), (29, Is (.string (T0 ++ W2 ++ WT))), (30, Is (.pointer (some ⟨wr.heap.size, 0, none⟩))), (31, Is (.pointer (some ⟨wr.heap.size, 0, none⟩))), (32, Is (.int .i64 a)), (33, Is (.string FA)), (34, Is (.string (T0 ++ W2 ++ WT ++ FA))), (35, Is (.pointer (some ⟨wr.heap.size, 0, none⟩))), (36, Is (.pointer (some ⟨wr.heap.size, 1, none⟩))), (37, Is (.int .i64 l)), (38, Is (.int .i64 M)), (39, Is (.string FL)), (40, Is (.string (T0 ++ W2 ++ WT ++ FA ++ FL))), (41, Is (.pointer (some ⟨wr.heap.size, 2, none⟩))), (42, Is (.int .i64 n)), (43, Is (.string FN)), (44, Is (.string (T0 ++ W2 ++ WT ++ FA ++ FL ++ FN))), (45, Is (.pointer (some ⟨wr.heap.size, 3, none⟩))), (46, Is (.int .i64 m)), (47, Is (.string FM)), (48, Is (.string (T0 ++ W2 ++ WT ++ FA ++ FL ++ FN ++ FM)))] : List (Nat × (Value → World → Prop))).map (·.1)).Nodup := by simp
      refine wp_region_steady 26 (SlotG [(23, Is (.string T0)), (24, Is (.string W2)), (25, Is (.string (T0 ++ W2))), (26, Is (.pointer (some ⟨wr.heap.size, 4, none⟩))), (27, Is (.int .i64 t)), (28, Is (.string WT)), (29, Is (.string (T0 ++ W2 ++ WT))), (30, Is (.pointer (some ⟨wr.heap.size, 0, none⟩))), (31, Is (.pointer (some ⟨wr.heap.size, 0, none⟩))), (32, Is (.int .i64 a)), (33, Is (.string FA)), (34, Is (.string (T0 ++ W2 ++ WT ++ FA))), (35, Is (.pointer (some ⟨wr.heap.size, 0, none⟩))), (36, Is (.pointer (some ⟨wr.heap.size, 1, none⟩))), (37, Is (.int .i64 l)), (38, Is (.int .i64 M)), (39, Is (.string FL)), (40, Is (.string (T0 ++ W2 ++ WT ++ FA ++ FL))), (41, Is (.pointer (some ⟨wr.heap.size, 2, none⟩))), (42, Is (.int .i64 n)), (43, Is (.string FN)), (44, Is (.string (T0 ++ W2 ++ WT ++ FA ++ FL ++ FN))), (45, Is (.pointer (some ⟨wr.heap.size, 3, none⟩))), (46, Is (.int .i64 m)), (47, Is (.string FM)), (48, Is (.string (T0 ++ W2 ++ WT ++ FA ++ FL ++ FN ++ FM)))]) (by kernel_rfl) (by kernel_rfl) (Stabs.all ⟨stab_is _, stab_is _, stab_is _, stab_is _, stab_is _, stab_is _, stab_is _, stab_is _, stab_is _, stab_is _, stab_is _, stab_is _, stab_is _, stab_is _, stab_is _, stab_is _, stab_is _, stab_is _, stab_is _, stab_is _, stab_is _, stab_is _, stab_is _, stab_is _, stab_is _, stab_is _, trivial⟩) ?_ ?_
      · intro o ho
        simp only [List.take_succ_cons, List.take_zero, List.mem_cons, List.not_mem_nil, or_false] at ho
        rcases ho with rfl | rfl | rfl | rfl | rfl | rfl | rfl | rfl | rfl | rfl | rfl | rfl | rfl | rfl | rfl | rfl | rfl | rfl | rfl | rfl | rfl | rfl | rfl | rfl | rfl | rfl
        · intro a' w' hb ha hdep
          have d3 : a'.tmps.getD 3 undef = .string T0 := ha.at 3 (by kernel_rfl)
          have hmk := fun (x : Value) (W : World) => SlotG.mk (x := x) (w := W) 0 rfl hGN
          clear hGN ha hdep
          go_simp
          exact ⟨_, rfl, Below.refl _ _, hmk _ _ rfl⟩
        · intro a' w' hb ha hdep
          have hmk := fun (x : Value) (W : World) => SlotG.mk (x := x) (w := W) 1 rfl hGN
          clear hGN ha hdep
          go_simp
          refine (HW2.out _).mono ?_
          rintro e w2 ⟨rfl, hb2⟩
          exact ⟨_, rfl, hb2, hmk _ _ rfl⟩
        · intro a' w' hb ha hdep
          have d23 : a'.tmps.getD 23 undef = .string T0 := (hdep 23 (of_decide_eq_true (by kernel_rfl))).is 0 rfl
          have d24 : a'.tmps.getD 24 undef = .string W2 := (hdep 24 (of_decide_eq_true (by kernel_rfl))).is 1 rfl
          have hmk := fun (x : Value) (W : World) => SlotG.mk (x := x) (w := W) 2 rfl hGN
          clear hGN ha hdep
          have hs : ¬ 9223372036854775807 < T0.size + 2 := by omega
          go_simp
          exact ⟨_, rfl, Below.refl _ _, hmk _ _ rfl⟩
        · intro a' w' hb ha hdep
          have d5 : a'.tmps.getD 5 undef = .pointer (some ⟨wr.heap.size, 0, none⟩) := ha.at 5 (by kernel_rfl)
          have hmk := fun (x : Value) (W : World) => SlotG.mk (x := x) (w := W) 3 rfl hGN
          clear hGN ha hdep
          go_simp
          exact ⟨_, rfl, Below.refl _ _, hmk _ _ rfl⟩
        · intro a' w' hb ha hdep
          have d26 : a'.tmps.getD 26 undef = .pointer (some ⟨wr.heap.size, 4, none⟩) := (hdep 26 (of_decide_eq_true (by kernel_rfl))).is 3 rfl
          have hmk := fun (x : Value) (W : World) => SlotG.mk (x := x) (w := W) 4 rfl hGN
          clear hGN ha hdep
          have c4 : w'.cell? ⟨wr.heap.size, 4, none⟩ = some (.int .i64 t) := (HR.out.below hb HR.out.lt).cell 4
          go_simp
          exact ⟨_, rfl, Below.refl _ _, hmk _ _ rfl⟩
        · intro a' w' hb ha hdep
          have d27 : a'.tmps.getD 27 undef = .int .i64 t := (hdep 27 (of_decide_eq_true (by kernel_rfl))).is 4 rfl
          have hmk := fun (x : Value) (W : World) => SlotG.mk (x := x) (w := W) 5 rfl hGN
          clear hGN ha hdep
          go_simp
          refine (HWt.out _).mono ?_
          rintro e w2 ⟨rfl, hb2⟩
          exact ⟨_, rfl, hb2, hmk _ _ rfl⟩
        · intro a' w' hb ha hdep
          have d25 : a'.tmps.getD 25 undef = .string (T0 ++ W2) := (hdep 25 (of_decide_eq_true (by kernel_rfl))).is 2 rfl
          have d28 : a'.tmps.getD 28 undef = .string WT := (hdep 28 (of_decide_eq_true (by kernel_rfl))).is 5 rfl
          have hmk := fun (x : Value) (W : World) => SlotG.mk (x := x) (w := W) 6 rfl hGN
          clear hGN ha hdep
          have hs : ¬ 9223372036854775807 < T0.size + 2 + 2 := by omega
          go_simp
          exact ⟨_, rfl, Below.refl _ _, hmk _ _ rfl⟩
        · intro a' w' hb ha hdep
          have d5 : a'.tmps.getD 5 undef = .pointer (some ⟨wr.heap.size, 0, none⟩) := ha.at 5 (by kernel_rfl)
          have hmk := fun (x : Value) (W : World) => SlotG.mk (x := x) (w := W) 7 rfl hGN
          clear hGN ha hdep
          go_simp
          exact ⟨_, rfl, Below.refl _ _, hmk _ _ rfl⟩
        · intro a' w' hb ha hdep
          have d30 : a'.tmps.getD 30 undef = .pointer (some ⟨wr.heap.size, 0, none⟩) := (hdep 30 (of_decide_eq_true (by kernel_rfl))).is 7 rfl
          have hmk := fun (x : Value) (W : World) => SlotG.mk (x := x) (w := W) 8 rfl hGN
          clear hGN ha hdep
          go_simp
          exact ⟨_, rfl, Below.refl _ _, hmk _ _ rfl⟩
        · intro a' w' hb ha hdep
          have d31 : a'.tmps.getD 31 undef = .pointer (some ⟨wr.heap.size, 0, none⟩) := (hdep 31 (of_decide_eq_true (by kernel_rfl))).is 8 rfl
          have hmk := fun (x : Value) (W : World) => SlotG.mk (x := x) (w := W) 9 rfl hGN
          clear hGN ha hdep
          have c0 : w'.cell? ⟨wr.heap.size, 0, none⟩ = some (.int .i64 a) := (HR.out.below hb HR.out.lt).cell 0
          go_simp
          exact ⟨_, rfl, Below.refl _ _, hmk _ _ rfl⟩
        · intro a' w' hb ha hdep
          have d32 : a'.tmps.getD 32 undef = .int .i64 a := (hdep 32 (of_decide_eq_true (by kernel_rfl))).is 9 rfl
          have hmk := fun (x : Value) (W : World) => SlotG.mk (x := x) (w := W) 10 rfl hGN
          clear hGN ha hdep
          go_simp
          refine (HFa.out _).mono ?_
          rintro e w2 ⟨rfl, hb2⟩
          exact ⟨_, rfl, hb2, hmk _ _ rfl⟩
        · intro a' w' hb ha hdep
          have d29 : a'.tmps.getD 29 undef = .string (T0 ++ W2 ++ WT) := (hdep 29 (of_decide_eq_true (by kernel_rfl))).is 6 rfl
          have d33 : a'.tmps.getD 33 undef = .string FA := (hdep 33 (of_decide_eq_true (by kernel_rfl))).is 10 rfl
          have hmk := fun (x : Value) (W : World) => SlotG.mk (x := x) (w := W) 11 rfl hGN
          clear hGN ha hdep
          have hs : ¬ 9223372036854775807 < T0.size + 2 + 2 + 4 := by omega
          go_simp
          exact ⟨_, rfl, Below.refl _ _, hmk _ _ rfl⟩
        · intro a' w' hb ha hdep
          have d5 : a'.tmps.getD 5 undef = .pointer (some ⟨wr.heap.size, 0, none⟩) := ha.at 5 (by kernel_rfl)
          have hmk := fun (x : Value) (W : World) => SlotG.mk (x := x) (w := W) 12 rfl hGN
          clear hGN ha hdep
          go_simp
          exact ⟨_, rfl, Below.refl _ _, hmk _ _ rfl⟩
        · intro a' w' hb ha hdep
          have d35 : a'.tmps.getD 35 undef = .pointer (some ⟨wr.heap.size, 0, none⟩) := (hdep 35 (of_decide_eq_true (by kernel_rfl))).is 12 rfl
          have hmk := fun (x : Value) (W : World) => SlotG.mk (x := x) (w := W) 13 rfl hGN
          clear hGN ha hdep
          go_simp
          exact ⟨_, rfl, Below.refl _ _, hmk _ _ rfl⟩
        · intro a' w' hb ha hdep
          have d36 : a'.tmps.getD 36 undef = .pointer (some ⟨wr.heap.size, 1, none⟩) := (hdep 36 (of_decide_eq_true (by kernel_rfl))).is 13 rfl
          have hmk := fun (x : Value) (W : World) => SlotG.mk (x := x) (w := W) 14 rfl hGN
          clear hGN ha hdep
          have c1 : w'.cell? ⟨wr.heap.size, 1, none⟩ = some (.int .i64 l) := (HR.out.below hb HR.out.lt).cell 1
          go_simp
          exact ⟨_, rfl, Below.refl _ _, hmk _ _ rfl⟩
        · intro a' w' hb ha hdep
          have d37 : a'.tmps.getD 37 undef = .int .i64 l := (hdep 37 (of_decide_eq_true (by kernel_rfl))).is 14 rfl
          have hmk := fun (x : Value) (W : World) => SlotG.mk (x := x) (w := W) 15 rfl hGN
          clear hGN ha hdep
          go_simp
          refine (HM.out _).mono ?_
          rintro e w2 ⟨rfl, rfl⟩
          exact ⟨_, rfl, Below.refl _ _, hmk _ _ rfl⟩
        · intro a' w' hb ha hdep
          have d38 : a'.tmps.getD 38 undef = .int .i64 M := (hdep 38 (of_decide_eq_true (by kernel_rfl))).is 15 rfl
          have hmk := fun (x : Value) (W : World) => SlotG.mk (x := x) (w := W) 16 rfl hGN
          clear hGN ha hdep
          go_simp
          refine (HFl.out _).mono ?_
          rintro e w2 ⟨rfl, hb2⟩
          exact ⟨_, rfl, hb2, hmk _ _ rfl⟩
        · intro a' w' hb ha hdep
          have d34 : a'.tmps.getD 34 undef = .string (T0 ++ W2 ++ WT ++ FA) := (hdep 34 (of_decide_eq_true (by kernel_rfl))).is 11 rfl
          have d39 : a'.tmps.getD 39 undef = .string FL := (hdep 39 (of_decide_eq_true (by kernel_rfl))).is 16 rfl
          have hmk := fun (x : Value) (W : World) => SlotG.mk (x := x) (w := W) 17 rfl hGN
          clear hGN ha hdep
          have hs : ¬ 9223372036854775807 < T0.size + 2 + 2 + 4 + 4 := by omega
          go_simp
          exact ⟨_, rfl, Below.refl _ _, hmk _ _ rfl⟩
        · intro a' w' hb ha hdep
          have d5 : a'.tmps.getD 5 undef = .pointer (some ⟨wr.heap.size, 0, none⟩) := ha.at 5 (by kernel_rfl)
          have hmk := fun (x : Value) (W : World) => SlotG.mk (x := x) (w := W) 18 rfl hGN
          clear hGN ha hdep
          go_simp
          exact ⟨_, rfl, Below.refl _ _, hmk _ _ rfl⟩
        · intro a' w' hb ha hdep
          have d41 : a'.tmps.getD 41 undef = .pointer (some ⟨wr.heap.size, 2, none⟩) := (hdep 41 (of_decide_eq_true (by kernel_rfl))).is 18 rfl
          have hmk := fun (x : Value) (W : World) => SlotG.mk (x := x) (w := W) 19 rfl hGN
          clear hGN ha hdep
          have c2 : w'.cell? ⟨wr.heap.size, 2, none⟩ = some (.int .i64 n) := (HR.out.below hb HR.out.lt).cell 2
          go_simp
          exact ⟨_, rfl, Below.refl _ _, hmk _ _ rfl⟩
        · intro a' w' hb ha hdep
          have d42 : a'.tmps.getD 42 undef = .int .i64 n := (hdep 42 (of_decide_eq_true (by kernel_rfl))).is 19 rfl
          have hmk := fun (x : Value) (W : World) => SlotG.mk (x := x) (w := W) 20 rfl hGN
          clear hGN ha hdep
          go_simp
          refine (HFn.out _).mono ?_
          rintro e w2 ⟨rfl, hb2⟩
          exact ⟨_, rfl, hb2, hmk _ _ rfl⟩
        · intro a' w' hb ha hdep
          have d40 : a'.tmps.getD 40 undef = .string (T0 ++ W2 ++ WT ++ FA ++ FL) := (hdep 40 (of_decide_eq_true (by kernel_rfl))).is 17 rfl
          have d43 : a'.tmps.getD 43 undef = .string FN := (hdep 43 (of_decide_eq_true (by kernel_rfl))).is 20 rfl
          have hmk := fun (x : Value) (W : World) => SlotG.mk (x := x) (w := W) 21 rfl hGN
          clear hGN ha hdep
          have hs : ¬ 9223372036854775807 < T0.size + 2 + 2 + 4 + 4 + 4 := by omega
          go_simp
          exact ⟨_, rfl, Below.refl _ _, hmk _ _ rfl⟩
        · intro a' w' hb ha hdep
          have d5 : a'.tmps.getD 5 undef = .pointer (some ⟨wr.heap.size, 0, none⟩) := ha.at 5 (by kernel_rfl)
          have hmk := fun (x : Value) (W : World) => SlotG.mk (x := x) (w := W) 22 rfl hGN
          clear hGN ha hdep
          go_simp
          exact ⟨_, rfl, Below.refl _ _, hmk _ _ rfl⟩
        · intro a' w' hb ha hdep
          have d45 : a'.tmps.getD 45 undef = .pointer (some ⟨wr.heap.size, 3, none⟩) := (hdep 45 (of_decide_eq_true (by kernel_rfl))).is 22 rfl
          have hmk := fun (x : Value) (W : World) => SlotG.mk (x := x) (w := W) 23 rfl hGN
          clear hGN ha hdep
          have c3 : w'.cell? ⟨wr.heap.size, 3, none⟩ = some (.int .i64 m) := (HR.out.below hb HR.out.lt).cell 3
          go_simp
          exact ⟨_, rfl, Below.refl _ _, hmk _ _ rfl⟩
        · intro a' w' hb ha hdep
          have d46 : a'.tmps.getD 46 undef = .int .i64 m := (hdep 46 (of_decide_eq_true (by kernel_rfl))).is 23 rfl
          have hmk := fun (x : Value) (W : World) => SlotG.mk (x := x) (w := W) 24 rfl hGN
          clear hGN ha hdep
          go_simp
          refine (HFm.out _).mono ?_
          rintro e w2 ⟨rfl, hb2⟩
          exact ⟨_, rfl, hb2, hmk _ _ rfl⟩
        · intro a' w' hb ha hdep
          have d44 : a'.tmps.getD 44 undef = .string (T0 ++ W2 ++ WT ++ FA ++ FL ++ FN) := (hdep 44 (of_decide_eq_true (by kernel_rfl))).is 21 rfl
          have d47 : a'.tmps.getD 47 undef = .string FM := (hdep 47 (of_decide_eq_true (by kernel_rfl))).is 24 rfl
          have hmk := fun (x : Value) (W : World) => SlotG.mk (x := x) (w := W) 25 rfl hGN
          clear hGN ha hdep
          have hs : ¬ 9223372036854775807 < T0.size + 2 + 2 + 4 + 4 + 4 + 4 := by omega
          go_simp
          exact ⟨_, rfl, Below.refl _ _, hmk _ _ rfl⟩
      · intro a' w' hb' ha hG
        clear hGN
        have d48 : a'.tmps.getD 48 undef = .string (T0 ++ W2 ++ WT ++ FA ++ FL ++ FN ++ FM) := (hG _ (List.mem_of_getElem? (i := 25) rfl) 48 rfl).is 25 rfl
        have d0 : a'.tmps.getD 0 undef = .agg #[.int .i64 c, .slice (some ⟨g, 0, none⟩) es.length cap] := ha.at 0 (by kernel_rfl)
        have d1 : a'.tmps.getD 1 undef = .pointer (some ⟨w.heap.size, 0, none⟩) := ha.at 1 (by kernel_rfl)
        have d2 : a'.tmps.getD 2 undef = .string ⟨#[]⟩ := ha.at 2 (by kernel_rfl)
        have d4 : a'.tmps.getD 4 undef = .int .i64 (k : Int) := ha.at 4 (by kernel_rfl)
        have d6 : a'.tmps.getD 6 undef = .pointer (some ⟨w.heap.size, 0, none⟩) := ha.at 6 (by kernel_rfl)
        have d7 : a'.tmps.getD 7 undef = .int .i64 c := ha.at 7 (by kernel_rfl)
        have d8 : a'.tmps.getD 8 undef = .int .u8 c := ha.at 8 (by kernel_rfl)
        have d9 : a'.tmps.getD 9 undef = .slice (some ⟨w.heap.size + 1, 0, none⟩) 4 4 := ha.at 9 (by kernel_rfl)
        have d10 : a'.tmps.getD 10 undef = .string HD := ha.at 10 (by kernel_rfl)
        have d49 : a'.tmps.getD 49 undef = undef := ha.at 49 (by kernel_rfl)
        have e2 : a' = ⟨#[a'.tmps.getD 0 undef, a'.tmps.getD 1 undef, a'.tmps.getD 2 undef, a'.tmps.getD 3 undef, a'.tmps.getD 4 undef, a'.tmps.getD 5 undef, a'.tmps.getD 6 undef, a'.tmps.getD 7 undef, a'.tmps.getD 8 undef, a'.tmps.getD 9 undef, a'.tmps.getD 10 undef, a'.tmps.getD 11 undef, a'.tmps.getD 12 undef, a'.tmps.getD 13 undef, a'.tmps.getD 14 undef, a'.tmps.getD 15 undef, a'.tmps.getD 16 undef, a'.tmps.getD 17 undef, a'.tmps.getD 18 undef, a'.tmps.getD 19 undef, a'.tmps.getD 20 undef, a'.tmps.getD 21 undef, a'.tmps.getD 22 undef, a'.tmps.getD 23 undef, a'.tmps.getD 24 undef, a'.tmps.getD 25 undef, a'.tmps.getD 26 undef, a'.tmps.getD 27 undef, a'.tmps.getD 28 undef, a'.tmps.getD 29 undef, a'.tmps.getD 30 undef, a'.tmps.getD 31 undef, a'.tmps.getD 32 undef, a'.tmps.getD 33 undef, a'.tmps.getD 34 undef, a'.tmps.getD 35 undef, a'.tmps.getD 36 undef, a'.tmps.getD 37 undef, a'.tmps.getD 38 undef, a'.tmps.getD 39 undef, a'.tmps.getD 40 undef, a'.tmps.getD 41 undef, a'.tmps.getD 42 undef, a'.tmps.getD 43 undef, a'.tmps.getD 44 undef, a'.tmps.getD 45 undef, a'.tmps.getD 46 undef, a'.tmps.getD 47 undef, a'.tmps.getD 48 undef, a'.tmps.getD 49 undef], []⟩ := by rw [← (show a'.defers = [] from ha.2.1)]; exact act_eq a' 50 ha.1
        rw [d48, d0, d1, d2, d4, d6, d7, d8, d9, d10, d49] at e2
        clear hG ha d48 d0 d1 d2 d4 d6 d7 d8 d9 d10 d49
        generalize a'.tmps.getD 3 undef = x3 at *
        generalize a'.tmps.getD 5 undef = x5 at *
        generalize a'.tmps.getD 11 undef = x11 at *
        generalize a'.tmps.getD 12 undef = x12 at *
        generalize a'.tmps.getD 13 undef = x13 at *
        generalize a'.tmps.getD 14 undef = x14 at *
        generalize a'.tmps.getD 15 undef = x15 at *
        generalize a'.tmps.getD 16 undef = x16 at *
        generalize a'.tmps.getD 17 undef = x17 at *
        generalize a'.tmps.getD 18 undef = x18 at *
        generalize a'.tmps.getD 19 undef = x19 at *
        generalize a'.tmps.getD 20 undef = x20 at *
        generalize a'.tmps.getD 21 undef = x21 at *
        generalize a'.tmps.getD 22 undef = x22 at *
        generalize a'.tmps.getD 23 undef = x23 at *
        generalize a'.tmps.getD 24 undef = x24 at *
        generalize a'.tmps.getD 25 undef = x25 at *
        generalize a'.tmps.getD 26 undef = x26 at *
        generalize a'.tmps.getD 27 undef = x27 at *
        generalize a'.tmps.getD 28 undef = x28 at *
        generalize a'.tmps.getD 29 undef = x29 at *
        generalize a'.tmps.getD 30 undef = x30 at *
        generalize a'.tmps.getD 31 undef = x31 at *
        generalize a'.tmps.getD 32 undef = x32 at *
        generalize a'.tmps.getD 33 undef = x33 at *
        generalize a'.tmps.getD 34 undef = x34 at *
        generalize a'.tmps.getD 35 undef = x35 at *
        generalize a'.tmps.getD 36 undef = x36 at *
        generalize a'.tmps.getD 37 undef = x37 at *
        generalize a'.tmps.getD 38 undef = x38 at *
        generalize a'.tmps.getD 39 undef = x39 at *
        generalize a'.tmps.getD 40 undef = x40 at *
        generalize a'.tmps.getD 41 undef = x41 at *
        generalize a'.tmps.getD 42 undef = x42 at *
        generalize a'.tmps.getD 43 undef = x43 at *
        generalize a'.tmps.getD 44 undef = x44 at *
        generalize a'.tmps.getD 45 undef = x45 at *
        generalize a'.tmps.getD 46 undef = x46 at *
        generalize a'.tmps.getD 47 undef = x47 at *
        subst e2
        simp only [List.drop_succ_cons, List.drop_zero]
        have hb2 := hb.trans (((ent_new0 wr (.cells #[.int .i64 a, .int .i64 l, .int .i64 n, .int .i64 m, .int .i64 t] 29)).trans (hb'.mono (by simp))).mono (by have := hb.size; simp at this; omega))
        rw [HN.out]
        clear hb' HN HW2 HWt HFa HFl HFn HFm HM HR c0 c1 c2 c3 c4 s1 s2 s3 s4 s5 s6 hsz x1 hconv hB0
        go_wp2
        go_roundw
        case rel => exact ⟨k + 1, hlt, by go_num, rfl, hb2⟩
        case measure => simp [intOf]; omega
    · obtain rfl : k = es.length := by omega
      rw [HF.out]
      clear hlt hk
      go_wp2
      go_ret
      exact ⟨rfl, hbw⟩
set_option maxRecDepth 100000 in
theorem specRipBytes_any (c : Int) (p : Option Addr) (cap : Nat) (es : List Ent) (w : World) (h : EntsIn w p es) (hn : es.length ≤ 100000000) :
    Calls Try.prog 14 #[ripV c p es.length cap] w fun e w' => e = .returned (.string (ripO c es)) ∧ Below w.heap.size w w' := by
  have HR : Hid (∀ w, EntsIn w p es → Calls Try.prog 10 #[ripV c p es.length cap] w fun e w' => e = .returned (.bool (ripB c es)) ∧ Below w.heap.size w w') := fun w h => specRipRight_any c p cap es w h hn
  have HX : Hid (EntsIn w p es) := h
  clear h
  by_cases hr : ripB c es = true
  · have HO : Hid (ripO c es = ripT c es) := if_pos hr
    have HB : Hid (∀ w, EntsIn w p es → Calls Try.prog 26 #[ripV c p es.length cap] w fun e w' => e = .returned (.string (ripT c es)) ∧ Below w.heap.size w w') := fun w h => spec05Bytes_any c p cap es w h hr
    rw [hr] at HR
    rw [HO.out]
    unfold ripV at *
    clear hr HO
    generalize ripT c es = RT at *
    go_enter Try.func14, Try.ntmps14
    go_wp2_with fail
    refine (HR.out _ (HX.out.alloc _)).mono ?_
    rintro e w1 ⟨rfl, hb1⟩
    obtain ⟨c0, c1, hs1, hB1⟩ := cell2_later rfl hb1
    clear hb1 HR
    go_wp2_with fail
    refine (HB.out _ (HX.out.below hB1)).mono ?_
    rintro e w2 ⟨rfl, hb2⟩
    have hB2 := hB1.trans (hb2.mono hB1.size)
    clear hb2
    go_wp2
    go_ret
    exact ⟨rfl, hB2⟩
  · have HO : Hid (ripO c es = ByteArray.empty) := if_neg hr
    have hr' : ripB c es = false := by simpa using hr
    rw [hr'] at HR
    rw [HO.out]
    unfold ripV at *
    go_enter Try.func14, Try.ntmps14
    go_wp2_with fail
    refine (HR.out _ (HX.out.alloc _)).mono ?_
    rintro e w1 ⟨rfl, hb1⟩
    have hB1 := (ent_new0 w _).trans (hb1.mono (by simp))
    clear hb1
    go_wp2
    go_ret
    exact ⟨rfl, hB1⟩
end Go.Proofs.Ytehiipddbgoajaa
