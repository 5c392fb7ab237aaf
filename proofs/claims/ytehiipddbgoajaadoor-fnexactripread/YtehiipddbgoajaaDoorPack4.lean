/- Texts that stand on each other, in one file: RipS, GetN, SliceT, RipReadS, Five, EqNet, EqEnts, MarkE, RipOutL, ErrsLaid. -/
import Derived.Test.YtehiipddbgoajaaDoorPack2
import Derived.Test.YtehiipddbgoajaaDoorPack1
import Derived.Test.YtehiipddbgoajaaDoorPack3
import Derived.LaidLaws
import Derived.ChangeVars
/- What routers say in bytes, of the model. -/
namespace Go.Proofs.YtehiipddbgoajaaDoor
open Go.RowKit Go.Sort

theorem hd_conv (c : Int) (hc : 1 ≤ c ∧ c ≤ 2) (w : World) :
    (convert 61 9 (.slice (some ⟨w.heap.size, 0, none⟩) 4 4)).run Tryd.prog (w.alloc (.cells #[.int .u8 c, .int .u8 2, .int .u8 0, .int .u8 0] 5)) = .ok (.string (ripT c [])) (w.alloc (.cells #[.int .u8 c, .int .u8 2, .int .u8 0, .int .u8 0] 5)) := by
  have h := conv_lit w [c, 2, 0, 0] 4 rfl (by
    intro x hx
    simp only [List.mem_cons, List.not_mem_nil, or_false] at hx
    omega) (by omega)
  have e : (⟨([c, 2, 0, 0].map fun x => UInt8.ofNat x.toNat).toArray⟩ : ByteArray) = ripT c [] := by
    have h2 : c = 1 ∨ c = 2 := by omega
    rcases h2 with rfl | rfl <;> rfl
  rw [e] at h
  exact h
theorem ripT_next (c : Int) (es : List Ent) (k : Nat) (hk : k < es.length) (a l n m t : Int) (he : es[k] = ⟨a, l, n, m, t⟩) (hm : 1 ≤ m ∧ m ≤ 16) :
    ripT c (es.take k) ++ wordT 2 ++ wordT t ++ fourQ a ++ fourQ (maskV l) ++ fourQ n ++ fourQ m = ripT c (es.take (k + 1)) := by
  apply ByteArray.ext
  apply Array.toList_inj.1
  have e1 : fourQL m = wordL 0 ++ wordL m := by unfold fourQL; rw [show m / 65536 = 0 by omega]
  simp only [ripT, ripL, wordT, fourQ, entsBy_next es k hk, he, entBy, entNs, wordsL, List.flatMap_cons, List.flatMap_nil, ByteArray.data_append, Array.toList_append, e1]
  simp [fourQL]
set_option maxRecDepth 100000 in
set_option maxHeartbeats 1000000 in
theorem spec05Bytes_any (c : Int) (p : Option Addr) (cap : Nat) (es : List Ent) (w : World) (h : EntsIn w p es) (hr : ripB c es = true) :
    Calls Tryd.prog 34 #[ripV c p es.length cap] w fun e w' => e = .returned (.string (ripT c es)) ∧ Below w.heap.size w w' := by
  have HX : Hid (EntsIn w p es) := h
  obtain ⟨hc, h8, ha⟩ := ripB_spec hr
  have hc0 : 1 ≤ c ∧ c ≤ 2 := by omega
  have HA : Hid (es.all entB = true) := ha
  have hu : IntKind.u8.wrap c = c := by rw [IntKind.wrap_u8]; omega
  have hconv := hd_conv c hc0 (w.alloc (.cells #[.int .i64 c, .slice p es.length cap] 24))
  rw [show (w.alloc (.cells #[.int .i64 c, .slice p es.length cap] 24)).heap.size = w.heap.size + 1 by simp] at hconv
  have HK : Hid (∀ k, (ripT c (es.take k)).size ≤ 200) := fun k => by
    show (ripT c (es.take k)).size ≤ 200
    rw [ripT_size, List.length_take]; omega
  have HZ : Hid (ripT c [] = ripT c (es.take 0)) := rfl
  have HF : Hid (ripT c (es.take es.length) = ripT c es) := by show _ = _; rw [List.take_length]
  have hB0 : Below w.heap.size w ((w.alloc (.cells #[.int .i64 c, .slice p es.length cap] 24)).alloc (.cells #[.int .u8 c, .int .u8 2, .int .u8 0, .int .u8 0] 5)) := (ent_new0 w _).alloc (by simp) _
  have HC : Hid (∀ wr, Below (w.heap.size + 1) (w.alloc (.cells #[.int .i64 c, .slice p es.length cap] 24)) wr → wr.cell? ⟨w.heap.size, 1, none⟩ = some (.slice p es.length cap)) := fun wr hb => (rip_cell (by simpa using hb)).2
  unfold ripV
  clear h hr hc ha
  generalize ripT c [] = HD at *
  generalize ripT c es = RT at *
  go_enter Tryd.func34, Tryd.ntmps34
  go_wp2_with fail
  go_loopw [3, 4] (fun T i wr => ∃ k : Nat, k ≤ es.length ∧ i = .int .i64 k ∧ T = .string (ripT c (es.take k)) ∧ Below (w.heap.size + 1) (w.alloc (.cells #[.int .i64 c, .slice p es.length cap] 24)) wr) (fun _ i _ => es.length - (intOf i).toNat)
  case atStart => exact ⟨0, Nat.zero_le _, rfl, by rw [HZ.out], by have := ent_new0 (w.alloc (.cells #[.int .i64 c, .slice p es.length cap] 24)) (.cells #[.int .u8 c, .int .u8 2, .int .u8 0, .int .u8 0] 5); simpa using this⟩
  case round =>
    obtain ⟨k, hk, rfl, rfl, hb⟩ := hrel
    have x1 := HC.out _ hb
    have hbw : Below w.heap.size w wr := (ent_new0 w _).trans (hb.mono (by omega))
    by_cases hlt : k < es.length
    · obtain ⟨g, a, l, n, m, t, rfl, hg, hek, c0, c1, c2, c3, c4⟩ := (HX.out.below hbw).at k hlt
      have hgood := all_at HA.out k hlt
      rw [hek] at hgood
      obtain ⟨ga, gl, _, gn, gm, gt⟩ := entB_spec hgood
      have hmr := maskV_range l
      have HN : Hid _ := ripT_next c es k hlt a l n m t hek gm
      have hsz := HK.out k
      have HW2 : Hid (∀ w, Calls Tryd.prog 40 #[.int .i64 2] w fun e w' => e = .returned (.string (wordT 2)) ∧ Below w.heap.size w w') := fun w => specWord_any 2 w (by omega) (by omega)
      have HWt : Hid (∀ w, Calls Tryd.prog 40 #[.int .i64 t] w fun e w' => e = .returned (.string (wordT t)) ∧ Below w.heap.size w w') := fun w => specWord_any t w (by omega) (by omega)
      have HFa : Hid (∀ w, Calls Tryd.prog 41 #[.int .i64 a] w fun e w' => e = .returned (.string (fourQ a)) ∧ Below w.heap.size w w') := fun w => spec4_any a w (by omega) (by omega)
      have HFl : Hid (∀ w, Calls Tryd.prog 41 #[.int .i64 (maskV l)] w fun e w' => e = .returned (.string (fourQ (maskV l))) ∧ Below w.heap.size w w') := fun w => spec4_any (maskV l) w (by omega) (by omega)
      have HFn : Hid (∀ w, Calls Tryd.prog 41 #[.int .i64 n] w fun e w' => e = .returned (.string (fourQ n)) ∧ Below w.heap.size w w') := fun w => spec4_any n w (by omega) (by omega)
      have HFm : Hid (∀ w, Calls Tryd.prog 41 #[.int .i64 m] w fun e w' => e = .returned (.string (fourQ m)) ∧ Below w.heap.size w w') := fun w => spec4_any m w (by omega) (by omega)
      have HM : Hid (∀ w, Calls Tryd.prog 33 #[.int .i64 l] w fun e w' => e = .returned (.int .i64 (maskV l)) ∧ w = w') := specMask_any l
      have s1 := wordT_size 2
      have s2 := wordT_size t
      have s3 := fourQ_size a
      have s4 := fourQ_size (maskV l)
      have s5 := fourQ_size n
      have s6 := fourQ_size m
      clear HA hgood hek HK
      generalize ripT c (es.take k) = T0 at *
      generalize wordT 2 = W2 at *
      generalize wordT t = WT at *
      generalize fourQ a = FA at *
      generalize fourQ (maskV l) = FL at *
      generalize fourQ n = FN at *
      generalize fourQ m = FM at *
      generalize maskV l = M at *
      go_wp2_with fail
      have HR : Hid (Row (wr.alloc (.cells #[.int .i64 a, .int .i64 l, .int .i64 n, .int .i64 m, .int .i64 t] 44)) wr.heap.size 44 [.int .i64 a, .int .i64 l, .int .i64 n, .int .i64 m, .int .i64 t]) := Row.new wr _ _
      have hGN : (([(23, Is (.string T0)), (24, Is (.string W2)), (25, Is (.string (T0 ++ W2))), (26, Is (.pointer (some ⟨wr.heap.size, 4, none⟩))), (27, Is (.int .i64 t)), (28, Is (.string WT)), (29, Is (.string (T0 ++ W2 ++ WT))), (30, Is (.pointer (some ⟨wr.heap.size, 0, none⟩))), (31, Is (.pointer (some ⟨wr.heap.size, 0, none⟩))), (32, Is (.int .i64 a)), (33, Is (.string FA)), (34, Is (.string (T0 ++ W2 ++ WT ++ FA))), (35, Is (.pointer (some ⟨wr.heap.size, 0, none⟩))), (36, Is (.pointer (some ⟨wr.heap.size, 1, none⟩))), (37, Is (.int .i64 l)), (38, Is (.int .i64 M)), (39, Is (.string FL)), (40, Is (.string (T0 ++ W2 ++ WT ++ FA ++ FL))), (41, Is (.pointer (some ⟨wr.heap.size, 2, none⟩))), (42, Is (.int .i64 n)), (43, Is (.string FN)), (44, Is (.string (T0 ++ W2 ++ WT ++ FA ++ FL ++ FN))), (45, Is (.pointer (some ⟨wr.heap.size, 3, none⟩))), (46, Is (.int .i64 m)), (47, Is (.string FM)), (48, Is (.string (T0 ++ W2 ++ WT ++ FA ++ FL ++ FN ++ FM)))] : List (Nat × (Value → World → Prop))).map (·.1)).Nodup := by simp
      refine wp_region_steady 26 (SlotG [(23, Is (.string T0)), (24, Is (.string W2)), (25, Is (.string (T0 ++ W2))), (26, Is (.pointer (some ⟨wr.heap.size, 4, none⟩))), (27, Is (.int .i64 t)), (28, Is (.string WT)), (29, Is (.string (T0 ++ W2 ++ WT))), (30, Is (.pointer (some ⟨wr.heap.size, 0, none⟩))), (31, Is (.pointer (some ⟨wr.heap.size, 0, none⟩))), (32, Is (.int .i64 a)), (33, Is (.string FA)), (34, Is (.string (T0 ++ W2 ++ WT ++ FA))), (35, Is (.pointer (some ⟨wr.heap.size, 0, none⟩))), (36, Is (.pointer (some ⟨wr.heap.size, 1, none⟩))), (37, Is (.int .i64 l)), (38, Is (.int .i64 M)), (39, Is (.string FL)), (40, Is (.string (T0 ++ W2 ++ WT ++ FA ++ FL))), (41, Is (.pointer (some ⟨wr.heap.size, 2, none⟩))), (42, Is (.int .i64 n)), (43, Is (.string FN)), (44, Is (.string (T0 ++ W2 ++ WT ++ FA ++ FL ++ FN))), (45, Is (.pointer (some ⟨wr.heap.size, 3, none⟩))), (46, Is (.int .i64 m)), (47, Is (.string FM)), (48, Is (.string (T0 ++ W2 ++ WT ++ FA ++ FL ++ FN ++ FM)))]) (by kernel_rfl) (by kernel_rfl) (Stabs.all ⟨stab_is _, stab_is _, stab_is _, stab_is _, stab_is _, stab_is _, stab_is _, stab_is _, stab_is _, stab_is _, stab_is _, stab_is _, stab_is _, stab_is _, stab_is _, stab_is _, stab_is _, stab_is _, stab_is _, stab_is _, stab_is _, stab_is _, stab_is _, stab_is _, stab_is _, stab_is _, trivial⟩) ?_ ?_
      · intro o ho
        simp only [List.take_succ_cons, List.take_zero, List.mem_cons, List.not_mem_nil, or_false] at ho
        rcases ho with rfl | rfl | rfl | rfl | rfl | rfl | rfl | rfl | rfl | rfl | rfl | rfl | rfl | rfl | rfl | rfl | rfl | rfl | rfl | rfl | rfl | rfl | rfl | rfl | rfl | rfl
        · intro a' w' hb ha hdep
          have d3 : a'.tmps.getD 3 undef = .string T0 := ha.at 3 (by kernel_rfl)
          have hmk := fun (x : Value) (W : World) => SlotG.mk (x := x) (w := W) 0 rfl hGN
          clear hGN ha hdep
          go_simp
          exact ⟨_, rfl, Below.refl _ _, hmk _ _ rfl⟩
        · intro a' w' hb ha hdep
          have hmk := fun (x : Value) (W : World) => SlotG.mk (x := x) (w := W) 1 rfl hGN
          clear hGN ha hdep
          go_simp
          refine (HW2.out _).mono ?_
          rintro e w2 ⟨rfl, hb2⟩
          exact ⟨_, rfl, hb2, hmk _ _ rfl⟩
        · intro a' w' hb ha hdep
          have d23 : a'.tmps.getD 23 undef = .string T0 := (hdep 23 (of_decide_eq_true (by kernel_rfl))).is 0 rfl
          have d24 : a'.tmps.getD 24 undef = .string W2 := (hdep 24 (of_decide_eq_true (by kernel_rfl))).is 1 rfl
          have hmk := fun (x : Value) (W : World) => SlotG.mk (x := x) (w := W) 2 rfl hGN
          clear hGN ha hdep
          have hs : ¬ 9223372036854775807 < T0.size + 2 := by omega
          go_simp
          exact ⟨_, rfl, Below.refl _ _, hmk _ _ rfl⟩
        · intro a' w' hb ha hdep
          have d5 : a'.tmps.getD 5 undef = .pointer (some ⟨wr.heap.size, 0, none⟩) := ha.at 5 (by kernel_rfl)
          have hmk := fun (x : Value) (W : World) => SlotG.mk (x := x) (w := W) 3 rfl hGN
          clear hGN ha hdep
          go_simp
          exact ⟨_, rfl, Below.refl _ _, hmk _ _ rfl⟩
        · intro a' w' hb ha hdep
          have d26 : a'.tmps.getD 26 undef = .pointer (some ⟨wr.heap.size, 4, none⟩) := (hdep 26 (of_decide_eq_true (by kernel_rfl))).is 3 rfl
          have hmk := fun (x : Value) (W : World) => SlotG.mk (x := x) (w := W) 4 rfl hGN
          clear hGN ha hdep
          have c4 : w'.cell? ⟨wr.heap.size, 4, none⟩ = some (.int .i64 t) := (HR.out.below hb HR.out.lt).cell 4
          go_simp
          exact ⟨_, rfl, Below.refl _ _, hmk _ _ rfl⟩
        · intro a' w' hb ha hdep
          have d27 : a'.tmps.getD 27 undef = .int .i64 t := (hdep 27 (of_decide_eq_true (by kernel_rfl))).is 4 rfl
          have hmk := fun (x : Value) (W : World) => SlotG.mk (x := x) (w := W) 5 rfl hGN
          clear hGN ha hdep
          go_simp
          refine (HWt.out _).mono ?_
          rintro e w2 ⟨rfl, hb2⟩
          exact ⟨_, rfl, hb2, hmk _ _ rfl⟩
        · intro a' w' hb ha hdep
          have d25 : a'.tmps.getD 25 undef = .string (T0 ++ W2) := (hdep 25 (of_decide_eq_true (by kernel_rfl))).is 2 rfl
          have d28 : a'.tmps.getD 28 undef = .string WT := (hdep 28 (of_decide_eq_true (by kernel_rfl))).is 5 rfl
          have hmk := fun (x : Value) (W : World) => SlotG.mk (x := x) (w := W) 6 rfl hGN
          clear hGN ha hdep
          have hs : ¬ 9223372036854775807 < T0.size + 2 + 2 := by omega
          go_simp
          exact ⟨_, rfl, Below.refl _ _, hmk _ _ rfl⟩
        · intro a' w' hb ha hdep
          have d5 : a'.tmps.getD 5 undef = .pointer (some ⟨wr.heap.size, 0, none⟩) := ha.at 5 (by kernel_rfl)
          have hmk := fun (x : Value) (W : World) => SlotG.mk (x := x) (w := W) 7 rfl hGN
          clear hGN ha hdep
          go_simp
          exact ⟨_, rfl, Below.refl _ _, hmk _ _ rfl⟩
        · intro a' w' hb ha hdep
          have d30 : a'.tmps.getD 30 undef = .pointer (some ⟨wr.heap.size, 0, none⟩) := (hdep 30 (of_decide_eq_true (by kernel_rfl))).is 7 rfl
          have hmk := fun (x : Value) (W : World) => SlotG.mk (x := x) (w := W) 8 rfl hGN
          clear hGN ha hdep
          go_simp
          exact ⟨_, rfl, Below.refl _ _, hmk _ _ rfl⟩
        · intro a' w' hb ha hdep
          have d31 : a'.tmps.getD 31 undef = .pointer (some ⟨wr.heap.size, 0, none⟩) := (hdep 31 (of_decide_eq_true (by kernel_rfl))).is 8 rfl
          have hmk := fun (x : Value) (W : World) => SlotG.mk (x := x) (w := W) 9 rfl hGN
          clear hGN ha hdep
          have c0 : w'.cell? ⟨wr.heap.size, 0, none⟩ = some (.int .i64 a) := (HR.out.below hb HR.out.lt).cell 0
          go_simp
          exact ⟨_, rfl, Below.refl _ _, hmk _ _ rfl⟩
        · intro a' w' hb ha hdep
          have d32 : a'.tmps.getD 32 undef = .int .i64 a := (hdep 32 (of_decide_eq_true (by kernel_rfl))).is 9 rfl
          have hmk := fun (x : Value) (W : World) => SlotG.mk (x := x) (w := W) 10 rfl hGN
          clear hGN ha hdep
          go_simp
          refine (HFa.out _).mono ?_
          rintro e w2 ⟨rfl, hb2⟩
          exact ⟨_, rfl, hb2, hmk _ _ rfl⟩
        · intro a' w' hb ha hdep
          have d29 : a'.tmps.getD 29 undef = .string (T0 ++ W2 ++ WT) := (hdep 29 (of_decide_eq_true (by kernel_rfl))).is 6 rfl
          have d33 : a'.tmps.getD 33 undef = .string FA := (hdep 33 (of_decide_eq_true (by kernel_rfl))).is 10 rfl
          have hmk := fun (x : Value) (W : World) => SlotG.mk (x := x) (w := W) 11 rfl hGN
          clear hGN ha hdep
          have hs : ¬ 9223372036854775807 < T0.size + 2 + 2 + 4 := by omega
          go_simp
          exact ⟨_, rfl, Below.refl _ _, hmk _ _ rfl⟩
        · intro a' w' hb ha hdep
          have d5 : a'.tmps.getD 5 undef = .pointer (some ⟨wr.heap.size, 0, none⟩) := ha.at 5 (by kernel_rfl)
          have hmk := fun (x : Value) (W : World) => SlotG.mk (x := x) (w := W) 12 rfl hGN
          clear hGN ha hdep
          go_simp
          exact ⟨_, rfl, Below.refl _ _, hmk _ _ rfl⟩
        · intro a' w' hb ha hdep
          have d35 : a'.tmps.getD 35 undef = .pointer (some ⟨wr.heap.size, 0, none⟩) := (hdep 35 (of_decide_eq_true (by kernel_rfl))).is 12 rfl
          have hmk := fun (x : Value) (W : World) => SlotG.mk (x := x) (w := W) 13 rfl hGN
          clear hGN ha hdep
          go_simp
          exact ⟨_, rfl, Below.refl _ _, hmk _ _ rfl⟩
        · intro a' w' hb ha hdep
          have d36 : a'.tmps.getD 36 undef = .pointer (some ⟨wr.heap.size, 1, none⟩) := (hdep 36 (of_decide_eq_true (by kernel_rfl))).is 13 rfl
          have hmk := fun (x : Value) (W : World) => SlotG.mk (x := x) (w := W) 14 rfl hGN
          clear hGN ha hdep
          have c1 : w'.cell? ⟨wr.heap.size, 1, none⟩ = some (.int .i64 l) := (HR.out.below hb HR.out.lt).cell 1
          go_simp
          exact ⟨_, rfl, Below.refl _ _, hmk _ _ rfl⟩
        · intro a' w' hb ha hdep
          have d37 : a'.tmps.getD 37 undef = .int .i64 l := (hdep 37 (of_decide_eq_true (by kernel_rfl))).is 14 rfl
          have hmk := fun (x : Value) (W : World) => SlotG.mk (x := x) (w := W) 15 rfl hGN
          clear hGN ha hdep
          go_simp
          refine (HM.out _).mono ?_
          rintro e w2 ⟨rfl, rfl⟩
          exact ⟨_, rfl, Below.refl _ _, hmk _ _ rfl⟩
        · intro a' w' hb ha hdep
          have d38 : a'.tmps.getD 38 undef = .int .i64 M := (hdep 38 (of_decide_eq_true (by kernel_rfl))).is 15 rfl
          have hmk := fun (x : Value) (W : World) => SlotG.mk (x := x) (w := W) 16 rfl hGN
          clear hGN ha hdep
          go_simp
          refine (HFl.out _).mono ?_
          rintro e w2 ⟨rfl, hb2⟩
          exact ⟨_, rfl, hb2, hmk _ _ rfl⟩
        · intro a' w' hb ha hdep
          have d34 : a'.tmps.getD 34 undef = .string (T0 ++ W2 ++ WT ++ FA) := (hdep 34 (of_decide_eq_true (by kernel_rfl))).is 11 rfl
          have d39 : a'.tmps.getD 39 undef = .string FL := (hdep 39 (of_decide_eq_true (by kernel_rfl))).is 16 rfl
          have hmk := fun (x : Value) (W : World) => SlotG.mk (x := x) (w := W) 17 rfl hGN
          clear hGN ha hdep
          have hs : ¬ 9223372036854775807 < T0.size + 2 + 2 + 4 + 4 := by omega
          go_simp
          exact ⟨_, rfl, Below.refl _ _, hmk _ _ rfl⟩
        · intro a' w' hb ha hdep
          have d5 : a'.tmps.getD 5 undef = .pointer (some ⟨wr.heap.size, 0, none⟩) := ha.at 5 (by kernel_rfl)
          have hmk := fun (x : Value) (W : World) => SlotG.mk (x := x) (w := W) 18 rfl hGN
          clear hGN ha hdep
          go_simp
          exact ⟨_, rfl, Below.refl _ _, hmk _ _ rfl⟩
        · intro a' w' hb ha hdep
          have d41 : a'.tmps.getD 41 undef = .pointer (some ⟨wr.heap.size, 2, none⟩) := (hdep 41 (of_decide_eq_true (by kernel_rfl))).is 18 rfl
          have hmk := fun (x : Value) (W : World) => SlotG.mk (x := x) (w := W) 19 rfl hGN
          clear hGN ha hdep
          have c2 : w'.cell? ⟨wr.heap.size, 2, none⟩ = some (.int .i64 n) := (HR.out.below hb HR.out.lt).cell 2
          go_simp
          exact ⟨_, rfl, Below.refl _ _, hmk _ _ rfl⟩
        · intro a' w' hb ha hdep
          have d42 : a'.tmps.getD 42 undef = .int .i64 n := (hdep 42 (of_decide_eq_true (by kernel_rfl))).is 19 rfl
          have hmk := fun (x : Value) (W : World) => SlotG.mk (x := x) (w := W) 20 rfl hGN
          clear hGN ha hdep
          go_simp
          refine (HFn.out _).mono ?_
          rintro e w2 ⟨rfl, hb2⟩
          exact ⟨_, rfl, hb2, hmk _ _ rfl⟩
        · intro a' w' hb ha hdep
          have d40 : a'.tmps.getD 40 undef = .string (T0 ++ W2 ++ WT ++ FA ++ FL) := (hdep 40 (of_decide_eq_true (by kernel_rfl))).is 17 rfl
          have d43 : a'.tmps.getD 43 undef = .string FN := (hdep 43 (of_decide_eq_true (by kernel_rfl))).is 20 rfl
          have hmk := fun (x : Value) (W : World) => SlotG.mk (x := x) (w := W) 21 rfl hGN
          clear hGN ha hdep
          have hs : ¬ 9223372036854775807 < T0.size + 2 + 2 + 4 + 4 + 4 := by omega
          go_simp
          exact ⟨_, rfl, Below.refl _ _, hmk _ _ rfl⟩
        · intro a' w' hb ha hdep
          have d5 : a'.tmps.getD 5 undef = .pointer (some ⟨wr.heap.size, 0, none⟩) := ha.at 5 (by kernel_rfl)
          have hmk := fun (x : Value) (W : World) => SlotG.mk (x := x) (w := W) 22 rfl hGN
          clear hGN ha hdep
          go_simp
          exact ⟨_, rfl, Below.refl _ _, hmk _ _ rfl⟩
        · intro a' w' hb ha hdep
          have d45 : a'.tmps.getD 45 undef = .pointer (some ⟨wr.heap.size, 3, none⟩) := (hdep 45 (of_decide_eq_true (by kernel_rfl))).is 22 rfl
          have hmk := fun (x : Value) (W : World) => SlotG.mk (x := x) (w := W) 23 rfl hGN
          clear hGN ha hdep
          have c3 : w'.cell? ⟨wr.heap.size, 3, none⟩ = some (.int .i64 m) := (HR.out.below hb HR.out.lt).cell 3
          go_simp
          exact ⟨_, rfl, Below.refl _ _, hmk _ _ rfl⟩
        · intro a' w' hb ha hdep
          have d46 : a'.tmps.getD 46 undef = .int .i64 m := (hdep 46 (of_decide_eq_true (by kernel_rfl))).is 23 rfl
          have hmk := fun (x : Value) (W : World) => SlotG.mk (x := x) (w := W) 24 rfl hGN
          clear hGN ha hdep
          go_simp
          refine (HFm.out _).mono ?_
          rintro e w2 ⟨rfl, hb2⟩
          exact ⟨_, rfl, hb2, hmk _ _ rfl⟩
        · intro a' w' hb ha hdep
          have d44 : a'.tmps.getD 44 undef = .string (T0 ++ W2 ++ WT ++ FA ++ FL ++ FN) := (hdep 44 (of_decide_eq_true (by kernel_rfl))).is 21 rfl
          have d47 : a'.tmps.getD 47 undef = .string FM := (hdep 47 (of_decide_eq_true (by kernel_rfl))).is 24 rfl
          have hmk := fun (x : Value) (W : World) => SlotG.mk (x := x) (w := W) 25 rfl hGN
          clear hGN ha hdep
          have hs : ¬ 9223372036854775807 < T0.size + 2 + 2 + 4 + 4 + 4 + 4 := by omega
          go_simp
          exact ⟨_, rfl, Below.refl _ _, hmk _ _ rfl⟩
      · intro a' w' hb' ha hG
        clear hGN
        have d48 : a'.tmps.getD 48 undef = .string (T0 ++ W2 ++ WT ++ FA ++ FL ++ FN ++ FM) := (hG _ (List.mem_of_getElem? (i := 25) rfl) 48 rfl).is 25 rfl
        have d0 : a'.tmps.getD 0 undef = .agg #[.int .i64 c, .slice (some ⟨g, 0, none⟩) es.length cap] := ha.at 0 (by kernel_rfl)
        have d1 : a'.tmps.getD 1 undef = .pointer (some ⟨w.heap.size, 0, none⟩) := ha.at 1 (by kernel_rfl)
        have d2 : a'.tmps.getD 2 undef = .string ⟨#[]⟩ := ha.at 2 (by kernel_rfl)
        have d4 : a'.tmps.getD 4 undef = .int .i64 (k : Int) := ha.at 4 (by kernel_rfl)
        have d6 : a'.tmps.getD 6 undef = .pointer (some ⟨w.heap.size, 0, none⟩) := ha.at 6 (by kernel_rfl)
        have d7 : a'.tmps.getD 7 undef = .int .i64 c := ha.at 7 (by kernel_rfl)
        have d8 : a'.tmps.getD 8 undef = .int .u8 c := ha.at 8 (by kernel_rfl)
        have d9 : a'.tmps.getD 9 undef = .slice (some ⟨w.heap.size + 1, 0, none⟩) 4 4 := ha.at 9 (by kernel_rfl)
        have d10 : a'.tmps.getD 10 undef = .string HD := ha.at 10 (by kernel_rfl)
        have d49 : a'.tmps.getD 49 undef = undef := ha.at 49 (by kernel_rfl)
        have e2 : a' = ⟨#[a'.tmps.getD 0 undef, a'.tmps.getD 1 undef, a'.tmps.getD 2 undef, a'.tmps.getD 3 undef, a'.tmps.getD 4 undef, a'.tmps.getD 5 undef, a'.tmps.getD 6 undef, a'.tmps.getD 7 undef, a'.tmps.getD 8 undef, a'.tmps.getD 9 undef, a'.tmps.getD 10 undef, a'.tmps.getD 11 undef, a'.tmps.getD 12 undef, a'.tmps.getD 13 undef, a'.tmps.getD 14 undef, a'.tmps.getD 15 undef, a'.tmps.getD 16 undef, a'.tmps.getD 17 undef, a'.tmps.getD 18 undef, a'.tmps.getD 19 undef, a'.tmps.getD 20 undef, a'.tmps.getD 21 undef, a'.tmps.getD 22 undef, a'.tmps.getD 23 undef, a'.tmps.getD 24 undef, a'.tmps.getD 25 undef, a'.tmps.getD 26 undef, a'.tmps.getD 27 undef, a'.tmps.getD 28 undef, a'.tmps.getD 29 undef, a'.tmps.getD 30 undef, a'.tmps.getD 31 undef, a'.tmps.getD 32 undef, a'.tmps.getD 33 undef, a'.tmps.getD 34 undef, a'.tmps.getD 35 undef, a'.tmps.getD 36 undef, a'.tmps.getD 37 undef, a'.tmps.getD 38 undef, a'.tmps.getD 39 undef, a'.tmps.getD 40 undef, a'.tmps.getD 41 undef, a'.tmps.getD 42 undef, a'.tmps.getD 43 undef, a'.tmps.getD 44 undef, a'.tmps.getD 45 undef, a'.tmps.getD 46 undef, a'.tmps.getD 47 undef, a'.tmps.getD 48 undef, a'.tmps.getD 49 undef], []⟩ := by rw [← (show a'.defers = [] from ha.2.1)]; exact act_eq a' 50 ha.1
        rw [d48, d0, d1, d2, d4, d6, d7, d8, d9, d10, d49] at e2
        clear hG ha d48 d0 d1 d2 d4 d6 d7 d8 d9 d10 d49
        generalize a'.tmps.getD 3 undef = x3 at *
        generalize a'.tmps.getD 5 undef = x5 at *
        generalize a'.tmps.getD 11 undef = x11 at *
        generalize a'.tmps.getD 12 undef = x12 at *
        generalize a'.tmps.getD 13 undef = x13 at *
        generalize a'.tmps.getD 14 undef = x14 at *
        generalize a'.tmps.getD 15 undef = x15 at *
        generalize a'.tmps.getD 16 undef = x16 at *
        generalize a'.tmps.getD 17 undef = x17 at *
        generalize a'.tmps.getD 18 undef = x18 at *
        generalize a'.tmps.getD 19 undef = x19 at *
        generalize a'.tmps.getD 20 undef = x20 at *
        generalize a'.tmps.getD 21 undef = x21 at *
        generalize a'.tmps.getD 22 undef = x22 at *
        generalize a'.tmps.getD 23 undef = x23 at *
        generalize a'.tmps.getD 24 undef = x24 at *
        generalize a'.tmps.getD 25 undef = x25 at *
        generalize a'.tmps.getD 26 undef = x26 at *
        generalize a'.tmps.getD 27 undef = x27 at *
        generalize a'.tmps.getD 28 undef = x28 at *
        generalize a'.tmps.getD 29 undef = x29 at *
        generalize a'.tmps.getD 30 undef = x30 at *
        generalize a'.tmps.getD 31 undef = x31 at *
        generalize a'.tmps.getD 32 undef = x32 at *
        generalize a'.tmps.getD 33 undef = x33 at *
        generalize a'.tmps.getD 34 undef = x34 at *
        generalize a'.tmps.getD 35 undef = x35 at *
        generalize a'.tmps.getD 36 undef = x36 at *
        generalize a'.tmps.getD 37 undef = x37 at *
        generalize a'.tmps.getD 38 undef = x38 at *
        generalize a'.tmps.getD 39 undef = x39 at *
        generalize a'.tmps.getD 40 undef = x40 at *
        generalize a'.tmps.getD 41 undef = x41 at *
        generalize a'.tmps.getD 42 undef = x42 at *
        generalize a'.tmps.getD 43 undef = x43 at *
        generalize a'.tmps.getD 44 undef = x44 at *
        generalize a'.tmps.getD 45 undef = x45 at *
        generalize a'.tmps.getD 46 undef = x46 at *
        generalize a'.tmps.getD 47 undef = x47 at *
        subst e2
        simp only [List.drop_succ_cons, List.drop_zero]
        have hb2 := hb.trans (((ent_new0 wr (.cells #[.int .i64 a, .int .i64 l, .int .i64 n, .int .i64 m, .int .i64 t] 44)).trans (hb'.mono (by simp))).mono (by have := hb.size; simp at this; omega))
        rw [HN.out]
        clear hb' HN HW2 HWt HFa HFl HFn HFm HM HR c0 c1 c2 c3 c4 s1 s2 s3 s4 s5 s6 hsz x1 hconv hB0
        go_wp2
        go_roundw
        case rel => exact ⟨k + 1, hlt, by go_num, rfl, hb2⟩
        case measure => simp [intOf]; omega
    · obtain rfl : k = es.length := by omega
      rw [HF.out]
      clear hlt hk
      go_wp2
      go_ret
      exact ⟨rfl, hbw⟩
set_option maxRecDepth 100000 in
theorem specRipBytes_any (c : Int) (p : Option Addr) (cap : Nat) (es : List Ent) (w : World) (h : EntsIn w p es) (hn : es.length ≤ 100000000) :
    Calls Tryd.prog 17 #[ripV c p es.length cap] w fun e w' => e = .returned (.string (ripO c es)) ∧ Below w.heap.size w w' := by
  have HR : Hid (∀ w, EntsIn w p es → Calls Tryd.prog 23 #[ripV c p es.length cap] w fun e w' => e = .returned (.bool (ripB c es)) ∧ Below w.heap.size w w') := fun w h => specRipRight_any c p cap es w h hn
  have HX : Hid (EntsIn w p es) := h
  clear h
  by_cases hr : ripB c es = true
  · have HO : Hid (ripO c es = ripT c es) := if_pos hr
    have HB : Hid (∀ w, EntsIn w p es → Calls Tryd.prog 34 #[ripV c p es.length cap] w fun e w' => e = .returned (.string (ripT c es)) ∧ Below w.heap.size w w') := fun w h => spec05Bytes_any c p cap es w h hr
    rw [hr] at HR
    rw [HO.out]
    unfold ripV at *
    clear hr HO
    generalize ripT c es = RT at *
    go_enter Tryd.func17, Tryd.ntmps17
    go_wp2_with fail
    refine (HR.out _ (HX.out.alloc _)).mono ?_
    rintro e w1 ⟨rfl, hb1⟩
    obtain ⟨c0, c1, hs1, hB1⟩ := cell2_later rfl hb1
    clear hb1 HR
    go_wp2_with fail
    refine (HB.out _ (HX.out.below hB1)).mono ?_
    rintro e w2 ⟨rfl, hb2⟩
    have hB2 := hB1.trans (hb2.mono hB1.size)
    clear hb2
    go_wp2
    go_ret
    exact ⟨rfl, hB2⟩
  · have HO : Hid (ripO c es = ByteArray.empty) := if_neg hr
    have hr' : ripB c es = false := by simpa using hr
    rw [hr'] at HR
    rw [HO.out]
    unfold ripV at *
    go_enter Tryd.func17, Tryd.ntmps17
    go_wp2_with fail
    refine (HR.out _ (HX.out.alloc _)).mono ?_
    rintro e w1 ⟨rfl, hb1⟩
    have hB1 := (ent_new0 w _).trans (hb1.mono (by simp))
    clear hb1
    go_wp2
    go_ret
    exact ⟨rfl, hB1⟩
end Go.Proofs.YtehiipddbgoajaaDoor
/- The number in some bytes, of the model. -/
namespace Go.Proofs.YtehiipddbgoajaaDoor
open Go.RowKit

set_option maxRecDepth 100000 in
theorem specGet_any (t : ByteArray) (w : World) (hl : t.size ≤ 4) :
    Calls Tryd.prog 15 #[.string t] w fun e w' => e = .returned (.int .i64 (numL t.data.toList : Int)) ∧ w = w' := by
  have hts : t.data.toList.length = t.size := by simp
  have HP : Hid (∀ k, k ≤ 4 → numL (t.data.toList.take k) < 4294967296) := by
    intro k hk
    have h1 := numL_lt (t.data.toList.take k)
    have h2 : 256 ^ (t.data.toList.take k).length ≤ 256 ^ 4 := Nat.pow_le_pow_right (by decide) (by rw [List.length_take]; omega)
    omega
  have H0 : Hid (numL (t.data.toList.take 0) = 0) := rfl
  have HS : Hid (∀ k, (h : k < t.size) → numL (t.data.toList.take (k + 1)) = 256 * numL (t.data.toList.take k) + t[k].toNat) := fun k h => numL_take t.data.toList k (by simpa using h)
  have HE : Hid (numL (t.data.toList.take t.size) = numL t.data.toList) := by rw [Hid, ← hts, List.take_length]
  generalize numL t.data.toList = R at *
  generalize hf : (fun k => numL (t.data.toList.take k)) = f
  have e : ∀ k, numL (t.data.toList.take k) = f k := fun k => by rw [← hf]
  simp only [e] at HP H0 HS HE
  clear e hf hts
  go_enter Tryd.func15, Tryd.ntmps15
  go_wp2_with fail
  go_loop [3, 4] (fun v i => ∃ k : Nat, k ≤ t.size ∧ i = .int .i64 (k : Int) ∧ v = .int .i64 (f k : Int)) (fun _ i => t.size - (intOf i).toNat)
  case atStart => exact ⟨0, by omega, rfl, by rw [H0.out]; rfl⟩
  case round =>
    obtain ⟨k, hk, rfl, rfl⟩ := hrel
    by_cases hlt : k < t.size
    · have hb := t[k].toNat_lt
      have hf1 := HP.out k (by omega)
      have hN : Hid (f (k + 1) = 256 * f k + t[k].toNat) := HS.out k hlt
      have hw1 := wrap_i64_in (256 * (f k : Int)) (by omega) (by omega)
      have hw2 := wrap_i64_in (256 * (f k : Int) + (t[k].toNat : Int)) (by omega) (by omega)
      generalize hfk : f k = n at *
      clear hfk
      go_wp2
      go_round
      case rel => exact ⟨k + 1, by omega, by go_num, by rw [hN.out]; go_num⟩
      case measure => simp [intOf]; omega
    · obtain rfl : k = t.size := by omega
      rw [HE.out]
      go_wp2
      go_ret
      exact ⟨rfl, rfl⟩
end Go.Proofs.YtehiipddbgoajaaDoor
/- Texts cut. -/
namespace Go.Proofs.YtehiipddbgoajaaDoor
open Go.RowKit

theorem extract_list (t : ByteArray) (a b : Nat) : (t.extract a b).data.toList = (t.data.toList.take b).drop a := by
  simp [ByteArray.extract, ByteArray.copySlice, List.drop_take]
theorem slice_to (t : ByteArray) (a b : Nat) (x y : Int) (hx : x = a) (hy : y = b) (hab : a ≤ b) (hb : b ≤ t.size) (w : World) : (Instr.slice 9 (.string t) (some (.int .i64 x)) (some (.int .i64 y)) none).run Tryd.prog w = .ok (.string (t.extract a b)) w := by
  rw [run_slice_string _ _ _ _ _ _ _ Tryd.underlying9 (by omega) (by omega) (by omega), hx, hy]; rfl
theorem slice_on (t : ByteArray) (i : Int) (n : Nat) (hi : i = n) (hn : n ≤ t.size) (w : World) : (Instr.slice 9 (.string t) (some (.int .i64 i)) none none).run Tryd.prog w = .ok (.string (t.extract n t.size)) w := by
  rw [run_slice_string_from_if _ _ _ _ _ Tryd.underlying9, if_pos (by omega), hi]; rfl
theorem slice_upto (t : ByteArray) (y : Int) (b : Nat) (hy : y = b) (hb : b ≤ t.size) (w : World) : (Instr.slice 9 (.string t) none (some (.int .i64 y)) none).run Tryd.prog w = .ok (.string (t.extract 0 b)) w := by
  rw [run_slice_string_to_if _ _ _ _ _ Tryd.underlying9, if_pos (by omega), hy]; rfl
end Go.Proofs.YtehiipddbgoajaaDoor
/- RipRead of the model. (Written by gen_ripreads.py.) -/
namespace Go.Proofs.YtehiipddbgoajaaDoor
open Go.RowKit Go.Sort

theorem cut20 (t : ByteArray) (k : Nat) : readE (t.extract (4 + 20 * k) (24 + 20 * k)).data.toList = readE ((t.data.toList.drop 4).drop (20 * k)) := by
  rw [extract_list, ← readE_cut ((t.data.toList.drop 4).drop (20 * k))]
  congr 1
  simp only [cutL, List.drop_zero, List.drop_drop]
  rw [List.drop_take, show 24 + 20 * k - (4 + 20 * k) = 20 by omega]
theorem cut_ext (t : ByteArray) (a b : Nat) : (t.extract a b).data.toList = cutL t.data.toList a b := extract_list t a b
/-- The state of the model's loop. -/
def SpSt (t : ByteArray) (w : World) (k : Nat) (p : Option Addr) (cv : Nat) (C : Int) (W : World) : Prop :=
  Row W w.heap.size 26 [.int .i64 0, .slice none 0 0, .int .i64 0, .int .i64 0] ∧ Row W (w.heap.size + 1) 24 [.int .i64 C, .slice p k cv] ∧ OwnE W (w.heap.size + 2) (.slice p k cv) (readEs (t.data.toList.drop 4) k) ∧ Below w.heap.size w W
theorem SpSt.below {t : ByteArray} {w : World} {k : Nat} {p : Option Addr} {cv : Nat} {C : Int} {W W' : World} (h : SpSt t w k p cv C W) (hb : Below W.heap.size W W') : SpSt t w k p cv C W' :=
  ⟨h.1.below hb h.1.lt, h.2.1.below hb h.2.1.lt, h.2.2.1.below hb, h.2.2.2.trans (hb.mono h.2.2.2.size)⟩
theorem spSt_next {t : ByteArray} {w : World} {k : Nat} {p : Option Addr} {cv : Nat} {C : Int} {W W' : World} {p4 : Option Addr} {cv4 : Nat} (h : SpSt t w k p cv C W) (hb : Below (w.heap.size + 2) W W') (how : OwnE W' (w.heap.size + 2) (.slice p4 (k + 1) cv4) (readEs (t.data.toList.drop 4) (k + 1))) :
    SpSt t w (k + 1) p4 cv4 C (W'.setCell ⟨w.heap.size + 1, 1, none⟩ (.slice p4 (k + 1) cv4)) := by
  obtain ⟨h1, h2, _, h4⟩ := h
  refine ⟨(h1.below hb (by omega)).other 1 _ (by omega), (h2.below hb (by omega)).set 1 _, how.set _ (by show w.heap.size + 1 < w.heap.size + 2; omega) _, (h4.trans (hb.mono (by omega))).setCell (p := ⟨w.heap.size + 1, 1, none⟩) (by show w.heap.size ≤ w.heap.size + 1; omega) _⟩
set_option maxRecDepth 100000 in
set_option maxHeartbeats 4000000 in
theorem specRipRead_in (t : ByteArray) (w : World) (h4 : 4 ≤ t.size) (h8 : t.size ≤ 8000) :
    Calls Tryd.prog 5 #[.string t] w fun e w' => RdOut (rdR t) 0 w w' e := by
  have d8 : decide (8000 < (t.size : Int)) = false := by simp; omega
  have d4 : decide ((t.size : Int) < 4) = false := by simp; omega
  have HG : Hid (∀ (s : ByteArray) w, s.size ≤ 4 → Calls Tryd.prog 15 #[.string s] w fun e w' => e = .returned (.int .i64 (numL s.data.toList : Nat)) ∧ w = w') := fun s w h => specGet_any s w h
  have HL : Hid (∀ (m : Int) w, Calls Tryd.prog 16 #[.int .i64 m] w fun e w' => e = .returned (.int .i64 (lenM m)) ∧ w = w') := specLen_any
  have hlt : 0 < t.size := by omega
  have hC : ((t[0]'hlt).toNat : Int) = (numL (cutL t.data.toList 0 1) : Nat) := by
    have e : cutL t.data.toList 0 1 = [t[0]'hlt] := by
      unfold cutL
      rw [List.drop_zero, List.take_one, List.head?_eq_getElem?, List.getElem?_eq_getElem (by simpa using hlt)]
      rfl
    rw [e]; simp [numL]
  have HC : Hid _ := hC
  clear hC
  go_enter Tryd.func5, Tryd.ntmps5
  go_wp2_with fail
  rw [HC.out]
  have hC0 : (0 : Int) ≤ (numL (cutL t.data.toList 0 1) : Nat) ∧ ((numL (cutL t.data.toList 0 1) : Nat) : Int) ≤ 255 := by rw [← HC.out]; have := (t[0]'hlt).toNat_lt; omega
  have HPl : Hid (∀ k, k = nE t.data.toList → rdR t = if ripO (numL (cutL t.data.toList 0 1) : Nat) (readEs (t.data.toList.drop 4) k) = t then (((numL (cutL t.data.toList 0 1) : Nat) : Int), readEs (t.data.toList.drop 4) k, 0) else (0, [], 3)) := fun k hk => by
    subst hk
    unfold rdR plainR
    rw [if_neg (by omega), if_neg (by omega)]
    split
    · rename_i h
      split at h
      · rename_i he
        simp only [Option.some.injEq, Prod.mk.injEq] at h
        rw [if_pos he, h.1, h.2]
      · cases h
    · rename_i h
      split at h
      · cases h
      · rename_i he
        rw [if_neg he]
  have hw64 := wrap64_in ((numL (cutL t.data.toList 0 1) : Nat) : Int) (by omega) (by omega)
  rw [hw64]
  clear HC hw64
  generalize ((numL (cutL t.data.toList 0 1) : Nat) : Int) = C at *
  have hS0 : SpSt t w 0 none 0 C ((w.alloc (.cells #[.int .i64 0, .slice none 0 0, .int .i64 0, .int .i64 0] 26)).alloc (.cells #[.int .i64 C, .slice none 0 0] 24)) := by
    have q1 := Row.new (w.alloc (.cells #[.int .i64 0, .slice none 0 0, .int .i64 0, .int .i64 0] 26)) 24 [.int .i64 C, .slice none 0 0]
    rw [show (w.alloc (.cells #[.int .i64 0, .slice none 0 0, .int .i64 0, .int .i64 0] 26)).heap.size = w.heap.size + 1 by simp] at q1
    exact ⟨(Row.new w _ _).alloc _, q1, OwnE.nil _ _, (ent_new0 w _).alloc (by simp) _⟩
  go_loopw [4] (fun i wr => ∃ (k : Nat) (p : Option Addr) (cv : Nat), k ≤ 9 ∧ 4 + 20 * k ≤ t.size ∧ i = .int .i64 (4 + 20 * (k : Int)) ∧ SpSt t w k p cv C wr) (fun i _ => 8000 - (intOf i).toNat)
  case atStart => exact ⟨0, none, 0, by omega, by omega, by go_num, hS0⟩
  case round =>
    obtain ⟨k, p, cv, hk9, hk, rfl, hST⟩ := hrel
    clear hS0
    have HST : Hid (SpSt t w k p cv C wr) := hST
    have hs2 : w.heap.size + 1 < wr.heap.size := hST.2.1.lt
    clear hST
    by_cases h1 : 24 + 20 * k ≤ t.size
    · have d1 : decide (4 + 20 * (k : Int) + 20 ≤ (t.size : Int)) = true := by simp; omega
      by_cases h2 : k < 9
      · have d2 : decide (4 + 20 * (k : Int) < 184) = true := by simp; omega
        have hsl := slice_to t (4 + 20 * k) (24 + 20 * k) (4 + 20 * (k : Int)) (4 + 20 * (k : Int) + 20) (by omega) (by omega) (by omega) h1
        have HSL : Hid _ := hsl
        have HT : Hid (∃ T, T = t.extract (4 + 20 * k) (24 + 20 * k)) := ⟨_, rfl⟩
        obtain ⟨T, hT⟩ := HT.out
        rw [← hT] at HSL
        have hTs : T.size = 20 := by rw [hT, ByteArray.size_extract]; omega
        have HRE : Hid (readE T.data.toList = readE ((t.data.toList.drop 4).drop (20 * k))) := by rw [hT]; exact cut20 t k
        clear hsl HT hT
        have HSa : Hid (∀ w, (Instr.slice 9 (.string T) (some (.int .i64 4)) (some (.int .i64 8)) none).run Tryd.prog w = .ok (.string (T.extract 4 8)) w) := fun w => slice_to T 4 8 4 8 rfl rfl (by omega) (by omega) w
        have HSb : Hid (∀ w, (Instr.slice 9 (.string T) (some (.int .i64 8)) (some (.int .i64 12)) none).run Tryd.prog w = .ok (.string (T.extract 8 12)) w) := fun w => slice_to T 8 12 8 12 rfl rfl (by omega) (by omega) w
        have HSc : Hid (∀ w, (Instr.slice 9 (.string T) (some (.int .i64 12)) (some (.int .i64 16)) none).run Tryd.prog w = .ok (.string (T.extract 12 16)) w) := fun w => slice_to T 12 16 12 16 rfl rfl (by omega) (by omega) w
        have HSd : Hid (∀ w, (Instr.slice 9 (.string T) (some (.int .i64 16)) none none).run Tryd.prog w = .ok (.string (T.extract 16 20)) w) := fun w => by have := slice_on T 16 16 rfl (by omega) w; rw [hTs] at this; exact this
        have HSe : Hid (∀ w, (Instr.slice 9 (.string T) (some (.int .i64 2)) (some (.int .i64 4)) none).run Tryd.prog w = .ok (.string (T.extract 2 4)) w) := fun w => slice_to T 2 4 2 4 rfl rfl (by omega) (by omega) w
        have HGa : Hid (∀ w, Calls Tryd.prog 15 #[.string (T.extract 4 8)] w fun e w' => e = .returned (.int .i64 (numL (cutL T.data.toList 4 8) : Nat)) ∧ w = w') := fun w => by have := HG.out (T.extract 4 8) w (by rw [ByteArray.size_extract]; omega); rwa [cut_ext] at this
        have HGb : Hid (∀ w, Calls Tryd.prog 15 #[.string (T.extract 8 12)] w fun e w' => e = .returned (.int .i64 (numL (cutL T.data.toList 8 12) : Nat)) ∧ w = w') := fun w => by have := HG.out (T.extract 8 12) w (by rw [ByteArray.size_extract]; omega); rwa [cut_ext] at this
        have HGc : Hid (∀ w, Calls Tryd.prog 15 #[.string (T.extract 12 16)] w fun e w' => e = .returned (.int .i64 (numL (cutL T.data.toList 12 16) : Nat)) ∧ w = w') := fun w => by have := HG.out (T.extract 12 16) w (by rw [ByteArray.size_extract]; omega); rwa [cut_ext] at this
        have HGd : Hid (∀ w, Calls Tryd.prog 15 #[.string (T.extract 16 20)] w fun e w' => e = .returned (.int .i64 (numL (cutL T.data.toList 16 20) : Nat)) ∧ w = w') := fun w => by have := HG.out (T.extract 16 20) w (by rw [ByteArray.size_extract]; omega); rwa [cut_ext] at this
        have HGe : Hid (∀ w, Calls Tryd.prog 15 #[.string (T.extract 2 4)] w fun e w' => e = .returned (.int .i64 (numL (cutL T.data.toList 2 4) : Nat)) ∧ w = w') := fun w => by have := HG.out (T.extract 2 4) w (by rw [ByteArray.size_extract]; omega); rwa [cut_ext] at this
        have HLn : Hid (∀ w, Calls Tryd.prog 16 #[.int .i64 (numL (cutL T.data.toList 8 12) : Nat)] w fun e w' => e = .returned (.int .i64 (lenM (numL (cutL T.data.toList 8 12) : Nat))) ∧ w = w') := fun w => HL.out _ w
        have HNX : Hid (readEs (t.data.toList.drop 4) (k + 1) = readEs (t.data.toList.drop 4) k ++ [⟨((numL (cutL T.data.toList 4 8) : Nat) : Int), lenM (numL (cutL T.data.toList 8 12) : Nat), ((numL (cutL T.data.toList 12 16) : Nat) : Int), ((numL (cutL T.data.toList 16 20) : Nat) : Int), ((numL (cutL T.data.toList 2 4) : Nat) : Int)⟩]) := by
          show readEs _ k ++ [readE ((t.data.toList.drop 4).drop (20 * k))] = _
          rw [← HRE.out]
          rfl
        have hkk : (readEs (t.data.toList.drop 4) k).length ≤ 1000000 := by rw [readEs_length]; omega
        generalize T.extract 4 8 = Ta at *
        generalize T.extract 8 12 = Tb at *
        generalize T.extract 12 16 = Tc at *
        generalize T.extract 16 20 = Td at *
        generalize T.extract 2 4 = Te at *
        generalize lenM (numL (cutL T.data.toList 8 12) : Nat) = LV at *
        generalize ((numL (cutL T.data.toList 4 8) : Nat) : Int) = V1 at *
        generalize ((numL (cutL T.data.toList 8 12) : Nat) : Int) = V2 at *
        generalize ((numL (cutL T.data.toList 12 16) : Nat) : Int) = V3 at *
        generalize ((numL (cutL T.data.toList 16 20) : Nat) : Int) = V4 at *
        generalize ((numL (cutL T.data.toList 2 4) : Nat) : Int) = V5 at *
        have hs := HSL.out
        clear HG HL HRE HPl hTs
        go_wp2_with fail
        clear hs
        have HR : Hid (Row wr (w.heap.size + 1) 24 [.int .i64 C, .slice p k cv]) := HST.out.2.1
        have hGN : (([(34, Is (.pointer (some ⟨w.heap.size + 1, 1, none⟩))), (35, Is (.slice p k cv)), (36, Is (.string T)), (37, Is (.string Ta)), (38, Is (.int .i64 V1)), (39, Is (.string T)), (40, Is (.string Tb)), (41, Is (.int .i64 V2)), (42, Is (.int .i64 LV)), (43, Is (.agg #[.int .i64 V1, .int .i64 LV])), (44, Is (.string T)), (45, Is (.string Tc)), (46, Is (.int .i64 V3)), (47, Is (.string T)), (48, Is (.string Td)), (49, Is (.int .i64 V4)), (50, Is (.string T)), (51, Is (.string Te)), (52, Is (.int .i64 V5)), (53, Is (.agg #[.int .i64 V1, .int .i64 LV, .int .i64 V3, .int .i64 V4, .int .i64 V5])), (54, fun x W' => ∃ gx, x = .slice (some ⟨gx, 0, none⟩) 1 1 ∧ Row W' gx 44 (entL ⟨V1, LV, V3, V4, V5⟩))] : List (Nat × (Value → World → Prop))).map (·.1)).Nodup := by simp
        refine wp_region_steady 21 (SlotG [(34, Is (.pointer (some ⟨w.heap.size + 1, 1, none⟩))), (35, Is (.slice p k cv)), (36, Is (.string T)), (37, Is (.string Ta)), (38, Is (.int .i64 V1)), (39, Is (.string T)), (40, Is (.string Tb)), (41, Is (.int .i64 V2)), (42, Is (.int .i64 LV)), (43, Is (.agg #[.int .i64 V1, .int .i64 LV])), (44, Is (.string T)), (45, Is (.string Tc)), (46, Is (.int .i64 V3)), (47, Is (.string T)), (48, Is (.string Td)), (49, Is (.int .i64 V4)), (50, Is (.string T)), (51, Is (.string Te)), (52, Is (.int .i64 V5)), (53, Is (.agg #[.int .i64 V1, .int .i64 LV, .int .i64 V3, .int .i64 V4, .int .i64 V5])), (54, fun x W' => ∃ gx, x = .slice (some ⟨gx, 0, none⟩) 1 1 ∧ Row W' gx 44 (entL ⟨V1, LV, V3, V4, V5⟩))]) (by kernel_rfl) (by kernel_rfl) (Stabs.all ⟨stab_is _, stab_is _, stab_is _, stab_is _, stab_is _, stab_is _, stab_is _, stab_is _, stab_is _, stab_is _, stab_is _, stab_is _, stab_is _, stab_is _, stab_is _, stab_is _, stab_is _, stab_is _, stab_is _, stab_is _, stab_ent _ _, trivial⟩) ?_ ?_
        · intro o ho
          simp only [List.take_succ_cons, List.take_zero, List.mem_cons, List.not_mem_nil, or_false] at ho
          rcases ho with rfl | rfl | rfl | rfl | rfl | rfl | rfl | rfl | rfl | rfl | rfl | rfl | rfl | rfl | rfl | rfl | rfl | rfl | rfl | rfl | rfl
          · intro a' w' hb ha hdep
            have d3 : a'.tmps.getD 3 undef = .pointer (some ⟨w.heap.size + 1, 0, none⟩) := ha.at 3 (by kernel_rfl)
            have hmk := fun (x : Value) (W : World) => SlotG.mk (x := x) (w := W) 0 rfl hGN
            clear hGN ha hdep
            go_simp
            exact ⟨_, rfl, Below.refl _ _, hmk _ _ rfl⟩
          · intro a' w' hb ha hdep
            have d34 : a'.tmps.getD 34 undef = .pointer (some ⟨w.heap.size + 1, 1, none⟩) := (hdep 34 (of_decide_eq_true (by kernel_rfl))).is 0 rfl
            have hmk := fun (x : Value) (W : World) => SlotG.mk (x := x) (w := W) 1 rfl hGN
            clear hGN ha hdep
            have c1 : w'.cell? ⟨w.heap.size + 1, 1, none⟩ = some (.slice p k cv) := (HR.out.below hb HR.out.lt).cell 1
            go_simp
            exact ⟨_, rfl, Below.refl _ _, hmk _ _ rfl⟩
          · intro a' w' hb ha hdep
            have d5 : a'.tmps.getD 5 undef = .string T := ha.at 5 (by kernel_rfl)
            have hmk := fun (x : Value) (W : World) => SlotG.mk (x := x) (w := W) 2 rfl hGN
            clear hGN ha hdep
            go_simp
            exact ⟨_, rfl, Below.refl _ _, hmk _ _ rfl⟩
          · intro a' w' hb ha hdep
            have d36 : a'.tmps.getD 36 undef = .string T := (hdep 36 (of_decide_eq_true (by kernel_rfl))).is 2 rfl
            have hmk := fun (x : Value) (W : World) => SlotG.mk (x := x) (w := W) 3 rfl hGN
            clear hGN ha hdep
            have hs := HSa.out w'
            go_simp
            exact ⟨_, rfl, Below.refl _ _, hmk _ _ rfl⟩
          · intro a' w' hb ha hdep
            have d37 : a'.tmps.getD 37 undef = .string Ta := (hdep 37 (of_decide_eq_true (by kernel_rfl))).is 3 rfl
            have hmk := fun (x : Value) (W : World) => SlotG.mk (x := x) (w := W) 4 rfl hGN
            clear hGN ha hdep
            go_simp
            refine (HGa.out _).mono ?_
            rintro e w2 ⟨rfl, rfl⟩
            exact ⟨_, rfl, Below.refl _ _, hmk _ _ rfl⟩
          · intro a' w' hb ha hdep
            have d5 : a'.tmps.getD 5 undef = .string T := ha.at 5 (by kernel_rfl)
            have hmk := fun (x : Value) (W : World) => SlotG.mk (x := x) (w := W) 5 rfl hGN
            clear hGN ha hdep
            go_simp
            exact ⟨_, rfl, Below.refl _ _, hmk _ _ rfl⟩
          · intro a' w' hb ha hdep
            have d39 : a'.tmps.getD 39 undef = .string T := (hdep 39 (of_decide_eq_true (by kernel_rfl))).is 5 rfl
            have hmk := fun (x : Value) (W : World) => SlotG.mk (x := x) (w := W) 6 rfl hGN
            clear hGN ha hdep
            have hs := HSb.out w'
            go_simp
            exact ⟨_, rfl, Below.refl _ _, hmk _ _ rfl⟩
          · intro a' w' hb ha hdep
            have d40 : a'.tmps.getD 40 undef = .string Tb := (hdep 40 (of_decide_eq_true (by kernel_rfl))).is 6 rfl
            have hmk := fun (x : Value) (W : World) => SlotG.mk (x := x) (w := W) 7 rfl hGN
            clear hGN ha hdep
            go_simp
            refine (HGb.out _).mono ?_
            rintro e w2 ⟨rfl, rfl⟩
            exact ⟨_, rfl, Below.refl _ _, hmk _ _ rfl⟩
          · intro a' w' hb ha hdep
            have d41 : a'.tmps.getD 41 undef = .int .i64 V2 := (hdep 41 (of_decide_eq_true (by kernel_rfl))).is 7 rfl
            have hmk := fun (x : Value) (W : World) => SlotG.mk (x := x) (w := W) 8 rfl hGN
            clear hGN ha hdep
            go_simp
            refine (HLn.out _).mono ?_
            rintro e w2 ⟨rfl, rfl⟩
            exact ⟨_, rfl, Below.refl _ _, hmk _ _ rfl⟩
          · intro a' w' hb ha hdep
            have d38 : a'.tmps.getD 38 undef = .int .i64 V1 := (hdep 38 (of_decide_eq_true (by kernel_rfl))).is 4 rfl
            have d42 : a'.tmps.getD 42 undef = .int .i64 LV := (hdep 42 (of_decide_eq_true (by kernel_rfl))).is 8 rfl
            have hmk := fun (x : Value) (W : World) => SlotG.mk (x := x) (w := W) 9 rfl hGN
            clear hGN ha hdep
            rw [Array.getD_eq_getD_getElem?] at d38 d42
            go_simp
            exact ⟨_, rfl, Below.refl _ _, hmk _ _ rfl⟩
          · intro a' w' hb ha hdep
            have d5 : a'.tmps.getD 5 undef = .string T := ha.at 5 (by kernel_rfl)
            have hmk := fun (x : Value) (W : World) => SlotG.mk (x := x) (w := W) 10 rfl hGN
            clear hGN ha hdep
            go_simp
            exact ⟨_, rfl, Below.refl _ _, hmk _ _ rfl⟩
          · intro a' w' hb ha hdep
            have d44 : a'.tmps.getD 44 undef = .string T := (hdep 44 (of_decide_eq_true (by kernel_rfl))).is 10 rfl
            have hmk := fun (x : Value) (W : World) => SlotG.mk (x := x) (w := W) 11 rfl hGN
            clear hGN ha hdep
            have hs := HSc.out w'
            go_simp
            exact ⟨_, rfl, Below.refl _ _, hmk _ _ rfl⟩
          · intro a' w' hb ha hdep
            have d45 : a'.tmps.getD 45 undef = .string Tc := (hdep 45 (of_decide_eq_true (by kernel_rfl))).is 11 rfl
            have hmk := fun (x : Value) (W : World) => SlotG.mk (x := x) (w := W) 12 rfl hGN
            clear hGN ha hdep
            go_simp
            refine (HGc.out _).mono ?_
            rintro e w2 ⟨rfl, rfl⟩
            exact ⟨_, rfl, Below.refl _ _, hmk _ _ rfl⟩
          · intro a' w' hb ha hdep
            have d5 : a'.tmps.getD 5 undef = .string T := ha.at 5 (by kernel_rfl)
            have hmk := fun (x : Value) (W : World) => SlotG.mk (x := x) (w := W) 13 rfl hGN
            clear hGN ha hdep
            go_simp
            exact ⟨_, rfl, Below.refl _ _, hmk _ _ rfl⟩
          · intro a' w' hb ha hdep
            have d47 : a'.tmps.getD 47 undef = .string T := (hdep 47 (of_decide_eq_true (by kernel_rfl))).is 13 rfl
            have hmk := fun (x : Value) (W : World) => SlotG.mk (x := x) (w := W) 14 rfl hGN
            clear hGN ha hdep
            have hs := HSd.out w'
            go_simp
            exact ⟨_, rfl, Below.refl _ _, hmk _ _ rfl⟩
          · intro a' w' hb ha hdep
            have d48 : a'.tmps.getD 48 undef = .string Td := (hdep 48 (of_decide_eq_true (by kernel_rfl))).is 14 rfl
            have hmk := fun (x : Value) (W : World) => SlotG.mk (x := x) (w := W) 15 rfl hGN
            clear hGN ha hdep
            go_simp
            refine (HGd.out _).mono ?_
            rintro e w2 ⟨rfl, rfl⟩
            exact ⟨_, rfl, Below.refl _ _, hmk _ _ rfl⟩
          · intro a' w' hb ha hdep
            have d5 : a'.tmps.getD 5 undef = .string T := ha.at 5 (by kernel_rfl)
            have hmk := fun (x : Value) (W : World) => SlotG.mk (x := x) (w := W) 16 rfl hGN
            clear hGN ha hdep
            go_simp
            exact ⟨_, rfl, Below.refl _ _, hmk _ _ rfl⟩
          · intro a' w' hb ha hdep
            have d50 : a'.tmps.getD 50 undef = .string T := (hdep 50 (of_decide_eq_true (by kernel_rfl))).is 16 rfl
            have hmk := fun (x : Value) (W : World) => SlotG.mk (x := x) (w := W) 17 rfl hGN
            clear hGN ha hdep
            have hs := HSe.out w'
            go_simp
            exact ⟨_, rfl, Below.refl _ _, hmk _ _ rfl⟩
          · intro a' w' hb ha hdep
            have d51 : a'.tmps.getD 51 undef = .string Te := (hdep 51 (of_decide_eq_true (by kernel_rfl))).is 17 rfl
            have hmk := fun (x : Value) (W : World) => SlotG.mk (x := x) (w := W) 18 rfl hGN
            clear hGN ha hdep
            go_simp
            refine (HGe.out _).mono ?_
            rintro e w2 ⟨rfl, rfl⟩
            exact ⟨_, rfl, Below.refl _ _, hmk _ _ rfl⟩
          · intro a' w' hb ha hdep
            have d43 : a'.tmps.getD 43 undef = .agg #[.int .i64 V1, .int .i64 LV] := (hdep 43 (of_decide_eq_true (by kernel_rfl))).is 9 rfl
            have d46 : a'.tmps.getD 46 undef = .int .i64 V3 := (hdep 46 (of_decide_eq_true (by kernel_rfl))).is 12 rfl
            have d49 : a'.tmps.getD 49 undef = .int .i64 V4 := (hdep 49 (of_decide_eq_true (by kernel_rfl))).is 15 rfl
            have d52 : a'.tmps.getD 52 undef = .int .i64 V5 := (hdep 52 (of_decide_eq_true (by kernel_rfl))).is 18 rfl
            have hmk := fun (x : Value) (W : World) => SlotG.mk (x := x) (w := W) 19 rfl hGN
            clear hGN ha hdep
            rw [Array.getD_eq_getD_getElem?] at d43 d46 d49 d52
            go_simp
            exact ⟨_, rfl, Below.refl _ _, hmk _ _ rfl⟩
          · intro a' w' hb ha hdep
            have d53 : a'.tmps.getD 53 undef = .agg #[.int .i64 V1, .int .i64 LV, .int .i64 V3, .int .i64 V4, .int .i64 V5] := (hdep 53 (of_decide_eq_true (by kernel_rfl))).is 19 rfl
            have hmk := fun (x : Value) (W : World) => SlotG.mk (x := x) (w := W) 20 rfl hGN
            clear hGN ha hdep
            rw [Array.getD_eq_getD_getElem?] at d53
            go_simp
            exact ⟨_, rfl, ent_new0 _ _, hmk _ _ ⟨_, rfl, Row.new w' 44 _⟩⟩
        · intro a' w' hb ha hG
          clear hGN
          have d35 : a'.tmps.getD 35 undef = .slice p k cv := (hG _ (List.mem_of_getElem? (i := 1) rfl) 35 rfl).is 1 rfl
          have D54 := (hG _ (List.mem_of_getElem? (i := 20) rfl) 54 rfl).get 20 rfl
          have d0 : a'.tmps.getD 0 undef = .string t := ha.at 0 (by kernel_rfl)
          have d1 : a'.tmps.getD 1 undef = undef := ha.at 1 (by kernel_rfl)
          have d2 : a'.tmps.getD 2 undef = .pointer (some ⟨w.heap.size, 0, none⟩) := ha.at 2 (by kernel_rfl)
          have d3 : a'.tmps.getD 3 undef = .pointer (some ⟨w.heap.size + 1, 0, none⟩) := ha.at 3 (by kernel_rfl)
          have d4 : a'.tmps.getD 4 undef = .int .i64 (4 + 20 * (k : Int)) := ha.at 4 (by kernel_rfl)
          have d6 : a'.tmps.getD 6 undef = .string t := ha.at 6 (by kernel_rfl)
          have d7 : a'.tmps.getD 7 undef = .int .i64 (t.size : Int) := ha.at 7 (by kernel_rfl)
          have d8 : a'.tmps.getD 8 undef = .bool false := ha.at 8 (by kernel_rfl)
          have d9 : a'.tmps.getD 9 undef = undef := ha.at 9 (by kernel_rfl)
          have d10 : a'.tmps.getD 10 undef = .string t := ha.at 10 (by kernel_rfl)
          have d11 : a'.tmps.getD 11 undef = .int .i64 (t.size : Int) := ha.at 11 (by kernel_rfl)
          have d12 : a'.tmps.getD 12 undef = .bool false := ha.at 12 (by kernel_rfl)
          have d13 : a'.tmps.getD 13 undef = undef := ha.at 13 (by kernel_rfl)
          have d14 : a'.tmps.getD 14 undef = .string t := ha.at 14 (by kernel_rfl)
          have d15 : a'.tmps.getD 15 undef = .int .u8 C := ha.at 15 (by kernel_rfl)
          have d16 : a'.tmps.getD 16 undef = .int .i64 C := ha.at 16 (by kernel_rfl)
          have d17 : a'.tmps.getD 17 undef = .agg #[.int .i64 C, .slice none 0 0] := ha.at 17 (by kernel_rfl)
          have d57 : a'.tmps.getD 57 undef = undef := ha.at 57 (by kernel_rfl)
          have d58 : a'.tmps.getD 58 undef = undef := ha.at 58 (by kernel_rfl)
          have d59 : a'.tmps.getD 59 undef = undef := ha.at 59 (by kernel_rfl)
          have d60 : a'.tmps.getD 60 undef = undef := ha.at 60 (by kernel_rfl)
          have d61 : a'.tmps.getD 61 undef = undef := ha.at 61 (by kernel_rfl)
          have d62 : a'.tmps.getD 62 undef = undef := ha.at 62 (by kernel_rfl)
          have d63 : a'.tmps.getD 63 undef = undef := ha.at 63 (by kernel_rfl)
          have e2 : a' = ⟨#[a'.tmps.getD 0 undef, a'.tmps.getD 1 undef, a'.tmps.getD 2 undef, a'.tmps.getD 3 undef, a'.tmps.getD 4 undef, a'.tmps.getD 5 undef, a'.tmps.getD 6 undef, a'.tmps.getD 7 undef, a'.tmps.getD 8 undef, a'.tmps.getD 9 undef, a'.tmps.getD 10 undef, a'.tmps.getD 11 undef, a'.tmps.getD 12 undef, a'.tmps.getD 13 undef, a'.tmps.getD 14 undef, a'.tmps.getD 15 undef, a'.tmps.getD 16 undef, a'.tmps.getD 17 undef, a'.tmps.getD 18 undef, a'.tmps.getD 19 undef, a'.tmps.getD 20 undef, a'.tmps.getD 21 undef, a'.tmps.getD 22 undef, a'.tmps.getD 23 undef, a'.tmps.getD 24 undef, a'.tmps.getD 25 undef, a'.tmps.getD 26 undef, a'.tmps.getD 27 undef, a'.tmps.getD 28 undef, a'.tmps.getD 29 undef, a'.tmps.getD 30 undef, a'.tmps.getD 31 undef, a'.tmps.getD 32 undef, a'.tmps.getD 33 undef, a'.tmps.getD 34 undef, a'.tmps.getD 35 undef, a'.tmps.getD 36 undef, a'.tmps.getD 37 undef, a'.tmps.getD 38 undef, a'.tmps.getD 39 undef, a'.tmps.getD 40 undef, a'.tmps.getD 41 undef, a'.tmps.getD 42 undef, a'.tmps.getD 43 undef, a'.tmps.getD 44 undef, a'.tmps.getD 45 undef, a'.tmps.getD 46 undef, a'.tmps.getD 47 undef, a'.tmps.getD 48 undef, a'.tmps.getD 49 undef, a'.tmps.getD 50 undef, a'.tmps.getD 51 undef, a'.tmps.getD 52 undef, a'.tmps.getD 53 undef, a'.tmps.getD 54 undef, a'.tmps.getD 55 undef, a'.tmps.getD 56 undef, a'.tmps.getD 57 undef, a'.tmps.getD 58 undef, a'.tmps.getD 59 undef, a'.tmps.getD 60 undef, a'.tmps.getD 61 undef, a'.tmps.getD 62 undef, a'.tmps.getD 63 undef], []⟩ := by rw [← (show a'.defers = [] from ha.2.1)]; exact act_eq a' 64 ha.1
          rw [d35, d0, d1, d2, d3, d4, d6, d7, d8, d9, d10, d11, d12, d13, d14, d15, d16, d17, d57, d58, d59, d60, d61, d62, d63] at e2
          clear hG ha d35 d0 d1 d2 d3 d4 d6 d7 d8 d9 d10 d11 d12 d13 d14 d15 d16 d17 d57 d58 d59 d60 d61 d62 d63
          generalize a'.tmps.getD 5 undef = x5 at *
          generalize a'.tmps.getD 18 undef = x18 at *
          generalize a'.tmps.getD 19 undef = x19 at *
          generalize a'.tmps.getD 20 undef = x20 at *
          generalize a'.tmps.getD 21 undef = x21 at *
          generalize a'.tmps.getD 22 undef = x22 at *
          generalize a'.tmps.getD 23 undef = x23 at *
          generalize a'.tmps.getD 24 undef = x24 at *
          generalize a'.tmps.getD 25 undef = x25 at *
          generalize a'.tmps.getD 26 undef = x26 at *
          generalize a'.tmps.getD 27 undef = x27 at *
          generalize a'.tmps.getD 28 undef = x28 at *
          generalize a'.tmps.getD 29 undef = x29 at *
          generalize a'.tmps.getD 30 undef = x30 at *
          generalize a'.tmps.getD 31 undef = x31 at *
          generalize a'.tmps.getD 32 undef = x32 at *
          generalize a'.tmps.getD 33 undef = x33 at *
          generalize a'.tmps.getD 34 undef = x34 at *
          generalize a'.tmps.getD 36 undef = x36 at *
          generalize a'.tmps.getD 37 undef = x37 at *
          generalize a'.tmps.getD 38 undef = x38 at *
          generalize a'.tmps.getD 39 undef = x39 at *
          generalize a'.tmps.getD 40 undef = x40 at *
          generalize a'.tmps.getD 41 undef = x41 at *
          generalize a'.tmps.getD 42 undef = x42 at *
          generalize a'.tmps.getD 43 undef = x43 at *
          generalize a'.tmps.getD 44 undef = x44 at *
          generalize a'.tmps.getD 45 undef = x45 at *
          generalize a'.tmps.getD 46 undef = x46 at *
          generalize a'.tmps.getD 47 undef = x47 at *
          generalize a'.tmps.getD 48 undef = x48 at *
          generalize a'.tmps.getD 49 undef = x49 at *
          generalize a'.tmps.getD 50 undef = x50 at *
          generalize a'.tmps.getD 51 undef = x51 at *
          generalize a'.tmps.getD 52 undef = x52 at *
          generalize a'.tmps.getD 53 undef = x53 at *
          generalize a'.tmps.getD 54 undef = x54 at *
          generalize a'.tmps.getD 55 undef = x55 at *
          generalize a'.tmps.getD 56 undef = x56 at *
          subst e2
          simp only [List.drop_succ_cons, List.drop_zero]
          obtain ⟨gx, rfl, hgx⟩ := D54
          have hs3 := hb.size
          have how3 := HST.out.2.2.1.below hb
          refine wpList_append_ent rfl (.tmp 35) (.tmp 54) rfl (w.heap.size + 2) _ (readEs (t.data.toList.drop 4) k) rfl how3 gx 1 ⟨V1, LV, V3, V4, V5⟩ rfl hgx hkk (by omega) ?_
          intro v4 w4 hown4 hb4
          rw [← HNX.out] at hown4
          obtain ⟨p4, cv4, hv4, -⟩ := hown4.form
          rw [readEs_length] at hv4
          subst hv4
          have hr14 := (HST.out.below hb).2.1.below hb4 (by omega)
          have c0 : w4.cell? ⟨w.heap.size + 1, 0, none⟩ = some (.int .i64 C) := hr14.cell 0
          have c1 : w4.cell? ⟨w.heap.size + 1, 1, none⟩ = some (.slice p k cv) := hr14.cell 1
          have f1 := hr14.frozen 1
          have HX : Hid (SpSt t w (k + 1) p4 cv4 C (w4.setCell ⟨w.heap.size + 1, 1, none⟩ (.slice p4 (k + 1) cv4))) := spSt_next (HST.out.below hb) hb4 hown4
          clear hr14 hown4 hgx how3 hb4 HST HNX hb HR HSL HSa HSb HSc HSd HSe HGa HGb HGc HGd HGe HLn d1 d2
          go_wp2
          go_roundw
          case rel => exact ⟨k + 1, p4, cv4, by omega, by omega, by go_num, HX.out⟩
          case measure => simp [intOf]; omega
      · have d2 : decide (4 + 20 * (k : Int) < 184) = false := by simp; omega
        have hrd := HPl.out k (by unfold nE; rw [show t.data.toList.length = t.size by simp]; omega)
        have how := HST.out.2.2.1
        obtain ⟨p2, cv2, hv2, hEn⟩ := how.form
        rw [readEs_length] at hv2
        obtain ⟨rfl, -, rfl⟩ : p = p2 ∧ k = k ∧ cv = cv2 := by simpa using hv2
        have hBy := specRipBytes_any C p cv (readEs (t.data.toList.drop 4) k) wr hEn (by rw [readEs_length]; omega)
        rw [readEs_length] at hBy
        unfold ripV at hBy
        have HBy : Hid (Calls Tryd.prog 17 #[.agg #[.int .i64 C, .slice p k cv]] wr fun e w' => e = .returned (.string (ripO C (readEs (t.data.toList.drop 4) k))) ∧ Below wr.heap.size wr w') := hBy
        have e0 : wr.cell? ⟨w.heap.size + 1, 0, none⟩ = some (.int .i64 C) := HST.out.2.1.cell 0
        have e1 : wr.cell? ⟨w.heap.size + 1, 1, none⟩ = some (.slice p k cv) := HST.out.2.1.cell 1
        have hsE : OwnE wr (w.heap.size + 2) (.slice p k cv) (readEs (t.data.toList.drop 4) k) := how
        have HSX : Hid (Row wr w.heap.size 26 [.int .i64 0, .slice none 0 0, .int .i64 0, .int .i64 0] ∧ Row wr (w.heap.size + 1) 24 [.int .i64 C, .slice p k cv] ∧ OwnE wr (w.heap.size + 2) (.slice p k cv) (readEs (t.data.toList.drop 4) k) ∧ Below w.heap.size w wr) := HST.out
        clear how hBy hEn hv2 HPl HG HL HST hsE
        generalize readEs (t.data.toList.drop 4) k = es at *
        go_wp2_with fail
        refine (HBy.out).mono ?_
        rintro e w2 ⟨rfl, hb2⟩
        obtain ⟨s1, s2, s3, s4⟩ := HSX.out
        have HS2 : Hid (Row w2 w.heap.size 26 [.int .i64 0, .slice none 0 0, .int .i64 0, .int .i64 0] ∧ Row w2 (w.heap.size + 1) 24 [.int .i64 C, .slice p k cv] ∧ OwnE w2 (w.heap.size + 2) (.slice p k cv) es ∧ Below w.heap.size w w2) := ⟨s1.below hb2 s1.lt, s2.below hb2 s2.lt, s3.below hb2, s4.trans (hb2.mono s4.size)⟩
        clear e0 e1 s1 s2 s3 s4 hb2 HSX HBy
        have c0 : w2.cell? ⟨w.heap.size, 0, none⟩ = some (.int .i64 0) := HS2.out.1.cell 0
        have c1 : w2.cell? ⟨w.heap.size, 1, none⟩ = some (.slice none 0 0) := HS2.out.1.cell 1
        have c2 : w2.cell? ⟨w.heap.size, 2, none⟩ = some (.int .i64 0) := HS2.out.1.cell 2
        have c3 : w2.cell? ⟨w.heap.size, 3, none⟩ = some (.int .i64 0) := HS2.out.1.cell 3
        have f0 := HS2.out.1.frozen 0
        have f1 := HS2.out.1.frozen 1
        have f2 := HS2.out.1.frozen 2
        have f3 := HS2.out.1.frozen 3
        have e0 : w2.cell? ⟨w.heap.size + 1, 0, none⟩ = some (.int .i64 C) := HS2.out.2.1.cell 0
        have e1 : w2.cell? ⟨w.heap.size + 1, 1, none⟩ = some (.slice p k cv) := HS2.out.2.1.cell 1
        by_cases he : ripO C es = t
        · rw [if_pos he] at hrd
          have HRd : Hid (rdR t = (C, es, 0)) := hrd
          clear hrd
          have HEt : Hid (ripO C es = t) := he
          clear he
          rw [HEt.out]
          have hres : Row ((((w2.setCell ⟨w.heap.size, 0, none⟩ (.int .i64 C)).setCell ⟨w.heap.size, 1, none⟩ (.slice p k cv)).setCell ⟨w.heap.size, 2, none⟩ (.int .i64 0)).setCell ⟨w.heap.size, 3, none⟩ (.int .i64 0)) w.heap.size 26 [.int .i64 C, .slice p k cv, .int .i64 0, .int .i64 0] := (((HS2.out.1.set 0 _).set 1 _).set 2 _).set 3 _
          have hbs : Below w.heap.size w ((((w2.setCell ⟨w.heap.size, 0, none⟩ (.int .i64 C)).setCell ⟨w.heap.size, 1, none⟩ (.slice p k cv)).setCell ⟨w.heap.size, 2, none⟩ (.int .i64 0)).setCell ⟨w.heap.size, 3, none⟩ (.int .i64 0)) := (((HS2.out.2.2.2.setCell (p := ⟨w.heap.size, 0, none⟩) (Nat.le_refl _) _).setCell (p := ⟨w.heap.size, 1, none⟩) (Nat.le_refl _) _).setCell (p := ⟨w.heap.size, 2, none⟩) (Nat.le_refl _) _).setCell (p := ⟨w.heap.size, 3, none⟩) (Nat.le_refl _) _
          have hos : OwnE ((((w2.setCell ⟨w.heap.size, 0, none⟩ (.int .i64 C)).setCell ⟨w.heap.size, 1, none⟩ (.slice p k cv)).setCell ⟨w.heap.size, 2, none⟩ (.int .i64 0)).setCell ⟨w.heap.size, 3, none⟩ (.int .i64 0)) w.heap.size (.slice p k cv) es := ((((HS2.out.2.2.1.set ⟨w.heap.size, 0, none⟩ (by show w.heap.size < w.heap.size + 2; omega) _).set ⟨w.heap.size, 1, none⟩ (by show w.heap.size < w.heap.size + 2; omega) _).set ⟨w.heap.size, 2, none⟩ (by show w.heap.size < w.heap.size + 2; omega) _).set ⟨w.heap.size, 3, none⟩ (by show w.heap.size < w.heap.size + 2; omega) _).mono (by omega)
          have HZ : Hid _ := And.intro hres (And.intro hbs hos)
          clear hres hbs hos HS2
          go_wp2_with fail
          have HZ2 := HZ.out
          clear HZ c0 c1 c2 c3 f0 f1 f2 f3 e0 e1
          generalize ((((w2.setCell ⟨w.heap.size, 0, none⟩ (.int .i64 C)).setCell ⟨w.heap.size, 1, none⟩ (.slice p k cv)).setCell ⟨w.heap.size, 2, none⟩ (.int .i64 0)).setCell ⟨w.heap.size, 3, none⟩ (.int .i64 0)) = Z at *
          obtain ⟨z1, z2, z3⟩ := HZ2
          have r0 : Z.cell? ⟨w.heap.size, 0, none⟩ = some (.int .i64 C) := z1.cell 0
          have r1 : Z.cell? ⟨w.heap.size, 1, none⟩ = some (.slice p k cv) := z1.cell 1
          have r2 : Z.cell? ⟨w.heap.size, 2, none⟩ = some (.int .i64 0) := z1.cell 2
          have r3 : Z.cell? ⟨w.heap.size, 3, none⟩ = some (.int .i64 0) := z1.cell 3
          refine bodyPost_ret (v := .agg #[.int .i64 C, .slice p k cv, .int .i64 0, .int .i64 0]) (by simp [results, Tryd.results5, go_sem, r0, r1, r2, r3]) rfl ?_
          rw [HRd.out]
          exact ⟨_, rfl, z3, z2⟩
        · rw [if_neg he] at hrd
          have HRd : Hid (rdR t = (0, [], 3)) := hrd
          clear hrd
          have hne := text_ne he
          clear he
          generalize ripO C es = RO at *
          have hres : Row ((((w2.setCell ⟨w.heap.size, 0, none⟩ (.int .i64 0)).setCell ⟨w.heap.size, 1, none⟩ (.slice none 0 0)).setCell ⟨w.heap.size, 2, none⟩ (.int .i64 0)).setCell ⟨w.heap.size, 3, none⟩ (.int .i64 3)) w.heap.size 26 [.int .i64 0, .slice none 0 0, .int .i64 0, .int .i64 3] := (((HS2.out.1.set 0 _).set 1 _).set 2 _).set 3 _
          have hbs : Below w.heap.size w ((((w2.setCell ⟨w.heap.size, 0, none⟩ (.int .i64 0)).setCell ⟨w.heap.size, 1, none⟩ (.slice none 0 0)).setCell ⟨w.heap.size, 2, none⟩ (.int .i64 0)).setCell ⟨w.heap.size, 3, none⟩ (.int .i64 3)) := (((HS2.out.2.2.2.setCell (p := ⟨w.heap.size, 0, none⟩) (Nat.le_refl _) _).setCell (p := ⟨w.heap.size, 1, none⟩) (Nat.le_refl _) _).setCell (p := ⟨w.heap.size, 2, none⟩) (Nat.le_refl _) _).setCell (p := ⟨w.heap.size, 3, none⟩) (Nat.le_refl _) _
          have hos : OwnE ((((w2.setCell ⟨w.heap.size, 0, none⟩ (.int .i64 0)).setCell ⟨w.heap.size, 1, none⟩ (.slice none 0 0)).setCell ⟨w.heap.size, 2, none⟩ (.int .i64 0)).setCell ⟨w.heap.size, 3, none⟩ (.int .i64 3)) w.heap.size (.slice none 0 0) [] := OwnE.nil _ _
          have HZ : Hid _ := And.intro hres (And.intro hbs hos)
          clear hres hbs hos HS2
          go_wp2_with fail
          have HZ2 := HZ.out
          clear HZ c0 c1 c2 c3 f0 f1 f2 f3 e0 e1
          generalize ((((w2.setCell ⟨w.heap.size, 0, none⟩ (.int .i64 0)).setCell ⟨w.heap.size, 1, none⟩ (.slice none 0 0)).setCell ⟨w.heap.size, 2, none⟩ (.int .i64 0)).setCell ⟨w.heap.size, 3, none⟩ (.int .i64 3)) = Z at *
          obtain ⟨z1, z2, z3⟩ := HZ2
          have r0 : Z.cell? ⟨w.heap.size, 0, none⟩ = some (.int .i64 0) := z1.cell 0
          have r1 : Z.cell? ⟨w.heap.size, 1, none⟩ = some (.slice none 0 0) := z1.cell 1
          have r2 : Z.cell? ⟨w.heap.size, 2, none⟩ = some (.int .i64 0) := z1.cell 2
          have r3 : Z.cell? ⟨w.heap.size, 3, none⟩ = some (.int .i64 3) := z1.cell 3
          refine bodyPost_ret (v := .agg #[.int .i64 0, .slice none 0 0, .int .i64 0, .int .i64 3]) (by simp [results, Tryd.results5, go_sem, r0, r1, r2, r3]) rfl ?_
          rw [HRd.out]
          exact ⟨_, rfl, z3, z2⟩
    · have d1 : decide (4 + 20 * (k : Int) + 20 ≤ (t.size : Int)) = false := by simp; omega
      have hrd := HPl.out k (by unfold nE; rw [show t.data.toList.length = t.size by simp]; omega)
      have how := HST.out.2.2.1
      obtain ⟨p2, cv2, hv2, hEn⟩ := how.form
      rw [readEs_length] at hv2
      obtain ⟨rfl, -, rfl⟩ : p = p2 ∧ k = k ∧ cv = cv2 := by simpa using hv2
      have hBy := specRipBytes_any C p cv (readEs (t.data.toList.drop 4) k) wr hEn (by rw [readEs_length]; omega)
      rw [readEs_length] at hBy
      unfold ripV at hBy
      have HBy : Hid (Calls Tryd.prog 17 #[.agg #[.int .i64 C, .slice p k cv]] wr fun e w' => e = .returned (.string (ripO C (readEs (t.data.toList.drop 4) k))) ∧ Below wr.heap.size wr w') := hBy
      have e0 : wr.cell? ⟨w.heap.size + 1, 0, none⟩ = some (.int .i64 C) := HST.out.2.1.cell 0
      have e1 : wr.cell? ⟨w.heap.size + 1, 1, none⟩ = some (.slice p k cv) := HST.out.2.1.cell 1
      have hsE : OwnE wr (w.heap.size + 2) (.slice p k cv) (readEs (t.data.toList.drop 4) k) := how
      have HSX : Hid (Row wr w.heap.size 26 [.int .i64 0, .slice none 0 0, .int .i64 0, .int .i64 0] ∧ Row wr (w.heap.size + 1) 24 [.int .i64 C, .slice p k cv] ∧ OwnE wr (w.heap.size + 2) (.slice p k cv) (readEs (t.data.toList.drop 4) k) ∧ Below w.heap.size w wr) := HST.out
      clear how hBy hEn hv2 HPl HG HL HST hsE
      generalize readEs (t.data.toList.drop 4) k = es at *
      go_wp2_with fail
      refine (HBy.out).mono ?_
      rintro e w2 ⟨rfl, hb2⟩
      obtain ⟨s1, s2, s3, s4⟩ := HSX.out
      have HS2 : Hid (Row w2 w.heap.size 26 [.int .i64 0, .slice none 0 0, .int .i64 0, .int .i64 0] ∧ Row w2 (w.heap.size + 1) 24 [.int .i64 C, .slice p k cv] ∧ OwnE w2 (w.heap.size + 2) (.slice p k cv) es ∧ Below w.heap.size w w2) := ⟨s1.below hb2 s1.lt, s2.below hb2 s2.lt, s3.below hb2, s4.trans (hb2.mono s4.size)⟩
      clear e0 e1 s1 s2 s3 s4 hb2 HSX HBy
      have c0 : w2.cell? ⟨w.heap.size, 0, none⟩ = some (.int .i64 0) := HS2.out.1.cell 0
      have c1 : w2.cell? ⟨w.heap.size, 1, none⟩ = some (.slice none 0 0) := HS2.out.1.cell 1
      have c2 : w2.cell? ⟨w.heap.size, 2, none⟩ = some (.int .i64 0) := HS2.out.1.cell 2
      have c3 : w2.cell? ⟨w.heap.size, 3, none⟩ = some (.int .i64 0) := HS2.out.1.cell 3
      have f0 := HS2.out.1.frozen 0
      have f1 := HS2.out.1.frozen 1
      have f2 := HS2.out.1.frozen 2
      have f3 := HS2.out.1.frozen 3
      have e0 : w2.cell? ⟨w.heap.size + 1, 0, none⟩ = some (.int .i64 C) := HS2.out.2.1.cell 0
      have e1 : w2.cell? ⟨w.heap.size + 1, 1, none⟩ = some (.slice p k cv) := HS2.out.2.1.cell 1
      by_cases he : ripO C es = t
      · rw [if_pos he] at hrd
        have HRd : Hid (rdR t = (C, es, 0)) := hrd
        clear hrd
        have HEt : Hid (ripO C es = t) := he
        clear he
        rw [HEt.out]
        have hres : Row ((((w2.setCell ⟨w.heap.size, 0, none⟩ (.int .i64 C)).setCell ⟨w.heap.size, 1, none⟩ (.slice p k cv)).setCell ⟨w.heap.size, 2, none⟩ (.int .i64 0)).setCell ⟨w.heap.size, 3, none⟩ (.int .i64 0)) w.heap.size 26 [.int .i64 C, .slice p k cv, .int .i64 0, .int .i64 0] := (((HS2.out.1.set 0 _).set 1 _).set 2 _).set 3 _
        have hbs : Below w.heap.size w ((((w2.setCell ⟨w.heap.size, 0, none⟩ (.int .i64 C)).setCell ⟨w.heap.size, 1, none⟩ (.slice p k cv)).setCell ⟨w.heap.size, 2, none⟩ (.int .i64 0)).setCell ⟨w.heap.size, 3, none⟩ (.int .i64 0)) := (((HS2.out.2.2.2.setCell (p := ⟨w.heap.size, 0, none⟩) (Nat.le_refl _) _).setCell (p := ⟨w.heap.size, 1, none⟩) (Nat.le_refl _) _).setCell (p := ⟨w.heap.size, 2, none⟩) (Nat.le_refl _) _).setCell (p := ⟨w.heap.size, 3, none⟩) (Nat.le_refl _) _
        have hos : OwnE ((((w2.setCell ⟨w.heap.size, 0, none⟩ (.int .i64 C)).setCell ⟨w.heap.size, 1, none⟩ (.slice p k cv)).setCell ⟨w.heap.size, 2, none⟩ (.int .i64 0)).setCell ⟨w.heap.size, 3, none⟩ (.int .i64 0)) w.heap.size (.slice p k cv) es := ((((HS2.out.2.2.1.set ⟨w.heap.size, 0, none⟩ (by show w.heap.size < w.heap.size + 2; omega) _).set ⟨w.heap.size, 1, none⟩ (by show w.heap.size < w.heap.size + 2; omega) _).set ⟨w.heap.size, 2, none⟩ (by show w.heap.size < w.heap.size + 2; omega) _).set ⟨w.heap.size, 3, none⟩ (by show w.heap.size < w.heap.size + 2; omega) _).mono (by omega)
        have HZ : Hid _ := And.intro hres (And.intro hbs hos)
        clear hres hbs hos HS2
        go_wp2_with fail
        have HZ2 := HZ.out
        clear HZ c0 c1 c2 c3 f0 f1 f2 f3 e0 e1
        generalize ((((w2.setCell ⟨w.heap.size, 0, none⟩ (.int .i64 C)).setCell ⟨w.heap.size, 1, none⟩ (.slice p k cv)).setCell ⟨w.heap.size, 2, none⟩ (.int .i64 0)).setCell ⟨w.heap.size, 3, none⟩ (.int .i64 0)) = Z at *
        obtain ⟨z1, z2, z3⟩ := HZ2
        have r0 : Z.cell? ⟨w.heap.size, 0, none⟩ = some (.int .i64 C) := z1.cell 0
        have r1 : Z.cell? ⟨w.heap.size, 1, none⟩ = some (.slice p k cv) := z1.cell 1
        have r2 : Z.cell? ⟨w.heap.size, 2, none⟩ = some (.int .i64 0) := z1.cell 2
        have r3 : Z.cell? ⟨w.heap.size, 3, none⟩ = some (.int .i64 0) := z1.cell 3
        refine bodyPost_ret (v := .agg #[.int .i64 C, .slice p k cv, .int .i64 0, .int .i64 0]) (by simp [results, Tryd.results5, go_sem, r0, r1, r2, r3]) rfl ?_
        rw [HRd.out]
        exact ⟨_, rfl, z3, z2⟩
      · rw [if_neg he] at hrd
        have HRd : Hid (rdR t = (0, [], 3)) := hrd
        clear hrd
        have hne := text_ne he
        clear he
        generalize ripO C es = RO at *
        have hres : Row ((((w2.setCell ⟨w.heap.size, 0, none⟩ (.int .i64 0)).setCell ⟨w.heap.size, 1, none⟩ (.slice none 0 0)).setCell ⟨w.heap.size, 2, none⟩ (.int .i64 0)).setCell ⟨w.heap.size, 3, none⟩ (.int .i64 3)) w.heap.size 26 [.int .i64 0, .slice none 0 0, .int .i64 0, .int .i64 3] := (((HS2.out.1.set 0 _).set 1 _).set 2 _).set 3 _
        have hbs : Below w.heap.size w ((((w2.setCell ⟨w.heap.size, 0, none⟩ (.int .i64 0)).setCell ⟨w.heap.size, 1, none⟩ (.slice none 0 0)).setCell ⟨w.heap.size, 2, none⟩ (.int .i64 0)).setCell ⟨w.heap.size, 3, none⟩ (.int .i64 3)) := (((HS2.out.2.2.2.setCell (p := ⟨w.heap.size, 0, none⟩) (Nat.le_refl _) _).setCell (p := ⟨w.heap.size, 1, none⟩) (Nat.le_refl _) _).setCell (p := ⟨w.heap.size, 2, none⟩) (Nat.le_refl _) _).setCell (p := ⟨w.heap.size, 3, none⟩) (Nat.le_refl _) _
        have hos : OwnE ((((w2.setCell ⟨w.heap.size, 0, none⟩ (.int .i64 0)).setCell ⟨w.heap.size, 1, none⟩ (.slice none 0 0)).setCell ⟨w.heap.size, 2, none⟩ (.int .i64 0)).setCell ⟨w.heap.size, 3, none⟩ (.int .i64 3)) w.heap.size (.slice none 0 0) [] := OwnE.nil _ _
        have HZ : Hid _ := And.intro hres (And.intro hbs hos)
        clear hres hbs hos HS2
        go_wp2_with fail
        have HZ2 := HZ.out
        clear HZ c0 c1 c2 c3 f0 f1 f2 f3 e0 e1
        generalize ((((w2.setCell ⟨w.heap.size, 0, none⟩ (.int .i64 0)).setCell ⟨w.heap.size, 1, none⟩ (.slice none 0 0)).setCell ⟨w.heap.size, 2, none⟩ (.int .i64 0)).setCell ⟨w.heap.size, 3, none⟩ (.int .i64 3)) = Z at *
        obtain ⟨z1, z2, z3⟩ := HZ2
        have r0 : Z.cell? ⟨w.heap.size, 0, none⟩ = some (.int .i64 0) := z1.cell 0
        have r1 : Z.cell? ⟨w.heap.size, 1, none⟩ = some (.slice none 0 0) := z1.cell 1
        have r2 : Z.cell? ⟨w.heap.size, 2, none⟩ = some (.int .i64 0) := z1.cell 2
        have r3 : Z.cell? ⟨w.heap.size, 3, none⟩ = some (.int .i64 3) := z1.cell 3
        refine bodyPost_ret (v := .agg #[.int .i64 0, .slice none 0 0, .int .i64 0, .int .i64 3]) (by simp [results, Tryd.results5, go_sem, r0, r1, r2, r3]) rfl ?_
        rw [HRd.out]
        exact ⟨_, rfl, z3, z2⟩
set_option maxRecDepth 100000 in
theorem specRipRead_any (t : ByteArray) (w : World) (hz : t.size ≤ 1048576) :
    Calls Tryd.prog 5 #[.string t] w fun e w' => RdOut (rdR t) 0 w w' e := by
  by_cases h8 : t.size ≤ 8000
  · by_cases h4 : 4 ≤ t.size
    · exact specRipRead_in t w h4 h8
    · have HR : Hid (rdR t = (0, [], 3)) := by show _ = _; unfold rdR; rw [if_neg (by omega), if_pos (by omega)]
      have d8 : decide (8000 < (t.size : Int)) = false := by simp; omega
      have d4 : decide ((t.size : Int) < 4) = true := by simp; omega
      rw [HR.out]
      go_enter Tryd.func5, Tryd.ntmps5
      go_wp2
      refine bodyPost_ret (v := .agg #[.int .i64 0, .slice none 0 0, .int .i64 0, .int .i64 3]) (by simp [results, Tryd.results5, go_sem]) rfl ?_
      exact ⟨_, rfl, OwnE.nil _ _, ent_new0 _ _⟩
  · have HR : Hid (rdR t = (0, [], 2)) := rdR_long t (by omega)
    have d8 : decide (8000 < (t.size : Int)) = true := by simp; omega
    rw [HR.out]
    go_enter Tryd.func5, Tryd.ntmps5
    go_wp2
    refine bodyPost_ret (v := .agg #[.int .i64 0, .slice none 0 0, .int .i64 0, .int .i64 2]) (by simp [results, Tryd.results5, go_sem]) rfl ?_
    exact ⟨_, rfl, OwnE.nil _ _, ent_new0 _ _⟩
end Go.Proofs.YtehiipddbgoajaaDoor
/- Five cells of a row written. -/
namespace Go.Proofs.YtehiipddbgoajaaDoor
open Go.RowKit Go.Sort

theorem set5 (A R : List Value) (k : Nat) (hA : A.length = k * 5) (z0 z1 z2 z3 z4 x0 x1 x2 x3 x4 : Value) : (((((A ++ ([z0, z1, z2, z3, z4] ++ R)).set (k * 5) x0).set (k * 5 + 1) x1).set (k * 5 + 2) x2).set (k * 5 + 3) x3).set (k * 5 + 4) x4 = A ++ ([x0, x1, x2, x3, x4] ++ R) := by
  have e : ∀ (L : List Value) (j : Nat) (x : Value), (A ++ L).set (k * 5 + j) x = A ++ L.set j x := fun L j x => by
    rw [List.set_append, if_neg (by omega), hA, Nat.add_sub_cancel_left]
  have e0 : ∀ (L : List Value) (x : Value), (A ++ L).set (k * 5) x = A ++ L.set 0 x := fun L x => e L 0 x
  rw [e0, e, e, e, e]
  rfl
theorem Row.some {w : World} {g : Nat} {t : TypeId} {l : List Value} (h : Row w g t l) (k : Nat) (hk : k < l.length) : ∃ v, w.cell? ⟨g, k, none⟩ = some v := ⟨l[k], by rw [h.cell, List.getElem?_eq_getElem hk]⟩
def five5 (w : World) (g o : Nat) (x0 x1 x2 x3 x4 : Value) : World := ((((w.setCell ⟨g, o, none⟩ x0).setCell ⟨g, o + 1, none⟩ x1).setCell ⟨g, o + 2, none⟩ x2).setCell ⟨g, o + 3, none⟩ x3).setCell ⟨g, o + 4, none⟩ x4
theorem five5_below {B : Nat} {w0 w : World} (h : Below B w0 w) (g o : Nat) (hg : B ≤ g) (x0 x1 x2 x3 x4 : Value) : Below B w0 (five5 w g o x0 x1 x2 x3 x4) :=
  ((((h.setCell (p := ⟨g, o, none⟩) hg x0).setCell (p := ⟨g, o + 1, none⟩) hg x1).setCell (p := ⟨g, o + 2, none⟩) hg x2).setCell (p := ⟨g, o + 3, none⟩) hg x3).setCell (p := ⟨g, o + 4, none⟩) hg x4
theorem five5_row {w : World} {g : Nat} {t : TypeId} {l : List Value} (h : Row w g t l) (o : Nat) (x0 x1 x2 x3 x4 : Value) : Row (five5 w g o x0 x1 x2 x3 x4) g t (((((l.set o x0).set (o + 1) x1).set (o + 2) x2).set (o + 3) x3).set (o + 4) x4) :=
  ((((h.set o x0).set (o + 1) x1).set (o + 2) x2).set (o + 3) x3).set (o + 4) x4
theorem five5_other {w : World} {b g : Nat} {t : TypeId} {l : List Value} (h : Row w b t l) (hne : b ≠ g) (o : Nat) (x0 x1 x2 x3 x4 : Value) : Row (five5 w g o x0 x1 x2 x3 x4) b t l :=
  ((((h.other o x0 hne).other (o + 1) x1 hne).other (o + 2) x2 hne).other (o + 3) x3 hne).other (o + 4) x4 hne
end Go.Proofs.YtehiipddbgoajaaDoor
/- The laws' own look: a net is as itself. -/
namespace Go.Proofs.YtehiipddbgoajaaDoor
open Go.RowKit Go.Sort

set_option maxRecDepth 100000 in
theorem eqNet_same (a l : Int) (w : World) : Calls Tryd.prog 67 #[netV a l, netV a l] w fun e w' => e = .returned (.bool true) ∧ Below w.heap.size w w' := by
  have h1 : (a != a) = false := by simp
  have h2 : (l != l) = false := by simp
  unfold netV
  go_enter Tryd.func67, Tryd.ntmps67
  go_wp2
  go_ret
  exact ⟨rfl, ((Below.refl _ _).alloc (Nat.le_refl _) _).alloc (by simp) _⟩
end Go.Proofs.YtehiipddbgoajaaDoor
/- The laws' own look: entries, lists of them and Rips are as themselves. -/
namespace Go.Proofs.YtehiipddbgoajaaDoor
open Go.RowKit Go.Sort

/-- Two boxes of five cells, one behind the other: what they hold behind a later call. -/
theorem boxes5 {w w1 : World} {x0 x1 x2 x3 x4 y0 y1 y2 y3 y4 : Value} {t u : TypeId} (h : Below ((w.alloc (.cells #[x0, x1, x2, x3, x4] t)).alloc (.cells #[y0, y1, y2, y3, y4] u)).heap.size ((w.alloc (.cells #[x0, x1, x2, x3, x4] t)).alloc (.cells #[y0, y1, y2, y3, y4] u)) w1) :
    (∀ k v, [x0, x1, x2, x3, x4][k]? = some v → w1.cell? ⟨w.heap.size, k, none⟩ = some v) ∧ (∀ k v, [y0, y1, y2, y3, y4][k]? = some v → w1.cell? ⟨w.heap.size + 1, k, none⟩ = some v) ∧ Below w.heap.size w w1 := by
  have q0 := (Row.new w t [x0, x1, x2, x3, x4]).alloc (.cells #[y0, y1, y2, y3, y4] u)
  have q1 := Row.new (w.alloc (.cells #[x0, x1, x2, x3, x4] t)) u [y0, y1, y2, y3, y4]
  have p0 := q0.below h q0.lt
  have p1 := q1.below h q1.lt
  have e1 : (w.alloc (.cells #[x0, x1, x2, x3, x4] t)).heap.size = w.heap.size + 1 := by simp
  rw [e1] at p1
  exact ⟨fun k v hv => (p0.cell k).trans hv, fun k v hv => (p1.cell k).trans hv, ((ent_new0 w _).alloc (by simp) _).trans (h.mono (by simp; omega))⟩
set_option maxRecDepth 100000 in
theorem eqEntry_same (e : Ent) (w : World) : Calls Tryd.prog 48 #[entV e, entV e] w fun r w' => r = .returned (.bool true) ∧ Below w.heap.size w w' := by
  obtain ⟨a, l, n, m, t⟩ := e
  unfold entV
  have HN : Hid (∀ w, Calls Tryd.prog 67 #[.agg #[.int .i64 a, .int .i64 l], .agg #[.int .i64 a, .int .i64 l]] w fun e w' => e = .returned (.bool true) ∧ Below w.heap.size w w') := eqNet_same a l
  have h1 : (n != n) = false := by simp
  have h2 : (m != m) = false := by simp
  have h3 : (t != t) = false := by simp
  go_enter Tryd.func48, Tryd.ntmps48
  go_wp2_with fail
  refine (HN.out _).mono ?_
  rintro e w1 ⟨rfl, hb1⟩
  obtain ⟨k0, k1, hB⟩ := boxes5 hb1
  have c2 := k0 2 _ rfl
  have c3 := k0 3 _ rfl
  have c4 := k0 4 _ rfl
  have d2 := k1 2 _ rfl
  have d3 := k1 3 _ rfl
  have d4 := k1 4 _ rfl
  clear k0 k1 hb1 HN
  go_wp2
  go_ret
  exact ⟨rfl, hB⟩
set_option maxRecDepth 100000 in
theorem eqEntryS_any (p q : Option Addr) (c d : Nat) (es : List Ent) (w : World) (hp : EntsIn w p es) (hq : EntsIn w q es) (hn : es.length ≤ 100000000) : Calls Tryd.prog 32 #[.slice p es.length c, .slice q es.length d] w fun r w' => r = .returned (.bool true) ∧ Below w.heap.size w w' := by
  have HE : Hid (∀ e w, Calls Tryd.prog 48 #[entV e, entV e] w fun r w' => r = .returned (.bool true) ∧ Below w.heap.size w w') := eqEntry_same
  have HX : Hid (EntsIn w p es ∧ EntsIn w q es) := ⟨hp, hq⟩
  have h0 : ((es.length : Int) != (es.length : Int)) = false := by simp
  clear hp hq
  go_enter Tryd.func32, Tryd.ntmps32
  go_wp2_with fail
  go_loopw [5] (fun i wr => ∃ k : Nat, k ≤ es.length ∧ i = .int .i64 k ∧ Below w.heap.size w wr) (fun i _ => es.length - (intOf i).toNat)
  case atStart => exact ⟨0, Nat.zero_le _, rfl, Below.refl _ _⟩
  case round =>
    obtain ⟨k, hk, rfl, hb⟩ := hrel
    by_cases hlt : k < es.length
    · obtain ⟨g, a, l, n, m, t, rfl, hg, hek, c0, c1, c2, c3, c4⟩ := (HX.out.1.below hb).at k hlt
      obtain ⟨g', a', l', n', m', t', rfl, hg', hek', d0, d1, d2, d3, d4⟩ := (HX.out.2.below hb).at k hlt
      rw [hek] at hek'
      simp only [Ent.mk.injEq] at hek'
      obtain ⟨rfl, rfl, rfl, rfl, rfl⟩ := hek'
      have HEk : Hid (∀ w, Calls Tryd.prog 48 #[.agg #[.int .i64 a, .int .i64 l, .int .i64 n, .int .i64 m, .int .i64 t], .agg #[.int .i64 a, .int .i64 l, .int .i64 n, .int .i64 m, .int .i64 t]] w fun r w' => r = .returned (.bool true) ∧ Below w.heap.size w w') := HE.out ⟨a, l, n, m, t⟩
      clear HE hek HX
      replace c0 := cell_regrown c0
      replace c1 := cell_regrown c1
      replace c2 := cell_regrown c2
      replace c3 := cell_regrown c3
      replace c4 := cell_regrown c4
      replace d0 := cell_regrown d0
      replace d1 := cell_regrown d1
      replace d2 := cell_regrown d2
      replace d3 := cell_regrown d3
      replace d4 := cell_regrown d4
      go_wp2_with fail
      refine wp_region_quiet_below (by kernel_rfl) (by kernel_rfl) ?_
      repeat (go_big_quiet_step ((go_at_call 48; exact Calls.regrown_of (HEk.out _))))
      refine wpQuiet_nil ?_
      intro w1 hw'
      obtain ⟨⟨dq, osq⟩, hw''⟩ := hw'
      have hbq := below_regrown wr dq osq
      rw [← hw''] at hbq
      clear hw'' osq dq c0 c1 c2 c3 c4 d0 d1 d2 d3 d4 HEk
      have hb2 := hb.trans (hbq.mono hb.size)
      clear hbq
      go_wp2
      go_roundw
      case rel => exact ⟨k + 1, hlt, by go_num, hb2⟩
      case measure => simp [intOf]; omega
    · obtain rfl : k = es.length := by omega
      clear hlt hk
      go_wp2
      go_ret
      exact ⟨rfl, hb⟩
set_option maxRecDepth 100000 in
theorem eqRip_any (x : Int) (p q : Option Addr) (c d : Nat) (es : List Ent) (w : World) (hp : EntsIn w p es) (hq : EntsIn w q es) (hn : es.length ≤ 100000000) : Calls Tryd.prog 14 #[ripV x p es.length c, ripV x q es.length d] w fun r w' => r = .returned (.bool true) ∧ Below w.heap.size w w' := by
  have HE : Hid (∀ w, EntsIn w p es → EntsIn w q es → Calls Tryd.prog 32 #[.slice p es.length c, .slice q es.length d] w fun r w' => r = .returned (.bool true) ∧ Below w.heap.size w w') := fun w h1 h2 => eqEntryS_any p q c d es w h1 h2 hn
  have HX : Hid (EntsIn w p es ∧ EntsIn w q es) := ⟨hp, hq⟩
  have h0 : (x != x) = false := by simp
  unfold ripV
  clear hp hq
  go_enter Tryd.func14, Tryd.ntmps14
  go_wp2_with fail
  refine (HE.out _ ((HX.out.1.alloc _).alloc _) ((HX.out.2.alloc _).alloc _)).mono ?_
  rintro e w1 ⟨rfl, hb1⟩
  have hB : Below w.heap.size w w1 := ((ent_new0 w _).alloc (by simp) _).trans (hb1.mono (by simp; omega))
  clear hb1 HE HX
  go_wp2
  go_ret
  exact ⟨rfl, hB⟩
end Go.Proofs.YtehiipddbgoajaaDoor
/- The laws' own marks in a list of entries: written, and looked for. -/
namespace Go.Proofs.YtehiipddbgoajaaDoor
open Go.RowKit Go.Sort

def markE (i : Nat) : Ent := ⟨1 + 5 * (i : Int), 2 + 5 * (i : Int), 3 + 5 * (i : Int), 4 + 5 * (i : Int), 5 + 5 * (i : Int)⟩
def marksE (n : Nat) : List Ent := (List.range n).map markE
theorem marksE_length (n : Nat) : (marksE n).length = n := by simp [marksE]
theorem OwnE.opened {w : World} {base : Nat} {p : Option Addr} {n cv : Nat} {es : List Ent} (h : OwnE w base (.slice p n cv) es) : n = es.length ∧ (es = [] ∨ ∃ g rest, p = some ⟨g, 0, none⟩ ∧ base ≤ g ∧ n ≤ cv ∧ cv ≤ maxLen ∧ Row w g 44 (rowE es ++ rest) ∧ (rowE es ++ rest).length = cv * 5) := by
  rcases h.2 with ⟨h1, h2⟩ | ⟨g, cap, cur, h1, h2, h3, h4, h5, h6, h7⟩
  · simp only [Value.slice.injEq] at h1
    exact ⟨by omega, .inl (List.length_eq_zero_iff.1 h2)⟩
  · simp only [Value.slice.injEq] at h1
    obtain ⟨rfl, rfl, rfl⟩ := h1
    refine ⟨rfl, .inr ⟨g, cur.toList.drop (es.length * 5), rfl, h2, h4, h5, ?_, ?_⟩⟩
    · unfold Row
      rw [← h7, List.take_append_drop]
      exact h3
    · rw [← h7, List.take_append_drop]; simpa using h6
theorem OwnE.shut {w : World} {base g n cv : Nat} {es : List Ent} {rest : List Value} (hn : n = es.length) (hb : base ≤ g) (h4 : n ≤ cv) (h5 : cv ≤ maxLen) (hr : Row w g 44 (rowE es ++ rest)) (hl : (rowE es ++ rest).length = cv * 5) : OwnE w base (.slice (some ⟨g, 0, none⟩) n cv) es := by
  subst hn
  exact ⟨by rw [rowE_length]; omega, .inr ⟨g, cv, _, rfl, hb, hr, h4, h5, by simpa using hl, by
    have : (rowE es).length = es.length * 5 := by rw [rowE_length]; omega
    simp only
    rw [← this]; simp⟩⟩
theorem marks_set (es : List Ent) (rest : List Value) (k : Nat) (hk : k < es.length) :
    (((((rowE (marksE k ++ es.drop k) ++ rest).set (k * 5) (.int .i64 (1 + 5 * (k : Int)))).set (k * 5 + 1) (.int .i64 (2 + 5 * (k : Int)))).set (k * 5 + 2) (.int .i64 (3 + 5 * (k : Int)))).set (k * 5 + 3) (.int .i64 (4 + 5 * (k : Int)))).set (k * 5 + 4) (.int .i64 (5 + 5 * (k : Int))) = rowE (marksE (k + 1) ++ es.drop (k + 1)) ++ rest := by
  have e1 : marksE (k + 1) = marksE k ++ [markE k] := by simp [marksE, List.range_succ]
  rw [List.drop_eq_getElem_cons hk, e1, rowE_append, rowE_cons, List.append_assoc (marksE k), rowE_append, List.singleton_append, rowE_cons, List.append_assoc, List.append_assoc, List.append_assoc, List.append_assoc]
  exact set5 _ _ k (by rw [rowE_length, marksE_length]; omega) _ _ _ _ _ _ _ _ _ _
theorem entsIn_rest {w : World} {g : Nat} {t : TypeId} {es : List Ent} {rest : List Value} (h : Row w g t (rowE es ++ rest)) : EntsIn w (some ⟨g, 0, none⟩) es := .inr ⟨g, rfl, h.lt, fun j u hj => by rw [h.cell, List.getElem?_append_left (List.getElem?_eq_some_iff.1 hj).1]; exact hj⟩
set_option maxRecDepth 100000 in
set_option maxHeartbeats 1000000 in
theorem markEntryS_in (g n cv : Nat) (es : List Ent) (rest : List Value) (w : World) (hn : n = es.length) (h8 : n ≤ 1000) (hr : Row w g 44 (rowE es ++ rest)) :
    Calls Tryd.prog 37 #[.slice (some ⟨g, 0, none⟩) n cv, .int .i64 1] w fun e w' => e = .returned (.int .i64 (1 + 5 * (n : Int))) ∧ Row w' g 44 (rowE (marksE n) ++ rest) ∧ Below g w w' ∧ ∀ b t l, b ≠ g → Row w b t l → Row w' b t l := by
  have HN : Hid (n = es.length) := hn
  have hr0 : Row w g 44 (rowE (marksE 0 ++ es.drop 0) ++ rest) := hr
  clear hn hr
  go_enter Tryd.func37, Tryd.ntmps37
  go_wp2_with fail
  go_loopw [5, 1] (fun i m wr => ∃ k : Nat, k ≤ n ∧ i = .int .i64 k ∧ m = .int .i64 (1 + 5 * (k : Int)) ∧ Row wr g 44 (rowE (marksE k ++ es.drop k) ++ rest) ∧ Below g w wr ∧ ∀ b t l, b ≠ g → Row w b t l → Row wr b t l) (fun i _ _ => n - (intOf i).toNat)
  case atStart => exact ⟨0, Nat.zero_le _, rfl, rfl, hr0, Below.refl _ _, fun _ _ _ _ h => h⟩
  case round =>
    obtain ⟨k, hk, rfl, rfl, hr, hb, hoth⟩ := hrel
    have HOT : Hid (∀ b t l, b ≠ g → Row w b t l → Row wr b t l) := hoth
    clear hr0 hoth
    by_cases hlt : k < n
    · have hlen : (marksE k ++ es.drop k).length = n := by rw [List.length_append, marksE_length, List.length_drop, ← HN.out]; omega
      have hlr : k * 5 + 4 < (rowE (marksE k ++ es.drop k) ++ rest).length := by rw [List.length_append, rowE_length, hlen]; omega
      obtain ⟨z0, c0⟩ := Row.some hr (k * 5) (by omega)
      obtain ⟨z1, c1⟩ := Row.some hr (k * 5 + 1) (by omega)
      obtain ⟨z2, c2⟩ := Row.some hr (k * 5 + 2) (by omega)
      obtain ⟨z3, c3⟩ := Row.some hr (k * 5 + 3) (by omega)
      obtain ⟨z4, c4⟩ := Row.some hr (k * 5 + 4) (by omega)
      have f0 := hr.frozen (k * 5)
      have f1 := hr.frozen (k * 5 + 1)
      have f2 := hr.frozen (k * 5 + 2)
      have f3 := hr.frozen (k * 5 + 3)
      have f4 := hr.frozen (k * 5 + 4)
      have hr2 := five5_row hr (k * 5) (.int .i64 (1 + 5 * (k : Int))) (.int .i64 (2 + 5 * (k : Int))) (.int .i64 (3 + 5 * (k : Int))) (.int .i64 (4 + 5 * (k : Int))) (.int .i64 (5 + 5 * (k : Int)))
      rw [marks_set es rest k (by rw [← HN.out]; exact hlt)] at hr2
      have hB2 := five5_below hb g (k * 5) (Nat.le_refl _) (.int .i64 (1 + 5 * (k : Int))) (.int .i64 (2 + 5 * (k : Int))) (.int .i64 (3 + 5 * (k : Int))) (.int .i64 (4 + 5 * (k : Int))) (.int .i64 (5 + 5 * (k : Int)))
      have hO2 := fun b t l (hne : b ≠ g) (h : Row w b t l) => five5_other (HOT.out b t l hne h) hne (k * 5) (.int .i64 (1 + 5 * (k : Int))) (.int .i64 (2 + 5 * (k : Int))) (.int .i64 (3 + 5 * (k : Int))) (.int .i64 (4 + 5 * (k : Int))) (.int .i64 (5 + 5 * (k : Int)))
      unfold five5 at hr2 hB2 hO2
      have HH : Hid _ := And.intro hr2 (And.intro hB2 hO2)
      clear hr hb hr2 hB2 hlen hlr hO2 HOT
      go_wp2_with fail
      rw [show 1 + 5 * (k : Int) + 1 + 1 + 1 + 1 + 1 = 1 + 5 * ((k + 1 : Nat) : Int) by omega, show 1 + 5 * (k : Int) + 1 + 1 + 1 + 1 = 5 + 5 * (k : Int) by omega, show 1 + 5 * (k : Int) + 1 + 1 + 1 = 4 + 5 * (k : Int) by omega, show 1 + 5 * (k : Int) + 1 + 1 = 3 + 5 * (k : Int) by omega, show 1 + 5 * (k : Int) + 1 = 2 + 5 * (k : Int) by omega]
      refine ⟨⟨k + 1, hlt, by go_num, rfl, HH.out.1, HH.out.2.1, HH.out.2.2⟩, ?_⟩
      simp [intOf]
      omega
    · obtain rfl : k = n := by omega
      have hre : marksE k ++ es.drop k = marksE k := by rw [HN.out, List.drop_length, List.append_nil]
      rw [hre] at hr
      clear hlt hk hre
      go_wp2
      go_ret
      exact ⟨rfl, hr, hb, HOT.out⟩
set_option maxRecDepth 100000 in
set_option maxHeartbeats 1000000 in
theorem heldEntryS_in (p : Option Addr) (n cv : Nat) (w : World) (h8 : n ≤ 1000) (hE : EntsIn w p (marksE n)) :
    Calls Tryd.prog 38 #[.slice p n cv, .int .i64 1] w fun e w' => e = .returned (.int .i64 (1 + 5 * (n : Int))) ∧ w = w' := by
  have HX : Hid (EntsIn w p (marksE n)) := hE
  clear hE
  go_enter Tryd.func38, Tryd.ntmps38
  go_wp2_with fail
  go_loop [5, 1] (fun i m => ∃ k : Nat, k ≤ n ∧ i = .int .i64 k ∧ m = .int .i64 (1 + 5 * (k : Int))) (fun i _ => n - (intOf i).toNat)
  case atStart => exact ⟨0, Nat.zero_le _, rfl, rfl⟩
  case round =>
    obtain ⟨k, hk, rfl, rfl⟩ := hrel
    by_cases hlt : k < n
    · obtain ⟨g, a, l, m, mt, tg, rfl, hg, hek, c0, c1, c2, c3, c4⟩ := HX.out.at k (by rw [marksE_length]; exact hlt)
      have hmk : (marksE n)[k]'(by rw [marksE_length]; exact hlt) = markE k := by simp [marksE]
      rw [hmk] at hek
      simp only [markE, Ent.mk.injEq] at hek
      obtain ⟨rfl, rfl, rfl, rfl, rfl⟩ := hek
      rw [show 2 + 5 * (k : Int) = 1 + 5 * (k : Int) + 1 by omega] at c1
      rw [show 3 + 5 * (k : Int) = 1 + 5 * (k : Int) + 1 + 1 by omega] at c2
      rw [show 4 + 5 * (k : Int) = 1 + 5 * (k : Int) + 1 + 1 + 1 by omega] at c3
      rw [show 5 + 5 * (k : Int) = 1 + 5 * (k : Int) + 1 + 1 + 1 + 1 by omega] at c4
      clear hmk
      go_wp2_with fail
      refine ⟨⟨k + 1, hlt, by go_num, by go_num⟩, ?_⟩
      simp [intOf]
      omega
    · obtain rfl : k = n := by omega
      clear hlt hk
      go_wp2
      go_ret
      exact ⟨rfl, rfl⟩
end Go.Proofs.YtehiipddbgoajaaDoor
/- The laws' own looks at what is handed back: alike, marked, held. -/
namespace Go.Proofs.YtehiipddbgoajaaDoor
open Go.RowKit Go.Sort

set_option maxRecDepth 100000 in
theorem markEntryS_0 (p : Option Addr) (cv : Nat) (w : World) : Calls Tryd.prog 37 #[.slice p 0 cv, .int .i64 1] w fun e w' => e = .returned (.int .i64 1) ∧ w = w' := by
  go_enter Tryd.func37, Tryd.ntmps37
  go_wp2_with fail
  go_loop [5, 1] (fun i k => i = .int .i64 0 ∧ k = .int .i64 1) (fun _ _ => 0)
  case atStart => exact ⟨rfl, rfl⟩
  case round =>
    obtain ⟨rfl, rfl⟩ := hrel
    go_wp2
    go_ret
    exact ⟨rfl, rfl⟩
theorem markEntryS_any (p : Option Addr) (n cv base : Nat) (es : List Ent) (w : World) (h8 : n ≤ 1000) (h : OwnE w base (.slice p n cv) es) :
    Calls Tryd.prog 37 #[.slice p n cv, .int .i64 1] w fun e w' => e = .returned (.int .i64 (1 + 5 * (n : Int))) ∧ OwnE w' base (.slice p n cv) (marksE n) ∧ Below base w w' ∧ ∀ b t l, p ≠ some ⟨b, 0, none⟩ → Row w b t l → Row w' b t l := by
  obtain ⟨hn, h0 | ⟨g, rest, rfl, hb, h1, h2, hr, hl⟩⟩ := h.opened
  · subst h0
    obtain rfl : n = 0 := hn
    exact (markEntryS_0 p cv w).mono fun e w' ⟨he, hw⟩ => ⟨he, hw ▸ h, hw ▸ Below.refl _ _, fun _ _ _ _ h => hw ▸ h⟩
  · refine (markEntryS_in g n cv es rest w hn h8 hr).mono fun e w' ⟨he, hr', hb', ho'⟩ => ⟨he, OwnE.shut (marksE_length n).symm hb h1 h2 hr' ?_, hb'.mono hb, fun b t l hp h => ho' b t l (fun e => hp (by rw [e])) h⟩
    rw [List.length_append, rowE_length, marksE_length, hn]
    rw [List.length_append, rowE_length] at hl
    exact hl
set_option maxRecDepth 100000 in
theorem markRip_any (c : Int) (p : Option Addr) (n cv base : Nat) (es : List Ent) (w : World) (h8 : n ≤ 1000) (h : OwnE w base (.slice p n cv) es) (hbs : base ≤ w.heap.size) :
    Calls Tryd.prog 20 #[.agg #[.int .i64 c, .slice p n cv], .int .i64 1] w fun e w' => e = .returned (.int .i64 (1 + 5 * (n : Int))) ∧ OwnE w' base (.slice p n cv) (marksE n) ∧ Below base w w' ∧ ∀ b t l, p ≠ some ⟨b, 0, none⟩ → Row w b t l → Row w' b t l := by
  have HM : Hid (Calls Tryd.prog 37 #[.slice p n cv, .int .i64 1] (w.alloc (.cells #[.int .i64 c, .slice p n cv] 24)) fun e w' => e = .returned (.int .i64 (1 + 5 * (n : Int))) ∧ OwnE w' base (.slice p n cv) (marksE n) ∧ Below base (w.alloc (.cells #[.int .i64 c, .slice p n cv] 24)) w' ∧ ∀ b t l, p ≠ some ⟨b, 0, none⟩ → Row (w.alloc (.cells #[.int .i64 c, .slice p n cv] 24)) b t l → Row w' b t l) := markEntryS_any p n cv base es _ h8 (h.alloc _)
  clear h
  go_enter Tryd.func20, Tryd.ntmps20
  go_wp2_with fail
  refine (HM.out).mono ?_
  rintro e w1 ⟨rfl, ho, hb, hot⟩
  have hB : Below base w w1 := ((Below.refl base w).alloc hbs _).trans hb
  have HOT : Hid (∀ b t l, p ≠ some ⟨b, 0, none⟩ → Row w b t l → Row w1 b t l) := fun b t l hp h => hot b t l hp (h.alloc _)
  clear hb hot
  go_wp2
  go_ret
  exact ⟨rfl, ho, hB, HOT.out⟩
set_option maxRecDepth 100000 in
theorem markRipOut_any (c q code : Int) (p : Option Addr) (n cv base : Nat) (es : List Ent) (w : World) (h8 : n ≤ 1000) (h : OwnE w base (.slice p n cv) es) (hbs : base ≤ w.heap.size) :
    Calls Tryd.prog 8 #[.agg #[.int .i64 c, .slice p n cv, .int .i64 q, .int .i64 code], .int .i64 1] w fun e w' => e = .returned (.int .i64 (1 + 5 * (n : Int))) ∧ OwnE w' base (.slice p n cv) (marksE n) ∧ Below base w w' ∧ ∀ b t l, p ≠ some ⟨b, 0, none⟩ → Row w b t l → Row w' b t l := by
  have HM : Hid (Calls Tryd.prog 20 #[.agg #[.int .i64 c, .slice p n cv], .int .i64 1] (w.alloc (.cells #[.int .i64 c, .slice p n cv, .int .i64 q, .int .i64 code] 26)) fun e w' => e = .returned (.int .i64 (1 + 5 * (n : Int))) ∧ OwnE w' base (.slice p n cv) (marksE n) ∧ Below base (w.alloc (.cells #[.int .i64 c, .slice p n cv, .int .i64 q, .int .i64 code] 26)) w' ∧ ∀ b t l, p ≠ some ⟨b, 0, none⟩ → Row (w.alloc (.cells #[.int .i64 c, .slice p n cv, .int .i64 q, .int .i64 code] 26)) b t l → Row w' b t l) := markRip_any c p n cv base es _ h8 (h.alloc _) (by simp; omega)
  clear h
  go_enter Tryd.func8, Tryd.ntmps8
  go_wp2_with fail
  refine (HM.out).mono ?_
  rintro e w1 ⟨rfl, ho, hb, hot⟩
  have hB : Below base w w1 := ((Below.refl base w).alloc hbs _).trans hb
  have HOT : Hid (∀ b t l, p ≠ some ⟨b, 0, none⟩ → Row w b t l → Row w1 b t l) := fun b t l hp h => hot b t l hp (h.alloc _)
  clear hb hot
  go_wp2
  go_ret
  exact ⟨rfl, ho, hB, HOT.out⟩
set_option maxRecDepth 100000 in
theorem heldRip_any (c : Int) (p : Option Addr) (n cv : Nat) (w : World) (h8 : n ≤ 1000) (h : EntsIn w p (marksE n)) :
    Calls Tryd.prog 21 #[.agg #[.int .i64 c, .slice p n cv], .int .i64 1] w fun e w' => e = .returned (.int .i64 (1 + 5 * (n : Int))) ∧ Below w.heap.size w w' := by
  have HM : Hid (Calls Tryd.prog 38 #[.slice p n cv, .int .i64 1] (w.alloc (.cells #[.int .i64 c, .slice p n cv] 24)) fun e w' => e = .returned (.int .i64 (1 + 5 * (n : Int))) ∧ (w.alloc (.cells #[.int .i64 c, .slice p n cv] 24)) = w') := heldEntryS_in p n cv _ h8 (h.alloc _)
  have d : decide (1 + 5 * (n : Int) < 0) = false := by simp; omega
  clear h
  go_enter Tryd.func21, Tryd.ntmps21
  go_wp2_with fail
  refine (HM.out).mono ?_
  rintro e w1 ⟨rfl, rfl⟩
  go_wp2
  go_ret
  exact ⟨rfl, ent_new0 _ _⟩
set_option maxRecDepth 100000 in
theorem heldRipOut_any (c q code : Int) (p : Option Addr) (n cv : Nat) (w : World) (h8 : n ≤ 1000) (h : EntsIn w p (marksE n)) :
    Calls Tryd.prog 9 #[.agg #[.int .i64 c, .slice p n cv, .int .i64 q, .int .i64 code], .int .i64 1] w fun e w' => e = .returned (.int .i64 (1 + 5 * (n : Int))) ∧ Below w.heap.size w w' := by
  have HM : Hid (Calls Tryd.prog 21 #[.agg #[.int .i64 c, .slice p n cv], .int .i64 1] (w.alloc (.cells #[.int .i64 c, .slice p n cv, .int .i64 q, .int .i64 code] 26)) fun e w' => e = .returned (.int .i64 (1 + 5 * (n : Int))) ∧ Below (w.alloc (.cells #[.int .i64 c, .slice p n cv, .int .i64 q, .int .i64 code] 26)).heap.size (w.alloc (.cells #[.int .i64 c, .slice p n cv, .int .i64 q, .int .i64 code] 26)) w') := heldRip_any c p n cv _ h8 (h.alloc _)
  have d : decide (1 + 5 * (n : Int) < 0) = false := by simp; omega
  clear h
  go_enter Tryd.func9, Tryd.ntmps9
  go_wp2_with fail
  refine (HM.out).mono ?_
  rintro e w1 ⟨rfl, hb⟩
  have hB : Below w.heap.size w w1 := (ent_new0 w _).trans (hb.mono (by simp))
  clear hb
  go_wp2
  go_ret
  exact ⟨rfl, hB⟩
set_option maxRecDepth 100000 in
theorem eqRipOut_any (c q code : Int) (p p' : Option Addr) (n cv cv' : Nat) (es : List Ent) (w : World) (hn : n = es.length) (h8 : n ≤ 1000) (h : EntsIn w p es) (h' : EntsIn w p' es) :
    Calls Tryd.prog 7 #[.agg #[.int .i64 c, .slice p n cv, .int .i64 q, .int .i64 code], .agg #[.int .i64 c, .slice p' n cv', .int .i64 q, .int .i64 code]] w fun e w' => e = .returned (.bool true) ∧ Below w.heap.size w w' := by
  have HE : Hid (∀ w, EntsIn w p es → EntsIn w p' es → Calls Tryd.prog 14 #[.agg #[.int .i64 c, .slice p n cv], .agg #[.int .i64 c, .slice p' n cv']] w fun r w' => r = .returned (.bool true) ∧ Below w.heap.size w w') := fun w h1 h2 => by subst hn; exact eqRip_any c p p' cv cv' es w h1 h2 (by omega)
  have HX : Hid (EntsIn w p es ∧ EntsIn w p' es) := ⟨h, h'⟩
  have h1 : (q != q) = false := by simp
  have h2 : (code != code) = false := by simp
  clear h h' hn
  go_enter Tryd.func7, Tryd.ntmps7
  go_wp2_with fail
  refine (HE.out _ ((HX.out.1.alloc _).alloc _) ((HX.out.2.alloc _).alloc _)).mono ?_
  rintro e w1 ⟨rfl, hb1⟩
  have q0 := ((Row.new w 26 [.int .i64 c, .slice p n cv, .int .i64 q, .int .i64 code]).alloc (.cells #[.int .i64 c, .slice p' n cv', .int .i64 q, .int .i64 code] 26))
  have q1 := Row.new (w.alloc (.cells #[.int .i64 c, .slice p n cv, .int .i64 q, .int .i64 code] 26)) 26 [.int .i64 c, .slice p' n cv', .int .i64 q, .int .i64 code]
  have p0 := q0.below hb1 q0.lt
  have p1 := q1.below hb1 q1.lt
  rw [show (w.alloc (.cells #[.int .i64 c, .slice p n cv, .int .i64 q, .int .i64 code] 26)).heap.size = w.heap.size + 1 by simp] at p1
  have hB : Below w.heap.size w w1 := ((ent_new0 w _).alloc (by simp) _).trans (hb1.mono (by simp; omega))
  have c2 : w1.cell? ⟨w.heap.size, 2, none⟩ = some (.int .i64 q) := p0.cell 2
  have c3 : w1.cell? ⟨w.heap.size, 3, none⟩ = some (.int .i64 code) := p0.cell 3
  have d2 : w1.cell? ⟨w.heap.size + 1, 2, none⟩ = some (.int .i64 q) := p1.cell 2
  have d3 : w1.cell? ⟨w.heap.size + 1, 3, none⟩ = some (.int .i64 code) := p1.cell 3
  clear hb1 HE HX q0 q1 p0 p1
  go_wp2
  go_ret
  exact ⟨rfl, hB⟩
end Go.Proofs.YtehiipddbgoajaaDoor
/- What a row's list of the six errors gives a walk: ErrsIn. -/
namespace Go.Proofs.YtehiipddbgoajaaDoor
open Go.RowKit Go.ChangeShapes

theorem errStar : "*" ++ "errors.errorString" = "*errors.errorString" := by decide
set_option maxRecDepth 100000 in
theorem errRow (u : TypeId) (h : Tryd.prog.typeName? 3 u = some "*errors.errorString") : u = 120 :=
  typeName_ptr_named (nm := "errors.errorString") (by rw [errStar]; kernel_rfl) (by kernel_rfl) (by decide) u (by rw [errStar]; exact h)
theorem errCells : Tryd.prog.cellsOf 145 = 1 := by kernel_rfl
theorem strCells : Tryd.prog.cellsOf 9 = 1 := by kernel_rfl

/-- A variable holds an error of errors.New's make, of that text. -/
def HoldsErr (W : World) (g : Nat) (text : List UInt8) : Prop :=
  ∃ a s, W.cell? ⟨g, 0, none⟩ = some (errV a) ∧ W.cell? a = some (.string s) ∧ s.data.toList = text ∧ ∃ c t, W.heap[a.block]? = some (.cells c t (0, 0))
set_option maxRecDepth 100000 in
theorem laid_one {n : String} {g : Nat} {text : List UInt8} {r : List (String × DataW Unit)} {W : World}
    (h : laidMet Tryd.prog ((n, .iface "*errors.errorString" (.ptr (.agg [.lit (.string text)]))) :: r) W)
    (hg : Tryd.prog.globalNamed n = some g) (ht : (Tryd.prog.globals[g]?).map (·.type) = some 47) : HoldsErr W g text := by
  obtain ⟨ps, ⟨g0, t0, cs0, f0, p0, q0, hg0, ht0, hv0, hd0, _, e0⟩, _, hrows⟩ := h
  obtain rfl := Option.some.inj (hg.symm.trans hg0)
  obtain rfl := Option.some.inj (ht.symm.trans ht0)
  subst e0
  obtain ⟨l0⟩ := cs0
  have ok0 : ∀ u v, l0 = [.iface u v] → Value.okWide Tryd.prog W .any 0 u v := fun u v e => by
    subst e
    exact (hrows g 0 (by simp [MemPlace.row])).2 u v (by simpa using World.var?_cell hg0 hv0 0)
  obtain ⟨a0, s0, rfl, hc0, hs0, hz0, rfl⟩ := errorString_of_trod Tryd.underlying47 errRow Tryd.underlying120 Tryd.underlying145 rfl rfl Tryd.underlying9 errCells strCells hd0 ok0
  refine ⟨a0, s0, by simpa [errV] using World.var?_cell hg0 hv0 0, hc0, hs0, (hrows a0.block a0.off (by simp [MemPlace.row])).1⟩
theorem laid_tail {P : Program} {x : String × DataW Unit} {r : List (String × DataW Unit)} {w : World} (h : laidMet P (x :: r) w) : laidMet P r w := by
  obtain ⟨ps, hv, hnd, hrows⟩ := h
  obtain ⟨n, d⟩ := x
  obtain ⟨g, t, cs, fuel, p, q, _, _, _, _, hq, rfl⟩ := hv
  exact ⟨q, hq, List.Nodup.sublist (List.sublist_append_right _ _) hnd, fun b off hm => hrows b off (List.mem_append_right _ hm)⟩

theorem errsIn_of {W : World} (T : Nat → List UInt8) (hT : ∀ i, i < 6 → ∀ j, j < 6 → i ≠ j → T i ≠ T j) (h : ∀ i, i < 6 → HoldsErr W (errG i) (T i)) : ∃ A, ErrsIn W A := by
  refine ⟨fun i => if hi : i < 6 then (h i hi).choose else ⟨0, 0, none⟩, ?_, ?_, ?_⟩
  · intro i hi
    simp only [hi, dite_true]
    obtain ⟨s, h1, h2, h3, h4⟩ := (h i hi).choose_spec
    exact h1
  · intro i hi
    simp only [hi, dite_true]
    obtain ⟨s, h1, h2, h3, h4⟩ := (h i hi).choose_spec
    exact h4
  · intro i j hi hj hij
    simp only [hi, hj, dite_true]
    obtain ⟨s, h1, h2, h3, h4⟩ := (h i hi).choose_spec
    obtain ⟨s', h1', h2', h3', h4'⟩ := (h j hj).choose_spec
    intro e
    rw [e, h2'] at h2
    have e2 : s' = s := by simpa using h2
    exact hT i hi j hj hij (by rw [← h3, ← h3', e2])
theorem trodVars_head {H : Type} {enc : TypeId × Value → H} {P : Program} {w : World} {sp : Nat → Bool} {n : String} {ns : List String} {gs : List (DataW H)} {ps : List MemPlace} (h : DataW.TrodVars enc P w sp (n :: ns) gs ps) :
    ∃ d ds q, gs = d :: ds ∧ DataW.TrodVars enc P w sp ns ds q := by
  cases gs with
  | nil => simp [DataW.TrodVars] at h
  | cons d ds =>
    obtain ⟨g, t, cs, fuel, p, q, h1, h2, h3, h4, hs, e⟩ := h
    exact ⟨d, ds, q, rfl, hs⟩
theorem trodVars_end {H : Type} {enc : TypeId × Value → H} {P : Program} {w : World} {sp : Nat → Bool} {gs : List (DataW H)} {ps : List MemPlace} (h : DataW.TrodVars enc P w sp [] gs ps) : gs = [] := by
  cases gs with
  | nil => rfl
  | cons d ds => simp [DataW.TrodVars] at h
end Go.Proofs.YtehiipddbgoajaaDoor
