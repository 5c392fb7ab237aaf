/- Texts that stand on each other, in one file: HeadI, BodyI, DgI, FrameI. -/
import Derived.Test.YtialedffpaoacaaGreatDoorPack7
import Derived.Test.YtialedffpaoacaaGreatDoorPack9
import Derived.Test.YtialedffpaoacaaGreatDoorPack8
import Derived.Deep.RegionHeld3
/- A datagram's head, of the program. -/
namespace Go.Proofs.YtialedffpaoacaaGreatDoor
open Go.RowKit

theorem or_mark (ttl : Int) (h0 : 0 ≤ ttl) (h1 : ttl ≤ 255) : bits .or .i64 (ttl * 256) 17 = ttl * 256 + 17 := by
  have h := or_low ttl.toNat 17 (by omega) (by omega)
  rw [show ((ttl.toNat : Nat) : Int) = ttl by omega] at h
  rw [show ((17 : Nat) : Int) = 17 from rfl] at h
  rw [h]; omega
theorem i64_in (x : Int) (h0 : 0 ≤ x) (h1 : x ≤ 4294967295) : (-9223372036854775808 : Int) ≤ x ∧ x ≤ 9223372036854775807 := by omega
theorem head_all (s d ttl sum : Int) (t : ByteArray) (hs0 : 0 ≤ s ∧ s ≤ 4294967295) (hd0 : 0 ≤ d ∧ d ≤ 4294967295) (ht0 : 0 ≤ ttl ∧ ttl ≤ 255) (hn : t.size ≤ 300) (hm0 : 0 ≤ sum ∧ sum ≤ 65535) :
    ∀ n ∈ ([17664, 28 + (t.size : Int), 0, 0, ttl * 256 + 17, sum, s / 65536, s, d / 65536, d] : List Int), (-9223372036854775808 : Int) ≤ n ∧ n ≤ 9223372036854775807 :=
  List.forall_mem_cons.2 ⟨i64_in _ (by omega) (by omega), List.forall_mem_cons.2 ⟨i64_in _ (by omega) (by omega), List.forall_mem_cons.2 ⟨i64_in _ (by omega) (by omega), List.forall_mem_cons.2 ⟨i64_in _ (by omega) (by omega), List.forall_mem_cons.2 ⟨i64_in _ (by omega) (by omega), List.forall_mem_cons.2 ⟨i64_in _ (by omega) (by omega), List.forall_mem_cons.2 ⟨i64_in _ (by omega) (by omega), List.forall_mem_cons.2 ⟨i64_in _ (by omega) (by omega), List.forall_mem_cons.2 ⟨i64_in _ (by omega) (by omega), List.forall_mem_cons.2 ⟨i64_in _ (by omega) (by omega), by simp⟩⟩⟩⟩⟩⟩⟩⟩⟩⟩
set_option maxRecDepth 100000 in
set_option maxHeartbeats 1000000 in
theorem implHead_any (s d sp dp ttl : Int) (t : ByteArray) (sum : Int) (w : World) (hs0 : 0 ≤ s ∧ s ≤ 4294967295) (hd0 : 0 ≤ d ∧ d ≤ 4294967295) (ht0 : 0 ≤ ttl ∧ ttl ≤ 255) (hn : t.size ≤ 300) (hm0 : 0 ≤ sum ∧ sum ≤ 65535) :
    Calls Tryz.prog 151 #[dgV s d sp dp ttl t, .int .i64 sum] w fun e w' => ∃ v, e = .returned v ∧ Own w' w.heap.size 5 v (cellsB (headL s d ttl t.size sum)) ∧ Below w.heap.size w w' := by
  have hor := or_mark ttl ht0.1 ht0.2
  have hw1 := wrap_i64_in (ttl * 256) (by omega) (by omega)
  have hw2 := wrap_i64_in (28 + (t.size : Int)) (by omega) (by omega)
  have hall := head_all s d ttl sum t hs0 hd0 ht0 hn hm0
  have HW : Hid (∀ (W : World) g, Row W g 2 (valsN [17664, 28 + (t.size : Int), 0, 0, ttl * 256 + 17, sum, s / 65536, s, d / 65536, d]) → Calls Tryz.prog 149 #[.slice (some ⟨g, 0, none⟩) 10 10] W fun e w' => ∃ u, e = .returned u ∧ Own w' W.heap.size 5 u (cellsB (headL s d ttl t.size sum)) ∧ Below W.heap.size W w') :=
    fun W g hr => implWords_any [17664, 28 + (t.size : Int), 0, 0, ttl * 256 + 17, sum, s / 65536, s, d / 65536, d] g 10 W hr rfl (by simp) hall
  unfold dgV
  go_enter Tryz.func151, Tryz.ntmps151
  go_wp2_with fail
  have hrow : Row ((w.alloc (.cells #[.int .i64 s, .int .i64 d, .int .i64 sp, .int .i64 dp, .int .i64 ttl, .string t] 105)).alloc (.cells #[.int .i64 17664, .int .i64 (28 + (t.size : Int)), .int .i64 0, .int .i64 0, .int .i64 (ttl * 256 + 17), .int .i64 sum, .int .i64 (s / 65536), .int .i64 s, .int .i64 (d / 65536), .int .i64 d] 2)) (w.heap.size + 1) 2 [.int .i64 17664, .int .i64 (28 + (t.size : Int)), .int .i64 0, .int .i64 0, .int .i64 (ttl * 256 + 17), .int .i64 sum, .int .i64 (s / 65536), .int .i64 s, .int .i64 (d / 65536), .int .i64 d] := by
    have h := Row.new (w.alloc (.cells #[.int .i64 s, .int .i64 d, .int .i64 sp, .int .i64 dp, .int .i64 ttl, .string t] 105)) 2 [.int .i64 17664, .int .i64 (28 + (t.size : Int)), .int .i64 0, .int .i64 0, .int .i64 (ttl * 256 + 17), .int .i64 sum, .int .i64 (s / 65536), .int .i64 s, .int .i64 (d / 65536), .int .i64 d]
    rwa [show (w.alloc (.cells #[.int .i64 s, .int .i64 d, .int .i64 sp, .int .i64 dp, .int .i64 ttl, .string t] 105)).heap.size = w.heap.size + 1 by simp] at h
  refine (HW.out _ _ hrow).mono ?_
  rintro e w1 ⟨u, rfl, ho, hb⟩
  have hB : Below w.heap.size w w1 := ((new_below0 w (.cells #[.int .i64 s, .int .i64 d, .int .i64 sp, .int .i64 dp, .int .i64 ttl, .string t] 105)).alloc (by simp) _).trans (hb.mono (by simp; omega))
  go_wp2
  go_ret
  exact ⟨_, rfl, ho.mono (by simp; omega), hB⟩
end Go.Proofs.YtialedffpaoacaaGreatDoor
/- What stands behind a datagram's head, of the program. -/
namespace Go.Proofs.YtialedffpaoacaaGreatDoor
open Go.RowKit

set_option maxRecDepth 100000 in
set_option maxHeartbeats 1000000 in
theorem implBody_any (s d sp dp ttl : Int) (t : ByteArray) (sum : Int) (w : World) (hs0 : 0 ≤ sp ∧ sp ≤ 65535) (hd0 : 0 ≤ dp ∧ dp ≤ 65535) (hn : t.size ≤ 300) (hm0 : 0 ≤ sum ∧ sum ≤ 65535) :
    Calls Tryz.prog 153 #[dgV s d sp dp ttl t, .int .i64 sum] w fun e w' => ∃ v, e = .returned v ∧ Own w' w.heap.size 5 v (cellsB (bodyL sp dp t.data.toList sum)) ∧ Below w.heap.size w w' := by
  have hts : t.data.toList.length = t.size := by simp
  have hw2 := wrap_i64_in (8 + (t.size : Int)) (by omega) (by omega)
  have HW : Hid (∀ (W : World) g, w.heap.size ≤ W.heap.size → Row W g 2 (valsN [sp, dp, 8 + (t.size : Int), sum]) → Calls Tryz.prog 149 #[.slice (some ⟨g, 0, none⟩) 4 4] W fun e w' => ∃ u, e = .returned u ∧ Own w' w.heap.size 5 u (cellsB (wordsL [sp, dp, 8 + (t.size : Int), sum])) ∧ Below W.heap.size W w') :=
    fun W g hw hr => (implWords_any [sp, dp, 8 + (t.size : Int), sum] g 4 W hr rfl (by simp) (by intro n hn; simp only [List.mem_cons, List.not_mem_nil, or_false] at hn; omega)).mono fun e w' ⟨u, he, ho, hb⟩ => ⟨u, he, ho.mono hw, hb⟩
  have HB : Hid (bodyL sp dp t.data.toList sum = wordsL [sp, dp, 8 + (t.size : Int), sum] ++ t.data.toList) := by show _ = _; unfold bodyL; rw [hts]
  have hwl : (wordsL [sp, dp, 8 + (t.size : Int), sum]).length + t.size ≤ 1000000000 := by rw [wordsL_length]; simp; omega
  have HR : Hid (Row (w.alloc (.cells #[.int .i64 s, .int .i64 d, .int .i64 sp, .int .i64 dp, .int .i64 ttl, .string t] 105)) w.heap.size 105 [.int .i64 s, .int .i64 d, .int .i64 sp, .int .i64 dp, .int .i64 ttl, .string t]) := Row.new w _ _
  unfold dgV
  go_enter Tryz.func153, Tryz.ntmps153
  go_wp2_with fail
  have hGN : (([(10, Is (.pointer (some ⟨w.heap.size, 2, none⟩))), (11, Is (.int .i64 sp)), (12, Is (.pointer (some ⟨w.heap.size, 3, none⟩))), (13, Is (.int .i64 dp)), (14, Is (.int .i64 (8 + (t.size : Int)))), (15, Is (.int .i64 sum)), (16, fun x W => ∃ g, x = .slice (some ⟨g, 0, none⟩) 4 4 ∧ Row W g 2 (valsN [sp, dp, 8 + (t.size : Int), sum])), (17, fun x W => Own W w.heap.size 5 x (cellsB (wordsL [sp, dp, 8 + (t.size : Int), sum]))), (18, Is (.pointer (some ⟨w.heap.size, 5, none⟩))), (19, Is (.string t))] : List (Nat × (Value → World → Prop))).map (·.1)).Nodup := by simp
  refine wp_region_steady 10 (SlotG [(10, Is (.pointer (some ⟨w.heap.size, 2, none⟩))), (11, Is (.int .i64 sp)), (12, Is (.pointer (some ⟨w.heap.size, 3, none⟩))), (13, Is (.int .i64 dp)), (14, Is (.int .i64 (8 + (t.size : Int)))), (15, Is (.int .i64 sum)), (16, fun x W => ∃ g, x = .slice (some ⟨g, 0, none⟩) 4 4 ∧ Row W g 2 (valsN [sp, dp, 8 + (t.size : Int), sum])), (17, fun x W => Own W w.heap.size 5 x (cellsB (wordsL [sp, dp, 8 + (t.size : Int), sum]))), (18, Is (.pointer (some ⟨w.heap.size, 5, none⟩))), (19, Is (.string t))]) (by kernel_rfl) (by kernel_rfl) (Stabs.all ⟨stab_is _, stab_is _, stab_is _, stab_is _, stab_is _, stab_is _, stab_row 4 (valsN [sp, dp, 8 + (t.size : Int), sum]), stab_own w.heap.size (cellsB (wordsL [sp, dp, 8 + (t.size : Int), sum])), stab_is _, stab_is _, trivial⟩) ?_ ?_
  · intro o ho
    simp only [List.take_succ_cons, List.take_zero, List.mem_cons, List.not_mem_nil, or_false] at ho
    rcases ho with rfl | rfl | rfl | rfl | rfl | rfl | rfl | rfl | rfl | rfl
    · intro a' w' hb ha hdep
      have d2 : a'.tmps.getD 2 undef = .pointer (some ⟨w.heap.size, 0, none⟩) := ha.at 2 (by kernel_rfl)
      have hmk := fun (x : Value) (W : World) => SlotG.mk (x := x) (w := W) 0 rfl hGN
      clear hGN ha hdep
      go_simp
      exact ⟨_, rfl, Below.refl _ _, hmk _ _ rfl⟩
    · intro a' w' hb ha hdep
      have d10 : a'.tmps.getD 10 undef = .pointer (some ⟨w.heap.size, 2, none⟩) := (hdep 10 (of_decide_eq_true (by kernel_rfl))).is 0 rfl
      have hmk := fun (x : Value) (W : World) => SlotG.mk (x := x) (w := W) 1 rfl hGN
      clear hGN ha hdep
      have c2 : w'.cell? ⟨w.heap.size, 2, none⟩ = some (.int .i64 sp) := (HR.out.below hb HR.out.lt).cell 2
      go_simp
      exact ⟨_, rfl, Below.refl _ _, hmk _ _ rfl⟩
    · intro a' w' hb ha hdep
      have d2 : a'.tmps.getD 2 undef = .pointer (some ⟨w.heap.size, 0, none⟩) := ha.at 2 (by kernel_rfl)
      have hmk := fun (x : Value) (W : World) => SlotG.mk (x := x) (w := W) 2 rfl hGN
      clear hGN ha hdep
      go_simp
      exact ⟨_, rfl, Below.refl _ _, hmk _ _ rfl⟩
    · intro a' w' hb ha hdep
      have d12 : a'.tmps.getD 12 undef = .pointer (some ⟨w.heap.size, 3, none⟩) := (hdep 12 (of_decide_eq_true (by kernel_rfl))).is 2 rfl
      have hmk := fun (x : Value) (W : World) => SlotG.mk (x := x) (w := W) 3 rfl hGN
      clear hGN ha hdep
      have c3 : w'.cell? ⟨w.heap.size, 3, none⟩ = some (.int .i64 dp) := (HR.out.below hb HR.out.lt).cell 3
      go_simp
      exact ⟨_, rfl, Below.refl _ _, hmk _ _ rfl⟩
    · intro a' w' hb ha hdep
      have d5 : a'.tmps.getD 5 undef = .int .i64 (8 + (t.size : Int)) := ha.at 5 (by kernel_rfl)
      have hmk := fun (x : Value) (W : World) => SlotG.mk (x := x) (w := W) 4 rfl hGN
      clear hGN ha hdep
      go_simp
      exact ⟨_, rfl, Below.refl _ _, hmk _ _ rfl⟩
    · intro a' w' hb ha hdep
      have d1 : a'.tmps.getD 1 undef = .int .i64 sum := ha.at 1 (by kernel_rfl)
      have hmk := fun (x : Value) (W : World) => SlotG.mk (x := x) (w := W) 5 rfl hGN
      clear hGN ha hdep
      go_simp
      exact ⟨_, rfl, Below.refl _ _, hmk _ _ rfl⟩
    · intro a' w' hb ha hdep
      have d11 : a'.tmps.getD 11 undef = .int .i64 sp := (hdep 11 (of_decide_eq_true (by kernel_rfl))).is 1 rfl
      have d13 : a'.tmps.getD 13 undef = .int .i64 dp := (hdep 13 (of_decide_eq_true (by kernel_rfl))).is 3 rfl
      have d14 : a'.tmps.getD 14 undef = .int .i64 (8 + (t.size : Int)) := (hdep 14 (of_decide_eq_true (by kernel_rfl))).is 4 rfl
      have d15 : a'.tmps.getD 15 undef = .int .i64 sum := (hdep 15 (of_decide_eq_true (by kernel_rfl))).is 5 rfl
      have hmk := fun (x : Value) (W : World) => SlotG.mk (x := x) (w := W) 6 rfl hGN
      clear hGN ha hdep
      rw [Array.getD_eq_getD_getElem?] at d11 d13 d14 d15
      go_simp
      exact ⟨_, rfl, new_below0 _ _, hmk _ _ ⟨_, rfl, Row.new w' 2 _⟩⟩
    · intro a' w' hb ha hdep
      have D16 := (hdep 16 (of_decide_eq_true (by kernel_rfl))).get 6 rfl
      have hmk := fun (x : Value) (W : World) => SlotG.mk (x := x) (w := W) 7 rfl hGN
      clear hGN ha hdep
      obtain ⟨g, d16, hr16⟩ := D16
      have hsz : w.heap.size ≤ w'.heap.size := by have := hb.size; simp at this; omega
      go_simp
      refine (HW.out _ g hsz hr16).mono ?_
      rintro e w2 ⟨u, rfl, ho2, hb2⟩
      exact ⟨_, rfl, hb2, hmk _ _ ho2⟩
    · intro a' w' hb ha hdep
      have d2 : a'.tmps.getD 2 undef = .pointer (some ⟨w.heap.size, 0, none⟩) := ha.at 2 (by kernel_rfl)
      have hmk := fun (x : Value) (W : World) => SlotG.mk (x := x) (w := W) 8 rfl hGN
      clear hGN ha hdep
      go_simp
      exact ⟨_, rfl, Below.refl _ _, hmk _ _ rfl⟩
    · intro a' w' hb ha hdep
      have d18 : a'.tmps.getD 18 undef = .pointer (some ⟨w.heap.size, 5, none⟩) := (hdep 18 (of_decide_eq_true (by kernel_rfl))).is 8 rfl
      have hmk := fun (x : Value) (W : World) => SlotG.mk (x := x) (w := W) 9 rfl hGN
      clear hGN ha hdep
      have c5 : w'.cell? ⟨w.heap.size, 5, none⟩ = some (.string t) := (HR.out.below hb HR.out.lt).cell 5
      go_simp
      exact ⟨_, rfl, Below.refl _ _, hmk _ _ rfl⟩
  · intro a' w' hb ha hG
    clear hGN
    have D17 := (hG _ (List.mem_of_getElem? (i := 7) rfl) 17 rfl).get 7 rfl
    have d19 : a'.tmps.getD 19 undef = .string t := (hG _ (List.mem_of_getElem? (i := 9) rfl) 19 rfl).is 9 rfl
    have e2 : a' = ⟨#[a'.tmps.getD 0 undef, a'.tmps.getD 1 undef, a'.tmps.getD 2 undef, a'.tmps.getD 3 undef, a'.tmps.getD 4 undef, a'.tmps.getD 5 undef, a'.tmps.getD 6 undef, a'.tmps.getD 7 undef, a'.tmps.getD 8 undef, a'.tmps.getD 9 undef, a'.tmps.getD 10 undef, a'.tmps.getD 11 undef, a'.tmps.getD 12 undef, a'.tmps.getD 13 undef, a'.tmps.getD 14 undef, a'.tmps.getD 15 undef, a'.tmps.getD 16 undef, a'.tmps.getD 17 undef, a'.tmps.getD 18 undef, a'.tmps.getD 19 undef, a'.tmps.getD 20 undef], []⟩ := by rw [← (show a'.defers = [] from ha.2.1)]; exact act_eq a' 21 ha.1
    rw [d19] at e2
    clear hG ha d19
    generalize a'.tmps.getD 0 undef = x0 at *
    generalize a'.tmps.getD 1 undef = x1 at *
    generalize a'.tmps.getD 2 undef = x2 at *
    generalize a'.tmps.getD 3 undef = x3 at *
    generalize a'.tmps.getD 4 undef = x4 at *
    generalize a'.tmps.getD 5 undef = x5 at *
    generalize a'.tmps.getD 6 undef = x6 at *
    generalize a'.tmps.getD 7 undef = x7 at *
    generalize a'.tmps.getD 8 undef = x8 at *
    generalize a'.tmps.getD 9 undef = x9 at *
    generalize a'.tmps.getD 10 undef = x10 at *
    generalize a'.tmps.getD 11 undef = x11 at *
    generalize a'.tmps.getD 12 undef = x12 at *
    generalize a'.tmps.getD 13 undef = x13 at *
    generalize a'.tmps.getD 14 undef = x14 at *
    generalize a'.tmps.getD 15 undef = x15 at *
    generalize a'.tmps.getD 16 undef = x16 at *
    generalize a'.tmps.getD 17 undef = x17 at *
    generalize a'.tmps.getD 18 undef = x18 at *
    generalize a'.tmps.getD 20 undef = x20 at *
    subst e2
    simp only [List.drop_succ_cons, List.drop_zero]
    have hB := (new_below0 w (.cells #[.int .i64 s, .int .i64 d, .int .i64 sp, .int .i64 dp, .int .i64 ttl, .string t] 105)).trans (hb.mono (by simp))
    have hbs := hB.size
    go_wp2_with (at_builtin; refine wpList_append_str rfl (.tmp 17) (.tmp 19) 150 9 rfl w.heap.size 5 Tryz.underlying150 Tryz.underlying9 Tryz.infoB x17 _ rfl D17 t rfl hwl hbs ?_)
    intro v2 wb hob hbb
    rw [← HB.out] at hob
    have hBb : Below w.heap.size w wb := hB.trans hbb
    go_wp2
    go_ret
    exact ⟨_, rfl, hob, hBb⟩
set_option maxRecDepth 100000 in
set_option maxHeartbeats 1000000 in
theorem implBodySum_any (s d sp dp ttl : Int) (t : ByteArray) (w : World) (hR : dgB s d sp dp ttl t.size = true) :
    Calls Tryz.prog 154 #[dgV s d sp dp ttl t] w fun e w' => e = .returned (.int .i64 ((bsumN s d sp dp t.data.toList : Nat) : Int)) ∧ Below w.heap.size w w' := by
  obtain ⟨hs, hd, hsp, hdp, htt, hn⟩ := dgB_spec hR
  have hts : t.data.toList.length = t.size := by simp
  have hw2 := wrap_i64_in (8 + (t.size : Int)) (by omega) (by omega)
  have HW : Hid (∀ (W : World) g, Row W g 2 (valsN [s / 65536, s, d / 65536, d, 17, 8 + (t.size : Int)]) → Calls Tryz.prog 149 #[.slice (some ⟨g, 0, none⟩) 6 6] W fun e w' => ∃ u, e = .returned u ∧ Own w' W.heap.size 5 u (cellsB (aheadL s d t.size)) ∧ Below W.heap.size W w') :=
    fun W g hr => implWords_any [s / 65536, s, d / 65536, d, 17, 8 + (t.size : Int)] g 6 W hr rfl (by simp) (by intro n hn; simp only [List.mem_cons, List.not_mem_nil, or_false] at hn; omega)
  have HBO : Hid (∀ w, Calls Tryz.prog 153 #[dgV s d sp dp ttl t, .int .i64 0] w fun e w' => ∃ v, e = .returned v ∧ Own w' w.heap.size 5 v (cellsB (bodyL sp dp t.data.toList 0)) ∧ Below w.heap.size w w') := fun w => implBody_any s d sp dp ttl t 0 w hsp hdp hn (by omega)
  have HBS : Hid (bsumN s d sp dp t.data.toList = if sumN (aheadL s d t.size ++ bodyL sp dp t.data.toList 0) = 0 then 65535 else sumN (aheadL s d t.size ++ bodyL sp dp t.data.toList 0)) := by show _ = _; unfold bsumN; rw [hts]
  have hal : (aheadL s d t.size).length = 12 := by unfold aheadL; rw [wordsL_length]; rfl
  have hbl : (bodyL sp dp t.data.toList 0).length = 8 + t.size := by rw [bodyL_length, hts]
  generalize bsumN s d sp dp t.data.toList = R at *
  generalize aheadL s d t.size = AH at *
  generalize bodyL sp dp t.data.toList 0 = BD at *
  unfold dgV at *
  go_enter Tryz.func154, Tryz.ntmps154
  go_wp2_with fail
  have hrow : Row ((w.alloc (.cells #[.int .i64 s, .int .i64 d, .int .i64 sp, .int .i64 dp, .int .i64 ttl, .string t] 105)).alloc (.cells #[.int .i64 (s / 65536), .int .i64 s, .int .i64 (d / 65536), .int .i64 d, .int .i64 17, .int .i64 (8 + (t.size : Int))] 2)) (w.heap.size + 1) 2 [.int .i64 (s / 65536), .int .i64 s, .int .i64 (d / 65536), .int .i64 d, .int .i64 17, .int .i64 (8 + (t.size : Int))] := by
    have h := Row.new (w.alloc (.cells #[.int .i64 s, .int .i64 d, .int .i64 sp, .int .i64 dp, .int .i64 ttl, .string t] 105)) 2 [.int .i64 (s / 65536), .int .i64 s, .int .i64 (d / 65536), .int .i64 d, .int .i64 17, .int .i64 (8 + (t.size : Int))]
    rwa [show (w.alloc (.cells #[.int .i64 s, .int .i64 d, .int .i64 sp, .int .i64 dp, .int .i64 ttl, .string t] 105)).heap.size = w.heap.size + 1 by simp] at h
  refine (HW.out _ _ hrow).mono ?_
  rintro e w1 ⟨u, rfl, ho, hb⟩
  have hB1 : Below w.heap.size w w1 := ((new_below0 w (.cells #[.int .i64 s, .int .i64 d, .int .i64 sp, .int .i64 dp, .int .i64 ttl, .string t] 105)).alloc (by simp) _).trans (hb.mono (by simp; omega))
  have q : Row w1 w.heap.size 105 [.int .i64 s, .int .i64 d, .int .i64 sp, .int .i64 dp, .int .i64 ttl, .string t] := ((Row.new w 105 [.int .i64 s, .int .i64 d, .int .i64 sp, .int .i64 dp, .int .i64 ttl, .string t]).alloc _).below hb (by simp; omega)
  have ho1 : Own w1 w.heap.size 5 u (cellsB AH) := ho.mono (by simp; omega)
  have c0 : w1.cell? ⟨w.heap.size, 0, none⟩ = some (.int .i64 s) := q.cell 0
  have c1 : w1.cell? ⟨w.heap.size, 1, none⟩ = some (.int .i64 d) := q.cell 1
  have c2 : w1.cell? ⟨w.heap.size, 2, none⟩ = some (.int .i64 sp) := q.cell 2
  have c3 : w1.cell? ⟨w.heap.size, 3, none⟩ = some (.int .i64 dp) := q.cell 3
  have c4 : w1.cell? ⟨w.heap.size, 4, none⟩ = some (.int .i64 ttl) := q.cell 4
  have c5 : w1.cell? ⟨w.heap.size, 5, none⟩ = some (.string t) := q.cell 5
  clear q hb ho HW hrow
  go_wp2_with fail
  refine (HBO.out _).mono ?_
  rintro e w2 ⟨v2, rfl, ho2, hb2⟩
  have hB2 := after_next hB1 hb2 hB1.size
  have ho3 := ho1.below hb2
  obtain ⟨g, cap, rfl, _, hg, _, hcells⟩ := ho2.form (by intro e; have := congrArg List.length e; rw [cellsB_length, hbl] at this; simp at this)
  have hbs := hB2.size
  have hll : AH.length + BD.length ≤ 1000000000 := by omega
  rw [cellsB_length]
  have HCC : Hid (∀ j u, (cellsB BD)[j]? = some u → w2.cell? ⟨g, 0 + j, none⟩ = some u) := fun j u h => by rw [Nat.zero_add]; exact hcells j u h
  have HBL : Hid (BD.length = 8 + t.size) := hbl
  have HAL : Hid (AH.length = 12) := hal
  clear c0 c1 c2 c3 c4 c5 ho1 hb2 ho2 hcells HBO hbl hal
  go_wp2_with (at_builtin; refine wpList_append_bytes rfl _ _ 150 rfl w.heap.size 5 Tryz.underlying150 Tryz.infoB u AH BD rfl ho3 g 0 cap rfl HCC.out hll hbs ?_)
  intro v3 w3 ho4 hb3
  have hB3 := hB2.trans (hb3.mono (Nat.le_refl _))
  have hnX : (AH ++ BD).length = 20 + t.size := by rw [List.length_append, HBL.out, HAL.out]; omega
  obtain ⟨g3, cap3, rfl, _, hg3, _, hcells⟩ := ho4.form (by intro e; have := congrArg List.length e; rw [cellsB_length, hnX] at this; simp at this)
  rw [cellsB_length]
  have HS : Hid (Calls Tryz.prog 152 #[.slice (some ⟨g3, 0, none⟩) (AH ++ BD).length cap3] w3 fun e w' => e = .returned (.int .i64 ((sumN (AH ++ BD) : Nat) : Int)) ∧ w3 = w') := sumOf_any (AH ++ BD) g3 0 cap3 w3 (by omega) (BytesIn.of_cells hcells)
  clear hnX
  generalize sumN (AH ++ BD) = X at *
  generalize (AH ++ BD).length = nX at *
  clear ho3 ho4 hcells HCC hb3
  go_wp2_with fail
  refine HS.out.mono ?_
  rintro e w4 ⟨rfl, rfl⟩
  by_cases hX : X = 0
  · subst hX
    have HF : Hid ((65535 : Int) = (R : Int)) := by have := HBS.out; rw [if_pos rfl] at this; show _ = _; rw [this]; rfl
    go_wp2
    go_ret
    exact ⟨ret_i64 HF.out, hB3⟩
  · have hXb : ((X : Int) == 0) = false := by simp; omega
    have HF : Hid ((X : Int) = (R : Int)) := by have := HBS.out; rw [if_neg hX] at this; show _ = _; rw [this]
    go_wp2
    go_ret
    exact ⟨ret_i64 HF.out, hB3⟩
end Go.Proofs.YtialedffpaoacaaGreatDoor
/- A datagram's bytes, of the program. -/
namespace Go.Proofs.YtialedffpaoacaaGreatDoor
open Go.RowKit

theorem own_slice {w : World} {base : Nat} {v : Value} {l : List UInt8} {n : Nat} (h : Own w base 5 v (cellsB l)) (hl : l.length = n) (hn : 0 < n) :
    ∃ g cap, v = .slice (some ⟨g, 0, none⟩) n cap ∧ BytesIn w g 0 l := by
  obtain ⟨g, cap, rfl, _, _, _, hc⟩ := h.form (by intro e; have := congrArg List.length e; rw [cellsB_length, hl] at this; simp at this; omega)
  exact ⟨g, cap, by rw [cellsB_length, hl], BytesIn.of_cells hc⟩
set_option maxRecDepth 100000 in
set_option maxHeartbeats 2000000 in
theorem implDgramBytes_in (s d sp dp ttl : Int) (t : ByteArray) (w : World) (hR : dgB s d sp dp ttl t.size = true) :
    Calls Tryz.prog 105 #[dgV s d sp dp ttl t] w fun e w' => e = .returned (.string (dgT s d sp dp ttl t)) ∧ Below w.heap.size w w' := by
  have HRI : Hid (∀ w, Calls Tryz.prog 150 #[dgV s d sp dp ttl t] w fun e w' => e = .returned (.bool (dgB s d sp dp ttl t.size)) ∧ Below w.heap.size w w') := implDgramRight_any s d sp dp ttl t
  rw [hR] at HRI
  obtain ⟨hs, hd, hsp, hdp, htt, hn⟩ := dgB_spec hR
  have hts : t.data.toList.length = t.size := by simp
  have hsl := sumN_le (headL s d ttl t.size 0)
  have hbl := bsumN_le s d sp dp t.data.toList
  have HH : Hid (∀ (W : World) (x : Int), w.heap.size ≤ W.heap.size → 0 ≤ x → x ≤ 65535 → Calls Tryz.prog 151 #[dgV s d sp dp ttl t, .int .i64 x] W fun e w' => ∃ v, e = .returned v ∧ Own w' w.heap.size 5 v (cellsB (headL s d ttl t.size x)) ∧ Below W.heap.size W w') :=
    fun W x hW h0 h1 => (implHead_any s d sp dp ttl t x W hs hd htt hn ⟨h0, h1⟩).mono fun e w' ⟨v, he, ho, hb⟩ => ⟨v, he, ho.mono hW, hb⟩
  have HH0 : Hid (∀ (W : World), w.heap.size ≤ W.heap.size → Calls Tryz.prog 151 #[dgV s d sp dp ttl t, .int .i64 0] W fun e w' => ∃ v, e = .returned v ∧ Own w' w.heap.size 5 v (cellsB (headL s d ttl t.size 0)) ∧ Below W.heap.size W w') := fun W hW => HH.out W 0 hW (by omega) (by omega)
  have HH1 : Hid (∀ (W : World), w.heap.size ≤ W.heap.size → Calls Tryz.prog 151 #[dgV s d sp dp ttl t, .int .i64 ((sumN (headL s d ttl t.size 0) : Nat) : Int)] W fun e w' => ∃ v, e = .returned v ∧ Own w' w.heap.size 5 v (cellsB (headL s d ttl t.size ((sumN (headL s d ttl t.size 0) : Nat) : Int))) ∧ Below W.heap.size W w') := fun W hW => HH.out W _ hW (by omega) (by omega)
  have HS : Hid (∀ (W : World) g cap, BytesIn W g 0 (headL s d ttl t.size 0) → Calls Tryz.prog 152 #[.slice (some ⟨g, 0, none⟩) 20 cap] W fun e w' => e = .returned (.int .i64 ((sumN (headL s d ttl t.size 0) : Nat) : Int)) ∧ W = w') := fun W g cap hB => by
    have := sumOf_any (headL s d ttl t.size 0) g 0 cap W (by rw [headL_length]; omega) hB
    rw [headL_length] at this
    exact this
  have HBS : Hid (∀ (W : World), Calls Tryz.prog 154 #[dgV s d sp dp ttl t] W fun e w' => e = .returned (.int .i64 ((bsumN s d sp dp t.data.toList : Nat) : Int)) ∧ Below W.heap.size W w') := fun W => implBodySum_any s d sp dp ttl t W hR
  have HBO : Hid (∀ (W : World), w.heap.size ≤ W.heap.size → Calls Tryz.prog 153 #[dgV s d sp dp ttl t, .int .i64 ((bsumN s d sp dp t.data.toList : Nat) : Int)] W fun e w' => ∃ v, e = .returned v ∧ Own w' w.heap.size 5 v (cellsB (bodyL sp dp t.data.toList ((bsumN s d sp dp t.data.toList : Nat) : Int))) ∧ Below W.heap.size W w') :=
    fun W hW => (implBody_any s d sp dp ttl t _ W hsp hdp hn (by omega)).mono fun e w' ⟨v, he, ho, hb⟩ => ⟨v, he, ho.mono hW, hb⟩
  have HL0 : Hid ((headL s d ttl t.size 0).length = 20) := headL_length _ _ _ _ _
  have HL1 : Hid ((headL s d ttl t.size ((sumN (headL s d ttl t.size 0) : Nat) : Int)).length = 20) := headL_length _ _ _ _ _
  have HL2 : Hid ((bodyL sp dp t.data.toList ((bsumN s d sp dp t.data.toList : Nat) : Int)).length = 8 + t.size) := by show _ = _; rw [bodyL_length, hts]
  have HV : Hid (∀ (v : Value) (W : World), Own W w.heap.size 5 v (cellsB (headL s d ttl t.size ((sumN (headL s d ttl t.size 0) : Nat) : Int) ++ bodyL sp dp t.data.toList ((bsumN s d sp dp t.data.toList : Nat) : Int))) → (convert 150 9 v).run Tryz.prog W = .ok (.string (dgT s d sp dp ttl t)) W) := fun v W h => by
    refine own_conv h ?_ ?_
    · intro e; have := congrArg List.length e; rw [List.length_append, headL_length] at this; simp at this
    · rw [dgT, dgL, hts]
  unfold dgV at *
  generalize headL s d ttl t.size ((sumN (headL s d ttl t.size 0) : Nat) : Int) = HD at *
  generalize bodyL sp dp t.data.toList ((bsumN s d sp dp t.data.toList : Nat) : Int) = BY at *
  generalize sumN (headL s d ttl t.size 0) = HSum at *
  generalize bsumN s d sp dp t.data.toList = BSum at *
  generalize headL s d ttl t.size 0 = H0 at *
  clear HH hR hs hd hsp hdp htt hsl hbl hts
  go_enter Tryz.func105, Tryz.ntmps105
  go_wp2_with fail
  refine (HRI.out _).mono ?_
  rintro e w1 ⟨rfl, hb1⟩
  have HR : Hid (Row w1 w.heap.size 105 [.int .i64 s, .int .i64 d, .int .i64 sp, .int .i64 dp, .int .i64 ttl, .string t]) := (Row.new w 105 [.int .i64 s, .int .i64 d, .int .i64 sp, .int .i64 dp, .int .i64 ttl, .string t]).below hb1 (by simp)
  have hB1 := after_next (new_below0 w (.cells #[.int .i64 s, .int .i64 d, .int .i64 sp, .int .i64 dp, .int .i64 ttl, .string t] 105)) hb1 (by simp)
  clear hb1 HRI
  go_wp2_with fail
  have hGN : (([(7, Is (.agg #[.int .i64 s, .int .i64 d, .int .i64 sp, .int .i64 dp, .int .i64 ttl, .string t])), (8, Is (.agg #[.int .i64 s, .int .i64 d, .int .i64 sp, .int .i64 dp, .int .i64 ttl, .string t])), (9, fun x W => Own W w.heap.size 5 x (cellsB H0)), (10, Is (.int .i64 (HSum : Int))), (11, fun x W => Own W w.heap.size 5 x (cellsB HD)), (3, fun x W => Own W w.heap.size 5 x (cellsB HD))] : List (Nat × (Value → World → Prop))).map (·.1)).Nodup := by simp
  refine wp_region_steady 6 (SlotG [(7, Is (.agg #[.int .i64 s, .int .i64 d, .int .i64 sp, .int .i64 dp, .int .i64 ttl, .string t])), (8, Is (.agg #[.int .i64 s, .int .i64 d, .int .i64 sp, .int .i64 dp, .int .i64 ttl, .string t])), (9, fun x W => Own W w.heap.size 5 x (cellsB H0)), (10, Is (.int .i64 (HSum : Int))), (11, fun x W => Own W w.heap.size 5 x (cellsB HD)), (3, fun x W => Own W w.heap.size 5 x (cellsB HD))]) (by kernel_rfl) (by kernel_rfl) (Stabs.all ⟨stab_is _, stab_is _, stab_own w.heap.size (cellsB H0), stab_is _, stab_own w.heap.size (cellsB HD), stab_own w.heap.size (cellsB HD), trivial⟩) ?_ ?_
  · intro o ho
    simp only [List.take_succ_cons, List.take_zero, List.mem_cons, List.not_mem_nil, or_false] at ho
    rcases ho with rfl | rfl | rfl | rfl | rfl | rfl
    · intro a' w' hb ha hdep
      have d1 : a'.tmps.getD 1 undef = .pointer (some ⟨w.heap.size, 0, none⟩) := ha.at 1 (by kernel_rfl)
      have hmk := fun (x : Value) (W : World) => SlotG.mk (x := x) (w := W) 0 rfl hGN
      clear hGN ha hdep
      have c0 : w'.cell? ⟨w.heap.size, 0, none⟩ = some (.int .i64 s) := (HR.out.below hb HR.out.lt).cell 0
      have c1 : w'.cell? ⟨w.heap.size, 1, none⟩ = some (.int .i64 d) := (HR.out.below hb HR.out.lt).cell 1
      have c2 : w'.cell? ⟨w.heap.size, 2, none⟩ = some (.int .i64 sp) := (HR.out.below hb HR.out.lt).cell 2
      have c3 : w'.cell? ⟨w.heap.size, 3, none⟩ = some (.int .i64 dp) := (HR.out.below hb HR.out.lt).cell 3
      have c4 : w'.cell? ⟨w.heap.size, 4, none⟩ = some (.int .i64 ttl) := (HR.out.below hb HR.out.lt).cell 4
      have c5 : w'.cell? ⟨w.heap.size, 5, none⟩ = some (.string t) := (HR.out.below hb HR.out.lt).cell 5
      go_simp
      exact ⟨_, rfl, Below.refl _ _, hmk _ _ rfl⟩
    · intro a' w' hb ha hdep
      have d1 : a'.tmps.getD 1 undef = .pointer (some ⟨w.heap.size, 0, none⟩) := ha.at 1 (by kernel_rfl)
      have hmk := fun (x : Value) (W : World) => SlotG.mk (x := x) (w := W) 1 rfl hGN
      clear hGN ha hdep
      have c0 : w'.cell? ⟨w.heap.size, 0, none⟩ = some (.int .i64 s) := (HR.out.below hb HR.out.lt).cell 0
      have c1 : w'.cell? ⟨w.heap.size, 1, none⟩ = some (.int .i64 d) := (HR.out.below hb HR.out.lt).cell 1
      have c2 : w'.cell? ⟨w.heap.size, 2, none⟩ = some (.int .i64 sp) := (HR.out.below hb HR.out.lt).cell 2
      have c3 : w'.cell? ⟨w.heap.size, 3, none⟩ = some (.int .i64 dp) := (HR.out.below hb HR.out.lt).cell 3
      have c4 : w'.cell? ⟨w.heap.size, 4, none⟩ = some (.int .i64 ttl) := (HR.out.below hb HR.out.lt).cell 4
      have c5 : w'.cell? ⟨w.heap.size, 5, none⟩ = some (.string t) := (HR.out.below hb HR.out.lt).cell 5
      go_simp
      exact ⟨_, rfl, Below.refl _ _, hmk _ _ rfl⟩
    · intro a' w' hb ha hdep
      have d8 : a'.tmps.getD 8 undef = .agg #[.int .i64 s, .int .i64 d, .int .i64 sp, .int .i64 dp, .int .i64 ttl, .string t] := (hdep 8 (of_decide_eq_true (by kernel_rfl))).is 1 rfl
      have hmk := fun (x : Value) (W : World) => SlotG.mk (x := x) (w := W) 2 rfl hGN
      clear hGN ha hdep
      have hsz : w.heap.size ≤ w'.heap.size := by have := hb.size; have := hB1.size; omega
      go_simp
      refine (HH0.out _ hsz).mono ?_
      rintro e w2 ⟨u, rfl, ho2, hb2⟩
      exact ⟨_, rfl, hb2, hmk _ _ ho2⟩
    · intro a' w' hb ha hdep
      have D9 := (hdep 9 (of_decide_eq_true (by kernel_rfl))).get 2 rfl
      have hmk := fun (x : Value) (W : World) => SlotG.mk (x := x) (w := W) 3 rfl hGN
      clear hGN ha hdep
      obtain ⟨g, cap, d9, hB9⟩ := own_slice D9 HL0.out (by omega)
      go_simp
      refine (HS.out _ g cap hB9).mono ?_
      rintro e w2 ⟨rfl, rfl⟩
      exact ⟨_, rfl, Below.refl _ _, hmk _ _ rfl⟩
    · intro a' w' hb ha hdep
      have d7 : a'.tmps.getD 7 undef = .agg #[.int .i64 s, .int .i64 d, .int .i64 sp, .int .i64 dp, .int .i64 ttl, .string t] := (hdep 7 (of_decide_eq_true (by kernel_rfl))).is 0 rfl
      have d10 : a'.tmps.getD 10 undef = .int .i64 (HSum : Int) := (hdep 10 (of_decide_eq_true (by kernel_rfl))).is 3 rfl
      have hmk := fun (x : Value) (W : World) => SlotG.mk (x := x) (w := W) 4 rfl hGN
      clear hGN ha hdep
      have hsz : w.heap.size ≤ w'.heap.size := by have := hb.size; have := hB1.size; omega
      go_simp
      refine (HH1.out _ hsz).mono ?_
      rintro e w2 ⟨u, rfl, ho2, hb2⟩
      exact ⟨_, rfl, hb2, hmk _ _ ho2⟩
    · intro a' w' hb ha hdep
      have D11 := (hdep 11 (of_decide_eq_true (by kernel_rfl))).get 4 rfl
      have hmk := fun (x : Value) (W : World) => SlotG.mk (x := x) (w := W) 5 rfl hGN
      clear hGN ha hdep
      rw [Array.getD_eq_getD_getElem?] at D11
      go_simp
      exact ⟨_, rfl, Below.refl _ _, hmk _ _ D11⟩
  · intro a' w' hb ha hG
    clear hGN
    have D3 := (hG _ (List.mem_of_getElem? (i := 5) rfl) 3 rfl).get 5 rfl
    have d1 : a'.tmps.getD 1 undef = .pointer (some ⟨w.heap.size, 0, none⟩) := ha.at 1 (by kernel_rfl)
    have e2 : a' = ⟨#[a'.tmps.getD 0 undef, a'.tmps.getD 1 undef, a'.tmps.getD 2 undef, a'.tmps.getD 3 undef, a'.tmps.getD 4 undef, a'.tmps.getD 5 undef, a'.tmps.getD 6 undef, a'.tmps.getD 7 undef, a'.tmps.getD 8 undef, a'.tmps.getD 9 undef, a'.tmps.getD 10 undef, a'.tmps.getD 11 undef, a'.tmps.getD 12 undef, a'.tmps.getD 13 undef, a'.tmps.getD 14 undef, a'.tmps.getD 15 undef, a'.tmps.getD 16 undef, a'.tmps.getD 17 undef, a'.tmps.getD 18 undef], []⟩ := by rw [← (show a'.defers = [] from ha.2.1)]; exact act_eq a' 19 ha.1
    rw [d1] at e2
    clear hG ha d1
    generalize a'.tmps.getD 0 undef = x0 at *
    generalize a'.tmps.getD 2 undef = x2 at *
    generalize a'.tmps.getD 3 undef = x3 at *
    generalize a'.tmps.getD 4 undef = x4 at *
    generalize a'.tmps.getD 5 undef = x5 at *
    generalize a'.tmps.getD 6 undef = x6 at *
    generalize a'.tmps.getD 7 undef = x7 at *
    generalize a'.tmps.getD 8 undef = x8 at *
    generalize a'.tmps.getD 9 undef = x9 at *
    generalize a'.tmps.getD 10 undef = x10 at *
    generalize a'.tmps.getD 11 undef = x11 at *
    generalize a'.tmps.getD 12 undef = x12 at *
    generalize a'.tmps.getD 13 undef = x13 at *
    generalize a'.tmps.getD 14 undef = x14 at *
    generalize a'.tmps.getD 15 undef = x15 at *
    generalize a'.tmps.getD 16 undef = x16 at *
    generalize a'.tmps.getD 17 undef = x17 at *
    generalize a'.tmps.getD 18 undef = x18 at *
    subst e2
    simp only [List.drop_succ_cons, List.drop_zero]
    have hB2 := hB1.trans (hb.mono hB1.size)
    have HR2 : Hid _ := HR.out.below hb HR.out.lt
    clear HR hb
    have HR : Hid (Row w' w.heap.size 105 [.int .i64 s, .int .i64 d, .int .i64 sp, .int .i64 dp, .int .i64 ttl, .string t]) := HR2
    have HO3 : Hid (Own w' w.heap.size 5 x3 (cellsB HD)) := D3
    clear HR2 hB1 D3 HH0 HH1 HS HL0
    have hB1 := hB2
    clear hB2
    generalize w' = w1 at *
    go_wp2_with fail
    have hGN : (([(12, fun x W => Own W w.heap.size 5 x (cellsB HD)), (13, Is (.agg #[.int .i64 s, .int .i64 d, .int .i64 sp, .int .i64 dp, .int .i64 ttl, .string t])), (14, Is (.agg #[.int .i64 s, .int .i64 d, .int .i64 sp, .int .i64 dp, .int .i64 ttl, .string t])), (15, Is (.int .i64 (BSum : Int))), (16, fun x W => Own W w.heap.size 5 x (cellsB BY))] : List (Nat × (Value → World → Prop))).map (·.1)).Nodup := by simp
    refine wp_region_steady 5 (SlotG [(12, fun x W => Own W w.heap.size 5 x (cellsB HD)), (13, Is (.agg #[.int .i64 s, .int .i64 d, .int .i64 sp, .int .i64 dp, .int .i64 ttl, .string t])), (14, Is (.agg #[.int .i64 s, .int .i64 d, .int .i64 sp, .int .i64 dp, .int .i64 ttl, .string t])), (15, Is (.int .i64 (BSum : Int))), (16, fun x W => Own W w.heap.size 5 x (cellsB BY))]) (by kernel_rfl) (by kernel_rfl) (Stabs.all ⟨stab_own w.heap.size (cellsB HD), stab_is _, stab_is _, stab_is _, stab_own w.heap.size (cellsB BY), trivial⟩) ?_ ?_
    · intro o ho
      simp only [List.take_succ_cons, List.take_zero, List.mem_cons, List.not_mem_nil, or_false] at ho
      rcases ho with rfl | rfl | rfl | rfl | rfl
      · intro a' w' hb ha hdep
        have d3 : a'.tmps.getD 3 undef = x3 := ha.at 3 (by kernel_rfl)
        have hmk := fun (x : Value) (W : World) => SlotG.mk (x := x) (w := W) 0 rfl hGN
        clear hGN ha hdep
        go_simp
        exact ⟨_, rfl, Below.refl _ _, hmk _ _ (HO3.out.below hb)⟩
      · intro a' w' hb ha hdep
        have d1 : a'.tmps.getD 1 undef = .pointer (some ⟨w.heap.size, 0, none⟩) := ha.at 1 (by kernel_rfl)
        have hmk := fun (x : Value) (W : World) => SlotG.mk (x := x) (w := W) 1 rfl hGN
        clear hGN ha hdep
        have c0 : w'.cell? ⟨w.heap.size, 0, none⟩ = some (.int .i64 s) := (HR.out.below hb HR.out.lt).cell 0
        have c1 : w'.cell? ⟨w.heap.size, 1, none⟩ = some (.int .i64 d) := (HR.out.below hb HR.out.lt).cell 1
        have c2 : w'.cell? ⟨w.heap.size, 2, none⟩ = some (.int .i64 sp) := (HR.out.below hb HR.out.lt).cell 2
        have c3 : w'.cell? ⟨w.heap.size, 3, none⟩ = some (.int .i64 dp) := (HR.out.below hb HR.out.lt).cell 3
        have c4 : w'.cell? ⟨w.heap.size, 4, none⟩ = some (.int .i64 ttl) := (HR.out.below hb HR.out.lt).cell 4
        have c5 : w'.cell? ⟨w.heap.size, 5, none⟩ = some (.string t) := (HR.out.below hb HR.out.lt).cell 5
        go_simp
        exact ⟨_, rfl, Below.refl _ _, hmk _ _ rfl⟩
      · intro a' w' hb ha hdep
        have d1 : a'.tmps.getD 1 undef = .pointer (some ⟨w.heap.size, 0, none⟩) := ha.at 1 (by kernel_rfl)
        have hmk := fun (x : Value) (W : World) => SlotG.mk (x := x) (w := W) 2 rfl hGN
        clear hGN ha hdep
        have c0 : w'.cell? ⟨w.heap.size, 0, none⟩ = some (.int .i64 s) := (HR.out.below hb HR.out.lt).cell 0
        have c1 : w'.cell? ⟨w.heap.size, 1, none⟩ = some (.int .i64 d) := (HR.out.below hb HR.out.lt).cell 1
        have c2 : w'.cell? ⟨w.heap.size, 2, none⟩ = some (.int .i64 sp) := (HR.out.below hb HR.out.lt).cell 2
        have c3 : w'.cell? ⟨w.heap.size, 3, none⟩ = some (.int .i64 dp) := (HR.out.below hb HR.out.lt).cell 3
        have c4 : w'.cell? ⟨w.heap.size, 4, none⟩ = some (.int .i64 ttl) := (HR.out.below hb HR.out.lt).cell 4
        have c5 : w'.cell? ⟨w.heap.size, 5, none⟩ = some (.string t) := (HR.out.below hb HR.out.lt).cell 5
        go_simp
        exact ⟨_, rfl, Below.refl _ _, hmk _ _ rfl⟩
      · intro a' w' hb ha hdep
        have d14 : a'.tmps.getD 14 undef = .agg #[.int .i64 s, .int .i64 d, .int .i64 sp, .int .i64 dp, .int .i64 ttl, .string t] := (hdep 14 (of_decide_eq_true (by kernel_rfl))).is 2 rfl
        have hmk := fun (x : Value) (W : World) => SlotG.mk (x := x) (w := W) 3 rfl hGN
        clear hGN ha hdep
        go_simp
        refine (HBS.out _).mono ?_
        rintro e w2 ⟨rfl, hb2⟩
        exact ⟨_, rfl, hb2, hmk _ _ rfl⟩
      · intro a' w' hb ha hdep
        have d13 : a'.tmps.getD 13 undef = .agg #[.int .i64 s, .int .i64 d, .int .i64 sp, .int .i64 dp, .int .i64 ttl, .string t] := (hdep 13 (of_decide_eq_true (by kernel_rfl))).is 1 rfl
        have d15 : a'.tmps.getD 15 undef = .int .i64 (BSum : Int) := (hdep 15 (of_decide_eq_true (by kernel_rfl))).is 3 rfl
        have hmk := fun (x : Value) (W : World) => SlotG.mk (x := x) (w := W) 4 rfl hGN
        clear hGN ha hdep
        have hsz : w.heap.size ≤ w'.heap.size := by have := hb.size; have := hB1.size; omega
        go_simp
        refine (HBO.out _ hsz).mono ?_
        rintro e w2 ⟨u, rfl, ho2, hb2⟩
        exact ⟨_, rfl, hb2, hmk _ _ ho2⟩
    · intro a' w' hb ha hG
      clear hGN
      have D12 := (hG _ (List.mem_of_getElem? (i := 0) rfl) 12 rfl).get 0 rfl
      have D16 := (hG _ (List.mem_of_getElem? (i := 4) rfl) 16 rfl).get 4 rfl
      have e2 : a' = ⟨#[a'.tmps.getD 0 undef, a'.tmps.getD 1 undef, a'.tmps.getD 2 undef, a'.tmps.getD 3 undef, a'.tmps.getD 4 undef, a'.tmps.getD 5 undef, a'.tmps.getD 6 undef, a'.tmps.getD 7 undef, a'.tmps.getD 8 undef, a'.tmps.getD 9 undef, a'.tmps.getD 10 undef, a'.tmps.getD 11 undef, a'.tmps.getD 12 undef, a'.tmps.getD 13 undef, a'.tmps.getD 14 undef, a'.tmps.getD 15 undef, a'.tmps.getD 16 undef, a'.tmps.getD 17 undef, a'.tmps.getD 18 undef], []⟩ := by rw [← (show a'.defers = [] from ha.2.1)]; exact act_eq a' 19 ha.1
      clear hG ha 
      generalize a'.tmps.getD 0 undef = x0 at *
      generalize a'.tmps.getD 1 undef = x1 at *
      generalize a'.tmps.getD 2 undef = x2 at *
      generalize a'.tmps.getD 3 undef = x3 at *
      generalize a'.tmps.getD 4 undef = x4 at *
      generalize a'.tmps.getD 5 undef = x5 at *
      generalize a'.tmps.getD 6 undef = x6 at *
      generalize a'.tmps.getD 7 undef = x7 at *
      generalize a'.tmps.getD 8 undef = x8 at *
      generalize a'.tmps.getD 9 undef = x9 at *
      generalize a'.tmps.getD 10 undef = x10 at *
      generalize a'.tmps.getD 11 undef = x11 at *
      generalize a'.tmps.getD 12 undef = x12 at *
      generalize a'.tmps.getD 13 undef = x13 at *
      generalize a'.tmps.getD 14 undef = x14 at *
      generalize a'.tmps.getD 15 undef = x15 at *
      generalize a'.tmps.getD 16 undef = x16 at *
      generalize a'.tmps.getD 17 undef = x17 at *
      generalize a'.tmps.getD 18 undef = x18 at *
      subst e2
      simp only [List.drop_succ_cons, List.drop_zero]
      have hB := hB1.trans (hb.mono hB1.size)
      have hbs := hB.size
      obtain ⟨g, cap, d16, hB16⟩ := own_slice D16 HL2.out (by omega)
      subst d16
      have hll : HD.length + BY.length ≤ 1000000000 := by rw [HL1.out, HL2.out]; omega
      have HCC : Hid (∀ j u, (cellsB BY)[j]? = some u → w'.cell? ⟨g, 0 + j, none⟩ = some u) := fun j u h => by obtain ⟨hj, e⟩ := List.getElem?_eq_some_iff.1 h; have := hB16 j (by simpa [cellsB] using hj); rw [this, ← e]; simp [cellsB]
      have HX : Hid (Value.slice (some ⟨g, 0, none⟩) (8 + t.size) cap = .slice (some ⟨g, 0, none⟩) BY.length cap) := by show _ = _; rw [HL2.out]
      rw [HX.out]
      clear HX D16 hB16
      go_wp2_with (at_builtin; refine wpList_append_bytes rfl (.tmp 12) (.tmp 16) 150 rfl w.heap.size 5 Tryz.underlying150 Tryz.infoB x12 HD BY rfl D12 g 0 cap rfl HCC.out hll hbs ?_)
      intro v2 wb hob hbb
      have hconv := HV.out v2 wb hob
      have hBb : Below w.heap.size w wb := hB.trans hbb
      go_wp2
      go_ret
      exact ⟨rfl, hBb⟩
set_option maxRecDepth 100000 in
theorem implDgramBytes_any (s d sp dp ttl : Int) (t : ByteArray) (w : World) :
    Calls Tryz.prog 105 #[dgV s d sp dp ttl t] w fun e w' => e = .returned (.string (dgO s d sp dp ttl t)) ∧ Below w.heap.size w w' := by
  by_cases hR : dgB s d sp dp ttl t.size = true
  · rw [dgO_in _ _ _ _ _ _ hR]
    exact implDgramBytes_in s d sp dp ttl t w hR
  · rw [dgO_out _ _ _ _ _ _ hR]
    have HR : Hid (∀ w, Calls Tryz.prog 150 #[dgV s d sp dp ttl t] w fun e w' => e = .returned (.bool (dgB s d sp dp ttl t.size)) ∧ Below w.heap.size w w') := implDgramRight_any s d sp dp ttl t
    rw [show dgB s d sp dp ttl t.size = false by simpa using hR] at HR
    unfold dgV at *
    go_enter Tryz.func105, Tryz.ntmps105
    go_wp2_with fail
    refine (HR.out _).mono ?_
    rintro e w1 ⟨rfl, hb1⟩
    have hB1 := after_next (new_below0 w (.cells #[.int .i64 s, .int .i64 d, .int .i64 sp, .int .i64 dp, .int .i64 ttl, .string t] 105)) hb1 (by simp)
    go_wp2
    go_ret
    exact ⟨rfl, hB1⟩
end Go.Proofs.YtialedffpaoacaaGreatDoor
/- A frame's bytes, of the program. -/
namespace Go.Proofs.YtialedffpaoacaaGreatDoor
open Go.RowKit

theorem all_i64 (ns : List Int) (h : (ns.all fun n => decide ((-9223372036854775808 : Int) ≤ n ∧ n ≤ 9223372036854775807)) = true) : ∀ n ∈ ns, (-9223372036854775808 : Int) ≤ n ∧ n ≤ 9223372036854775807 :=
  fun n hn => of_decide_eq_true ((List.all_eq_true.1 h) n hn)
set_option maxRecDepth 100000 in
theorem implFrameBytes_in (v : Int) (t : ByteArray) (w : World) (hR : frB v t.size = true) :
    Calls Tryz.prog 104 #[.agg #[.int .i64 v, .string t]] w fun e w' => e = .returned (.string (frT v t)) ∧ Below w.heap.size w w' := by
  have HR : Hid (∀ w, Calls Tryz.prog 148 #[.agg #[.int .i64 v, .string t]] w fun e w' => e = .returned (.bool (frB v t.size)) ∧ Below w.heap.size w w') := implFrameRight_any v t
  rw [hR] at HR
  obtain ⟨h0, h1, h2⟩ := frB_spec hR
  have HW : Hid (∀ (W : World) g, Row W g 2 (valsN [0, 0, 0, 0, 0, 0, 33024, v, 2048]) → Calls Tryz.prog 149 #[.slice (some ⟨g, 0, none⟩) 9 9] W fun e w' => ∃ u, e = .returned u ∧ Own w' W.heap.size 5 u (cellsB (wordsL [0, 0, 0, 0, 0, 0, 33024, v, 2048])) ∧ Below W.heap.size W w') :=
    fun W g hr => implWords_any [0, 0, 0, 0, 0, 0, 33024, v, 2048] g 9 W hr rfl (by simp) (all_i64 _ (by simp; omega))
  have hne : frL v t.data.toList ≠ [] := fun e => by have := frL_length v t.data.toList; rw [e] at this; simp at this; omega
  have HN : Hid (frL v t.data.toList ≠ []) := hne
  have HT : Hid (frL v t.data.toList = wordsL [0, 0, 0, 0, 0, 0, 33024, v, 2048] ++ t.data.toList) := rfl
  have hwl : (wordsL [0, 0, 0, 0, 0, 0, 33024, v, 2048]).length = 18 := by rw [wordsL_length]; rfl
  clear hne
  go_enter Tryz.func104, Tryz.ntmps104
  go_wp2_with fail
  refine (HR.out _).mono ?_
  rintro e w1 ⟨rfl, hb1⟩
  have n1 := (TwoAt.new w (.int .i64 v) (.string t) 108).below hb1
  have hB1 := after_next (new_below w (.cells #[.int .i64 v, .string t] 108)) hb1 (by simp)
  clear hb1
  have HC : Hid (∀ (W : World) g, Below w1.heap.size w1 W → Row W g 2 (valsN [0, 0, 0, 0, 0, 0, 33024, v, 2048]) → Calls Tryz.prog 149 #[.slice (some ⟨g, 0, none⟩) 9 9] W fun e w' => ∃ u, e = .returned u ∧ Own w' w1.heap.size 5 u (cellsB (wordsL [0, 0, 0, 0, 0, 0, 33024, v, 2048])) ∧ Below W.heap.size W w') :=
    fun W g hb hr => (HW.out W g hr).mono fun e w' ⟨u, he, ho, hb2⟩ => ⟨u, he, ho.mono hb.size, hb2⟩
  have HV : Hid (∀ (v2 : Value) (wb : World), Own wb w1.heap.size 5 v2 (cellsB (wordsL [0, 0, 0, 0, 0, 0, 33024, v, 2048] ++ t.data.toList)) → (convert 150 9 v2).run Tryz.prog wb = .ok (.string (frT v t)) wb) :=
    fun v2 wb h => own_conv h HN.out rfl
  clear HW HN HT
  have hlen : (wordsL [0, 0, 0, 0, 0, 0, 33024, v, 2048]).length + t.size ≤ 1000000000 := by omega
  obtain ⟨c0, c1⟩ := n1
  go_wp2_with fail
  have hGN : (([(6, Is (.pointer (some ⟨w.heap.size, 0, none⟩))), (7, Is (.int .i64 v)), (8, fun x W => ∃ g, x = .slice (some ⟨g, 0, none⟩) 9 9 ∧ Row W g 2 (valsN [0, 0, 0, 0, 0, 0, 33024, v, 2048])), (9, fun x W => Own W w1.heap.size 5 x (cellsB (wordsL [0, 0, 0, 0, 0, 0, 33024, v, 2048]))), (10, Is (.pointer (some ⟨w.heap.size, 1, none⟩))), (11, Is (.string t))] : List (Nat × (Value → World → Prop))).map (·.1)).Nodup := by simp
  refine wp_region_steady 6 (SlotG [(6, Is (.pointer (some ⟨w.heap.size, 0, none⟩))), (7, Is (.int .i64 v)), (8, fun x W => ∃ g, x = .slice (some ⟨g, 0, none⟩) 9 9 ∧ Row W g 2 (valsN [0, 0, 0, 0, 0, 0, 33024, v, 2048])), (9, fun x W => Own W w1.heap.size 5 x (cellsB (wordsL [0, 0, 0, 0, 0, 0, 33024, v, 2048]))), (10, Is (.pointer (some ⟨w.heap.size, 1, none⟩))), (11, Is (.string t))]) (by kernel_rfl) (by kernel_rfl) (Stabs.all ⟨stab_is _, stab_is _, stab_row 9 (valsN [0, 0, 0, 0, 0, 0, 33024, v, 2048]), stab_own w1.heap.size (cellsB (wordsL [0, 0, 0, 0, 0, 0, 33024, v, 2048])), stab_is _, stab_is _, trivial⟩) ?_ ?_
  · intro o ho
    simp only [List.take_succ_cons, List.take_zero, List.mem_cons, List.not_mem_nil, or_false] at ho
    rcases ho with rfl | rfl | rfl | rfl | rfl | rfl
    · intro a' w' hb ha hdep
      have d1 : a'.tmps.getD 1 undef = .pointer (some ⟨w.heap.size, 0, none⟩) := ha.at 1 (by kernel_rfl)
      have hmk := fun (x : Value) (W : World) => SlotG.mk (x := x) (w := W) 0 rfl hGN
      clear hGN ha hdep
      go_simp
      exact ⟨_, rfl, Below.refl _ _, hmk _ _ rfl⟩
    · intro a' w' hb ha hdep
      have d6 : a'.tmps.getD 6 undef = .pointer (some ⟨w.heap.size, 0, none⟩) := (hdep 6 (of_decide_eq_true (by kernel_rfl))).is 0 rfl
      have hmk := fun (x : Value) (W : World) => SlotG.mk (x := x) (w := W) 1 rfl hGN
      clear hGN ha hdep
      have c : w'.cell? ⟨w.heap.size, 0, none⟩ = some (.int .i64 v) := by rw [hb.cell (p := ⟨w.heap.size, 0, none⟩) (World.block_lt_of_cell? w1 _ c0)]; exact c0
      go_simp
      exact ⟨_, rfl, Below.refl _ _, hmk _ _ rfl⟩
    · intro a' w' hb ha hdep
      have d7 : a'.tmps.getD 7 undef = .int .i64 v := (hdep 7 (of_decide_eq_true (by kernel_rfl))).is 1 rfl
      have hmk := fun (x : Value) (W : World) => SlotG.mk (x := x) (w := W) 2 rfl hGN
      clear hGN ha hdep
      rw [Array.getD_eq_getD_getElem?] at d7
      go_simp
      exact ⟨_, rfl, new_below _ _, hmk _ _ ⟨_, rfl, Row.new w' 2 _⟩⟩
    · intro a' w' hb ha hdep
      have D8 := (hdep 8 (of_decide_eq_true (by kernel_rfl))).get 2 rfl
      have hmk := fun (x : Value) (W : World) => SlotG.mk (x := x) (w := W) 3 rfl hGN
      clear hGN ha hdep
      obtain ⟨g, d8, hr8⟩ := D8
      go_simp
      refine (HC.out _ g hb hr8).mono ?_
      rintro e w2 ⟨u, rfl, ho2, hb2⟩
      exact ⟨_, rfl, hb2, hmk _ _ ho2⟩
    · intro a' w' hb ha hdep
      have d1 : a'.tmps.getD 1 undef = .pointer (some ⟨w.heap.size, 0, none⟩) := ha.at 1 (by kernel_rfl)
      have hmk := fun (x : Value) (W : World) => SlotG.mk (x := x) (w := W) 4 rfl hGN
      clear hGN ha hdep
      go_simp
      exact ⟨_, rfl, Below.refl _ _, hmk _ _ rfl⟩
    · intro a' w' hb ha hdep
      have d10 : a'.tmps.getD 10 undef = .pointer (some ⟨w.heap.size, 1, none⟩) := (hdep 10 (of_decide_eq_true (by kernel_rfl))).is 4 rfl
      have hmk := fun (x : Value) (W : World) => SlotG.mk (x := x) (w := W) 5 rfl hGN
      clear hGN ha hdep
      have c : w'.cell? ⟨w.heap.size, 1, none⟩ = some (.string t) := by rw [hb.cell (p := ⟨w.heap.size, 1, none⟩) (World.block_lt_of_cell? w1 _ c1)]; exact c1
      go_simp
      exact ⟨_, rfl, Below.refl _ _, hmk _ _ rfl⟩
  · intro a' w' hb ha hG
    clear hGN
    have D9 := (hG _ (List.mem_of_getElem? (i := 3) rfl) 9 rfl).get 3 rfl
    have d11 : a'.tmps.getD 11 undef = .string t := (hG _ (List.mem_of_getElem? (i := 5) rfl) 11 rfl).is 5 rfl
    have e2 : a' = ⟨#[a'.tmps.getD 0 undef, a'.tmps.getD 1 undef, a'.tmps.getD 2 undef, a'.tmps.getD 3 undef, a'.tmps.getD 4 undef, a'.tmps.getD 5 undef, a'.tmps.getD 6 undef, a'.tmps.getD 7 undef, a'.tmps.getD 8 undef, a'.tmps.getD 9 undef, a'.tmps.getD 10 undef, a'.tmps.getD 11 undef, a'.tmps.getD 12 undef, a'.tmps.getD 13 undef], []⟩ := by rw [← (show a'.defers = [] from ha.2.1)]; exact act_eq a' 14 ha.1
    rw [d11] at e2
    clear hG ha d11
    generalize a'.tmps.getD 0 undef = x0 at *
    generalize a'.tmps.getD 1 undef = x1 at *
    generalize a'.tmps.getD 2 undef = x2 at *
    generalize a'.tmps.getD 3 undef = x3 at *
    generalize a'.tmps.getD 4 undef = x4 at *
    generalize a'.tmps.getD 5 undef = x5 at *
    generalize a'.tmps.getD 6 undef = x6 at *
    generalize a'.tmps.getD 7 undef = x7 at *
    generalize a'.tmps.getD 8 undef = x8 at *
    generalize a'.tmps.getD 9 undef = x9 at *
    generalize a'.tmps.getD 10 undef = x10 at *
    generalize a'.tmps.getD 12 undef = x12 at *
    generalize a'.tmps.getD 13 undef = x13 at *
    subst e2
    simp only [List.drop_succ_cons, List.drop_zero]
    have hB := hB1.trans (hb.mono hB1.size)
    have hbs := hb.size
    go_wp2_with (at_builtin; refine wpList_append_str rfl (.tmp 9) (.tmp 11) 150 9 rfl w1.heap.size 5 Tryz.underlying150 Tryz.underlying9 Tryz.infoB x9 _ rfl D9 t rfl hlen hbs ?_)
    intro v2 wb hob hbb
    have hconv := HV.out v2 wb hob
    have hBb : Below w.heap.size w wb := hB.trans (hbb.mono hB1.size)
    go_wp2
    go_ret
    exact ⟨rfl, hBb⟩
set_option maxRecDepth 100000 in
theorem implFrameBytes_any (v : Int) (t : ByteArray) (w : World) :
    Calls Tryz.prog 104 #[.agg #[.int .i64 v, .string t]] w fun e w' => e = .returned (.string (frO v t)) ∧ Below w.heap.size w w' := by
  by_cases hR : frB v t.size = true
  · rw [frO_in v t hR]
    exact implFrameBytes_in v t w hR
  · rw [frO_out v t hR]
    have HR : Hid (∀ w, Calls Tryz.prog 148 #[.agg #[.int .i64 v, .string t]] w fun e w' => e = .returned (.bool (frB v t.size)) ∧ Below w.heap.size w w') := implFrameRight_any v t
    rw [show frB v t.size = false by simpa using hR] at HR
    go_enter Tryz.func104, Tryz.ntmps104
    go_wp2_with fail
    refine (HR.out _).mono ?_
    rintro e w1 ⟨rfl, hb1⟩
    have hB1 := after_next (new_below w (.cells #[.int .i64 v, .string t] 108)) hb1 (by simp)
    go_wp2
    go_ret
    exact ⟨rfl, hB1⟩
end Go.Proofs.YtialedffpaoacaaGreatDoor
