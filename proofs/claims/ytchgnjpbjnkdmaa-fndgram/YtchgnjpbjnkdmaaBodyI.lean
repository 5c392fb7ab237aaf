/- What stands behind a datagram's head, of the program. -/
import Derived.Test.YtchgnjpbjnkdmaaHeadI
namespace Go.Proofs.Ytchgnjpbjnkdmaa
open Go.RowKit

set_option maxRecDepth 100000 in
set_option maxHeartbeats 1000000 in
theorem implBody_any (s d sp dp ttl : Int) (t : ByteArray) (sum : Int) (w : World) (hs0 : 0 ≤ sp ∧ sp ≤ 65535) (hd0 : 0 ≤ dp ∧ dp ≤ 65535) (hn : t.size ≤ 300) (hm0 : 0 ≤ sum ∧ sum ≤ 65535) :
    Calls Try.prog 63 #[dgV s d sp dp ttl t, .int .i64 sum] w fun e w' => ∃ v, e = .returned v ∧ Own w' w.heap.size 5 v (cellsB (bodyL sp dp t.data.toList sum)) ∧ Below w.heap.size w w' := by
  have hts : t.data.toList.length = t.size := by simp
  have hw2 := wrap_i64_in (8 + (t.size : Int)) (by omega) (by omega)
  have HW : Hid (∀ (W : World) g, w.heap.size ≤ W.heap.size → Row W g 2 (valsN [sp, dp, 8 + (t.size : Int), sum]) → Calls Try.prog 65 #[.slice (some ⟨g, 0, none⟩) 4 4] W fun e w' => ∃ u, e = .returned u ∧ Own w' w.heap.size 5 u (cellsB (wordsL [sp, dp, 8 + (t.size : Int), sum])) ∧ Below W.heap.size W w') :=
    fun W g hw hr => (implWords_any [sp, dp, 8 + (t.size : Int), sum] g 4 W hr rfl (by simp) (by intro n hn; simp only [List.mem_cons, List.not_mem_nil, or_false] at hn; omega)).mono fun e w' ⟨u, he, ho, hb⟩ => ⟨u, he, ho.mono hw, hb⟩
  have HB : Hid (bodyL sp dp t.data.toList sum = wordsL [sp, dp, 8 + (t.size : Int), sum] ++ t.data.toList) := by show _ = _; unfold bodyL; rw [hts]
  have hwl : (wordsL [sp, dp, 8 + (t.size : Int), sum]).length + t.size ≤ 1000000000 := by rw [wordsL_length]; simp; omega
  have HR : Hid (Row (w.alloc (.cells #[.int .i64 s, .int .i64 d, .int .i64 sp, .int .i64 dp, .int .i64 ttl, .string t] 40)) w.heap.size 40 [.int .i64 s, .int .i64 d, .int .i64 sp, .int .i64 dp, .int .i64 ttl, .string t]) := Row.new w _ _
  unfold dgV
  go_enter Try.func63, Try.ntmps63
  go_wp2_with fail
  have hGN : (([(10, Is (.pointer (some ⟨w.heap.size, 2, none⟩))), (11, Is (.int .i64 sp)), (12, Is (.pointer (some ⟨w.heap.size, 3, none⟩))), (13, Is (.int .i64 dp)), (14, Is (.int .i64 (8 + (t.size : Int)))), (15, Is (.int .i64 sum)), (16, fun x W => ∃ g, x = .slice (some ⟨g, 0, none⟩) 4 4 ∧ Row W g 2 (valsN [sp, dp, 8 + (t.size : Int), sum])), (17, fun x W => Own W w.heap.size 5 x (cellsB (wordsL [sp, dp, 8 + (t.size : Int), sum]))), (18, Is (.pointer (some ⟨w.heap.size, 5, none⟩))), (19, Is (.string t))] : List (Nat × (Value → World → Prop))).map (·.1)).Nodup := by simp
  refine wp_region_steady 10 (SlotG [(10, Is (.pointer (some ⟨w.heap.size, 2, none⟩))), (11, Is (.int .i64 sp)), (12, Is (.pointer (some ⟨w.heap.size, 3, none⟩))), (13, Is (.int .i64 dp)), (14, Is (.int .i64 (8 + (t.size : Int)))), (15, Is (.int .i64 sum)), (16, fun x W => ∃ g, x = .slice (some ⟨g, 0, none⟩) 4 4 ∧ Row W g 2 (valsN [sp, dp, 8 + (t.size : Int), sum])), (17, fun x W => Own W w.heap.size 5 x (cellsB (wordsL [sp, dp, 8 + (t.size : Int), sum]))), (18, Is (.pointer (some ⟨w.heap.size, 5, none⟩))), (19, Is (.string t))]) (by kernel_rfl) (by kernel_rfl) (Stabs.all ⟨stab_is _, stab_is _, stab_is _, stab_is _, stab_is _, stab_is _, stab_row 4 (valsN [sp, dp, 8 + (t.size : Int), sum]), stab_own w.heap.size (cellsB (wordsL [sp, dp, 8 + (t.size : Int), sum])), stab_is _, stab_is _, trivial⟩) ?_ ?_
  · intro o ho
    simp only [List.take_succ_cons, List.take_zero, List.mem_cons, List.not_mem_nil, or_false] at ho
    rcases ho with rfl | rfl | rfl | rfl | rfl | rfl | rfl | rfl | rfl | rfl
    · intro a' w' hb ha hdep
      have d2 : a'.tmps.getD 2 undef = .pointer (some ⟨w.heap.size, 0, none⟩) := ha.at 2 (by kernel_rfl)
      have hmk := fun (x : Value) (W : World) => SlotG.mk (x := x) (w := W) 0 rfl hGN
      clear hGN ha hdep
      go_simp
      exact ⟨_, rfl, Below.refl _ _, hmk _ _ rfl⟩
    · intro a' w' hb ha hdep
      have d10 : a'.tmps.getD 10 undef = .pointer (some ⟨w.heap.size, 2, none⟩) := (hdep 10 (of_decide_eq_true (by kernel_rfl))).is 0 rfl
      have hmk := fun (x : Value) (W : World) => SlotG.mk (x := x) (w := W) 1 rfl hGN
      clear hGN ha hdep
      have c2 : w'.cell? ⟨w.heap.size, 2, none⟩ = some (.int .i64 sp) := (HR.out.below hb HR.out.lt).cell 2
      go_simp
      exact ⟨_, rfl, Below.refl _ _, hmk _ _ rfl⟩
    · intro a' w' hb ha hdep
      have d2 : a'.tmps.getD 2 undef = .pointer (some ⟨w.heap.size, 0, none⟩) := ha.at 2 (by kernel_rfl)
      have hmk := fun (x : Value) (W : World) => SlotG.mk (x := x) (w := W) 2 rfl hGN
      clear hGN ha hdep
      go_simp
      exact ⟨_, rfl, Below.refl _ _, hmk _ _ rfl⟩
    · intro a' w' hb ha hdep
      have d12 : a'.tmps.getD 12 undef = .pointer (some ⟨w.heap.size, 3, none⟩) := (hdep 12 (of_decide_eq_true (by kernel_rfl))).is 2 rfl
      have hmk := fun (x : Value) (W : World) => SlotG.mk (x := x) (w := W) 3 rfl hGN
      clear hGN ha hdep
      have c3 : w'.cell? ⟨w.heap.size, 3, none⟩ = some (.int .i64 dp) := (HR.out.below hb HR.out.lt).cell 3
      go_simp
      exact ⟨_, rfl, Below.refl _ _, hmk _ _ rfl⟩
    · intro a' w' hb ha hdep
      have d5 : a'.tmps.getD 5 undef = .int .i64 (8 + (t.size : Int)) := ha.at 5 (by kernel_rfl)
      have hmk := fun (x : Value) (W : World) => SlotG.mk (x := x) (w := W) 4 rfl hGN
      clear hGN ha hdep
      go_simp
      exact ⟨_, rfl, Below.refl _ _, hmk _ _ rfl⟩
    · intro a' w' hb ha hdep
      have d1 : a'.tmps.getD 1 undef = .int .i64 sum := ha.at 1 (by kernel_rfl)
      have hmk := fun (x : Value) (W : World) => SlotG.mk (x := x) (w := W) 5 rfl hGN
      clear hGN ha hdep
      go_simp
      exact ⟨_, rfl, Below.refl _ _, hmk _ _ rfl⟩
    · intro a' w' hb ha hdep
      have d11 : a'.tmps.getD 11 undef = .int .i64 sp := (hdep 11 (of_decide_eq_true (by kernel_rfl))).is 1 rfl
      have d13 : a'.tmps.getD 13 undef = .int .i64 dp := (hdep 13 (of_decide_eq_true (by kernel_rfl))).is 3 rfl
      have d14 : a'.tmps.getD 14 undef = .int .i64 (8 + (t.size : Int)) := (hdep 14 (of_decide_eq_true (by kernel_rfl))).is 4 rfl
      have d15 : a'.tmps.getD 15 undef = .int .i64 sum := (hdep 15 (of_decide_eq_true (by kernel_rfl))).is 5 rfl
      have hmk := fun (x : Value) (W : World) => SlotG.mk (x := x) (w := W) 6 rfl hGN
      clear hGN ha hdep
      rw [Array.getD_eq_getD_getElem?] at d11 d13 d14 d15
      go_simp
      exact ⟨_, rfl, new_below0 _ _, hmk _ _ ⟨_, rfl, Row.new w' 2 _⟩⟩
    · intro a' w' hb ha hdep
      have D16 := (hdep 16 (of_decide_eq_true (by kernel_rfl))).get 6 rfl
      have hmk := fun (x : Value) (W : World) => SlotG.mk (x := x) (w := W) 7 rfl hGN
      clear hGN ha hdep
      obtain ⟨g, d16, hr16⟩ := D16
      have hsz : w.heap.size ≤ w'.heap.size := by have := hb.size; simp at this; omega
      go_simp
      refine (HW.out _ g hsz hr16).mono ?_
      rintro e w2 ⟨u, rfl, ho2, hb2⟩
      exact ⟨_, rfl, hb2, hmk _ _ ho2⟩
    · intro a' w' hb ha hdep
      have d2 : a'.tmps.getD 2 undef = .pointer (some ⟨w.heap.size, 0, none⟩) := ha.at 2 (by kernel_rfl)
      have hmk := fun (x : Value) (W : World) => SlotG.mk (x := x) (w := W) 8 rfl hGN
      clear hGN ha hdep
      go_simp
      exact ⟨_, rfl, Below.refl _ _, hmk _ _ rfl⟩
    · intro a' w' hb ha hdep
      have d18 : a'.tmps.getD 18 undef = .pointer (some ⟨w.heap.size, 5, none⟩) := (hdep 18 (of_decide_eq_true (by kernel_rfl))).is 8 rfl
      have hmk := fun (x : Value) (W : World) => SlotG.mk (x := x) (w := W) 9 rfl hGN
      clear hGN ha hdep
      have c5 : w'.cell? ⟨w.heap.size, 5, none⟩ = some (.string t) := (HR.out.below hb HR.out.lt).cell 5
      go_simp
      exact ⟨_, rfl, Below.refl _ _, hmk _ _ rfl⟩
  · intro a' w' hb ha hG
    clear hGN
    have D17 := (hG _ (List.mem_of_getElem? (i := 7) rfl) 17 rfl).get 7 rfl
    have d19 : a'.tmps.getD 19 undef = .string t := (hG _ (List.mem_of_getElem? (i := 9) rfl) 19 rfl).is 9 rfl
    have e2 : a' = ⟨#[a'.tmps.getD 0 undef, a'.tmps.getD 1 undef, a'.tmps.getD 2 undef, a'.tmps.getD 3 undef, a'.tmps.getD 4 undef, a'.tmps.getD 5 undef, a'.tmps.getD 6 undef, a'.tmps.getD 7 undef, a'.tmps.getD 8 undef, a'.tmps.getD 9 undef, a'.tmps.getD 10 undef, a'.tmps.getD 11 undef, a'.tmps.getD 12 undef, a'.tmps.getD 13 undef, a'.tmps.getD 14 undef, a'.tmps.getD 15 undef, a'.tmps.getD 16 undef, a'.tmps.getD 17 undef, a'.tmps.getD 18 undef, a'.tmps.getD 19 undef, a'.tmps.getD 20 undef], []⟩ := by rw [← (show a'.defers = [] from ha.2.1)]; exact act_eq a' 21 ha.1
    rw [d19] at e2
    clear hG ha d19
    generalize a'.tmps.getD 0 undef = x0 at *
    generalize a'.tmps.getD 1 undef = x1 at *
    generalize a'.tmps.getD 2 undef = x2 at *
    generalize a'.tmps.getD 3 undef = x3 at *
    generalize a'.tmps.getD 4 undef = x4 at *
    generalize a'.tmps.getD 5 undef = x5 at *
    generalize a'.tmps.getD 6 undef = x6 at *
    generalize a'.tmps.getD 7 undef = x7 at *
    generalize a'.tmps.getD 8 undef = x8 at *
    generalize a'.tmps.getD 9 undef = x9 at *
    generalize a'.tmps.getD 10 undef = x10 at *
    generalize a'.tmps.getD 11 undef = x11 at *
    generalize a'.tmps.getD 12 undef = x12 at *
    generalize a'.tmps.getD 13 undef = x13 at *
    generalize a'.tmps.getD 14 undef = x14 at *
    generalize a'.tmps.getD 15 undef = x15 at *
    generalize a'.tmps.getD 16 undef = x16 at *
    generalize a'.tmps.getD 17 undef = x17 at *
    generalize a'.tmps.getD 18 undef = x18 at *
    generalize a'.tmps.getD 20 undef = x20 at *
    subst e2
    simp only [List.drop_succ_cons, List.drop_zero]
    have hB := (new_below0 w (.cells #[.int .i64 s, .int .i64 d, .int .i64 sp, .int .i64 dp, .int .i64 ttl, .string t] 40)).trans (hb.mono (by simp))
    have hbs := hB.size
    go_wp2_with (at_builtin; refine wpList_append_str rfl (.tmp 17) (.tmp 19) 22 9 rfl w.heap.size 5 Try.underlying22 Try.underlying9 Try.infoB x17 _ rfl D17 t rfl hwl hbs ?_)
    intro v2 wb hob hbb
    rw [← HB.out] at hob
    have hBb : Below w.heap.size w wb := hB.trans hbb
    go_wp2
    go_ret
    exact ⟨_, rfl, hob, hBb⟩
set_option maxRecDepth 100000 in
set_option maxHeartbeats 1000000 in
theorem implBodySum_any (s d sp dp ttl : Int) (t : ByteArray) (w : World) (hR : dgB s d sp dp ttl t.size = true) :
    Calls Try.prog 64 #[dgV s d sp dp ttl t] w fun e w' => e = .returned (.int .i64 ((bsumN s d sp dp t.data.toList : Nat) : Int)) ∧ Below w.heap.size w w' := by
  obtain ⟨hs, hd, hsp, hdp, htt, hn⟩ := dgB_spec hR
  have hts : t.data.toList.length = t.size := by simp
  have hw2 := wrap_i64_in (8 + (t.size : Int)) (by omega) (by omega)
  have HW : Hid (∀ (W : World) g, Row W g 2 (valsN [s / 65536, s, d / 65536, d, 17, 8 + (t.size : Int)]) → Calls Try.prog 65 #[.slice (some ⟨g, 0, none⟩) 6 6] W fun e w' => ∃ u, e = .returned u ∧ Own w' W.heap.size 5 u (cellsB (aheadL s d t.size)) ∧ Below W.heap.size W w') :=
    fun W g hr => implWords_any [s / 65536, s, d / 65536, d, 17, 8 + (t.size : Int)] g 6 W hr rfl (by simp) (by intro n hn; simp only [List.mem_cons, List.not_mem_nil, or_false] at hn; omega)
  have HBO : Hid (∀ w, Calls Try.prog 63 #[dgV s d sp dp ttl t, .int .i64 0] w fun e w' => ∃ v, e = .returned v ∧ Own w' w.heap.size 5 v (cellsB (bodyL sp dp t.data.toList 0)) ∧ Below w.heap.size w w') := fun w => implBody_any s d sp dp ttl t 0 w hsp hdp hn (by omega)
  have HBS : Hid (bsumN s d sp dp t.data.toList = if sumN (aheadL s d t.size ++ bodyL sp dp t.data.toList 0) = 0 then 65535 else sumN (aheadL s d t.size ++ bodyL sp dp t.data.toList 0)) := by show _ = _; unfold bsumN; rw [hts]
  have hal : (aheadL s d t.size).length = 12 := by unfold aheadL; rw [wordsL_length]; rfl
  have hbl : (bodyL sp dp t.data.toList 0).length = 8 + t.size := by rw [bodyL_length, hts]
  generalize bsumN s d sp dp t.data.toList = R at *
  generalize aheadL s d t.size = AH at *
  generalize bodyL sp dp t.data.toList 0 = BD at *
  unfold dgV at *
  go_enter Try.func64, Try.ntmps64
  go_wp2_with fail
  have hrow : Row ((w.alloc (.cells #[.int .i64 s, .int .i64 d, .int .i64 sp, .int .i64 dp, .int .i64 ttl, .string t] 40)).alloc (.cells #[.int .i64 (s / 65536), .int .i64 s, .int .i64 (d / 65536), .int .i64 d, .int .i64 17, .int .i64 (8 + (t.size : Int))] 2)) (w.heap.size + 1) 2 [.int .i64 (s / 65536), .int .i64 s, .int .i64 (d / 65536), .int .i64 d, .int .i64 17, .int .i64 (8 + (t.size : Int))] := by
    have h := Row.new (w.alloc (.cells #[.int .i64 s, .int .i64 d, .int .i64 sp, .int .i64 dp, .int .i64 ttl, .string t] 40)) 2 [.int .i64 (s / 65536), .int .i64 s, .int .i64 (d / 65536), .int .i64 d, .int .i64 17, .int .i64 (8 + (t.size : Int))]
    rwa [show (w.alloc (.cells #[.int .i64 s, .int .i64 d, .int .i64 sp, .int .i64 dp, .int .i64 ttl, .string t] 40)).heap.size = w.heap.size + 1 by simp] at h
  refine (HW.out _ _ hrow).mono ?_
  rintro e w1 ⟨u, rfl, ho, hb⟩
  have hB1 : Below w.heap.size w w1 := ((new_below0 w (.cells #[.int .i64 s, .int .i64 d, .int .i64 sp, .int .i64 dp, .int .i64 ttl, .string t] 40)).alloc (by simp) _).trans (hb.mono (by simp; omega))
  have q : Row w1 w.heap.size 40 [.int .i64 s, .int .i64 d, .int .i64 sp, .int .i64 dp, .int .i64 ttl, .string t] := ((Row.new w 40 [.int .i64 s, .int .i64 d, .int .i64 sp, .int .i64 dp, .int .i64 ttl, .string t]).alloc _).below hb (by simp; omega)
  have ho1 : Own w1 w.heap.size 5 u (cellsB AH) := ho.mono (by simp; omega)
  have c0 : w1.cell? ⟨w.heap.size, 0, none⟩ = some (.int .i64 s) := q.cell 0
  have c1 : w1.cell? ⟨w.heap.size, 1, none⟩ = some (.int .i64 d) := q.cell 1
  have c2 : w1.cell? ⟨w.heap.size, 2, none⟩ = some (.int .i64 sp) := q.cell 2
  have c3 : w1.cell? ⟨w.heap.size, 3, none⟩ = some (.int .i64 dp) := q.cell 3
  have c4 : w1.cell? ⟨w.heap.size, 4, none⟩ = some (.int .i64 ttl) := q.cell 4
  have c5 : w1.cell? ⟨w.heap.size, 5, none⟩ = some (.string t) := q.cell 5
  clear q hb ho HW hrow
  go_wp2_with fail
  refine (HBO.out _).mono ?_
  rintro e w2 ⟨v2, rfl, ho2, hb2⟩
  have hB2 := after_next hB1 hb2 hB1.size
  have ho3 := ho1.below hb2
  obtain ⟨g, cap, rfl, _, hg, _, hcells⟩ := ho2.form (by intro e; have := congrArg List.length e; rw [cellsB_length, hbl] at this; simp at this)
  have hbs := hB2.size
  have hll : AH.length + BD.length ≤ 1000000000 := by omega
  rw [cellsB_length]
  have HCC : Hid (∀ j u, (cellsB BD)[j]? = some u → w2.cell? ⟨g, 0 + j, none⟩ = some u) := fun j u h => by rw [Nat.zero_add]; exact hcells j u h
  have HBL : Hid (BD.length = 8 + t.size) := hbl
  have HAL : Hid (AH.length = 12) := hal
  clear c0 c1 c2 c3 c4 c5 ho1 hb2 ho2 hcells HBO hbl hal
  go_wp2_with (at_builtin; refine wpList_append_bytes rfl _ _ 22 rfl w.heap.size 5 Try.underlying22 Try.infoB u AH BD rfl ho3 g 0 cap rfl HCC.out hll hbs ?_)
  intro v3 w3 ho4 hb3
  have hB3 := hB2.trans (hb3.mono (Nat.le_refl _))
  have hnX : (AH ++ BD).length = 20 + t.size := by rw [List.length_append, HBL.out, HAL.out]; omega
  obtain ⟨g3, cap3, rfl, _, hg3, _, hcells⟩ := ho4.form (by intro e; have := congrArg List.length e; rw [cellsB_length, hnX] at this; simp at this)
  rw [cellsB_length]
  have HS : Hid (Calls Try.prog 62 #[.slice (some ⟨g3, 0, none⟩) (AH ++ BD).length cap3] w3 fun e w' => e = .returned (.int .i64 ((sumN (AH ++ BD) : Nat) : Int)) ∧ w3 = w') := sumOf_any (AH ++ BD) g3 0 cap3 w3 (by omega) (BytesIn.of_cells hcells)
  clear hnX
  generalize sumN (AH ++ BD) = X at *
  generalize (AH ++ BD).length = nX at *
  clear ho3 ho4 hcells HCC hb3
  go_wp2_with fail
  refine HS.out.mono ?_
  rintro e w4 ⟨rfl, rfl⟩
  by_cases hX : X = 0
  · subst hX
    have HF : Hid ((65535 : Int) = (R : Int)) := by have := HBS.out; rw [if_pos rfl] at this; show _ = _; rw [this]; rfl
    go_wp2
    go_ret
    exact ⟨ret_i64 HF.out, hB3⟩
  · have hXb : ((X : Int) == 0) = false := by simp; omega
    have HF : Hid ((X : Int) = (R : Int)) := by have := HBS.out; rw [if_neg hX] at this; show _ = _; rw [this]
    go_wp2
    go_ret
    exact ⟨ret_i64 HF.out, hB3⟩
end Go.Proofs.Ytchgnjpbjnkdmaa
