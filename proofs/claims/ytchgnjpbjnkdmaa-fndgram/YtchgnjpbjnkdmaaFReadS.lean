/- FrameRead of the model. -/
import Derived.Test.YtchgnjpbjnkdmaaFReadM
import Derived.Test.YtchgnjpbjnkdmaaGetS
import Derived.Test.YtchgnjpbjnkdmaaOwnV
namespace Go.Proofs.Ytchgnjpbjnkdmaa
open Go.RowKit

set_option maxRecDepth 100000 in
set_option maxHeartbeats 1000000 in
theorem specFrameRead_in (t : ByteArray) (w : World) (h : 18 ≤ t.size) (h8 : t.size ≤ 8000) (v : Value) (hv : frO (vlN t) (dtF t) = t ∧ v = frOut (vlN t) (dtF t) 0 ∨ frO (vlN t) (dtF t) ≠ t ∧ v = frOut 0 ByteArray.empty 3) :
    Calls Try.prog 37 #[.string t] w fun e w' => e = .returned v ∧ Below w.heap.size w w' := by
  have HS1 : Hid (∀ w, (Instr.slice 9 (.string t) (some (.int .i64 14)) (some (.int .i64 16)) none).run Try.prog w = .ok (.string (t.extract 14 16)) w) := fun w => slice_to t 14 16 14 16 rfl rfl (by omega) (by omega) w
  have HS2 : Hid (∀ w, (Instr.slice 9 (.string t) (some (.int .i64 18)) none none).run Try.prog w = .ok (.string (dtF t)) w) := fun w => slice_on t 18 18 rfl (by omega) w
  have HG : Hid (∀ w, Calls Try.prog 74 #[.string (t.extract 14 16)] w fun e w' => e = .returned (.int .i64 (vlN t : Int)) ∧ w = w') := fun w => by
    have := specGet_any (t.extract 14 16) w (by simp; omega)
    rw [extract_list] at this
    exact this
  have HF : Hid (∀ w, Calls Try.prog 35 #[.agg #[.int .i64 (vlN t : Int), .string (dtF t)]] w fun e w' => e = .returned (.string (frO (vlN t) (dtF t))) ∧ Below w.heap.size w w') := specFrameBytes_any _ _
  generalize vlN t = V at *
  generalize dtF t = D at *
  go_enter Try.func37, Try.ntmps37
  go_wp2_with fail
  have hGN : (([(12, Is (.string t)), (13, Is (.string (t.extract 14 16))), (14, Is (.int .i64 (V : Int))), (15, Is (.string t)), (16, Is (.string D)), (17, Is (.agg #[.int .i64 (V : Int), .string D])), (3, fun x W => ∃ g, x = .pointer (some ⟨g, 0, none⟩) ∧ w.heap.size < g ∧ Row W g 43 [.int .i64 0, .string ⟨#[]⟩])] : List (Nat × (Value → World → Prop))).map (·.1)).Nodup := by simp
  refine wp_region_steady 7 (SlotG [(12, Is (.string t)), (13, Is (.string (t.extract 14 16))), (14, Is (.int .i64 (V : Int))), (15, Is (.string t)), (16, Is (.string D)), (17, Is (.agg #[.int .i64 (V : Int), .string D])), (3, fun x W => ∃ g, x = .pointer (some ⟨g, 0, none⟩) ∧ w.heap.size < g ∧ Row W g 43 [.int .i64 0, .string ⟨#[]⟩])]) (by kernel_rfl) (by kernel_rfl) (Stabs.all ⟨stab_is _, stab_is _, stab_is _, stab_is _, stab_is _, stab_is _, stab_ptr w.heap.size _, trivial⟩) ?_ ?_
  · intro o ho
    simp only [List.take_succ_cons, List.take_zero, List.mem_cons, List.not_mem_nil, or_false] at ho
    rcases ho with rfl | rfl | rfl | rfl | rfl | rfl | rfl
    · intro a' w' hb ha hdep
      have d0 : a'.tmps.getD 0 undef = .string t := ha.at 0 (by kernel_rfl)
      have hmk := fun (x : Value) (W : World) => SlotG.mk (x := x) (w := W) 0 rfl hGN
      clear hGN ha hdep
      go_simp
      exact ⟨_, rfl, Below.refl _ _, hmk _ _ rfl⟩
    · intro a' w' hb ha hdep
      have d12 : a'.tmps.getD 12 undef = .string t := (hdep 12 (of_decide_eq_true (by kernel_rfl))).is 0 rfl
      have hmk := fun (x : Value) (W : World) => SlotG.mk (x := x) (w := W) 1 rfl hGN
      clear hGN ha hdep
      have hs := HS1.out w'
      go_simp
      exact ⟨_, rfl, Below.refl _ _, hmk _ _ rfl⟩
    · intro a' w' hb ha hdep
      have d13 : a'.tmps.getD 13 undef = .string (t.extract 14 16) := (hdep 13 (of_decide_eq_true (by kernel_rfl))).is 1 rfl
      have hmk := fun (x : Value) (W : World) => SlotG.mk (x := x) (w := W) 2 rfl hGN
      clear hGN ha hdep
      go_simp
      refine (HG.out _).mono ?_
      rintro e w2 ⟨rfl, rfl⟩
      exact ⟨_, rfl, Below.refl _ _, hmk _ _ rfl⟩
    · intro a' w' hb ha hdep
      have d0 : a'.tmps.getD 0 undef = .string t := ha.at 0 (by kernel_rfl)
      have hmk := fun (x : Value) (W : World) => SlotG.mk (x := x) (w := W) 3 rfl hGN
      clear hGN ha hdep
      go_simp
      exact ⟨_, rfl, Below.refl _ _, hmk _ _ rfl⟩
    · intro a' w' hb ha hdep
      have d15 : a'.tmps.getD 15 undef = .string t := (hdep 15 (of_decide_eq_true (by kernel_rfl))).is 3 rfl
      have hmk := fun (x : Value) (W : World) => SlotG.mk (x := x) (w := W) 4 rfl hGN
      clear hGN ha hdep
      have hs := HS2.out w'
      go_simp
      exact ⟨_, rfl, Below.refl _ _, hmk _ _ rfl⟩
    · intro a' w' hb ha hdep
      have d14 : a'.tmps.getD 14 undef = .int .i64 (V : Int) := (hdep 14 (of_decide_eq_true (by kernel_rfl))).is 2 rfl
      have d16 : a'.tmps.getD 16 undef = .string D := (hdep 16 (of_decide_eq_true (by kernel_rfl))).is 4 rfl
      have hmk := fun (x : Value) (W : World) => SlotG.mk (x := x) (w := W) 5 rfl hGN
      clear hGN ha hdep
      rw [Array.getD_eq_getD_getElem?] at d14 d16
      go_simp
      exact ⟨_, rfl, Below.refl _ _, hmk _ _ rfl⟩
    · intro a' w' hb ha hdep
      have hmk := fun (x : Value) (W : World) => SlotG.mk (x := x) (w := W) 6 rfl hGN
      clear hGN ha hdep
      go_simp
      have hlt : w.heap.size < w'.heap.size := by have := hb.size; simp at this; omega
      exact ⟨_, rfl, new_below _ _, hmk _ _ ⟨_, rfl, hlt, Row.new w' 43 _⟩⟩
  · intro a' w' hb ha hG
    clear hGN
    have d17 : a'.tmps.getD 17 undef = .agg #[.int .i64 (V : Int), .string D] := (hG _ (List.mem_of_getElem? (i := 5) rfl) 17 rfl).is 5 rfl
    have D3 := (hG _ (List.mem_of_getElem? (i := 6) rfl) 3 rfl).get 6 rfl
    have d0 : a'.tmps.getD 0 undef = .string t := ha.at 0 (by kernel_rfl)
    have d2 : a'.tmps.getD 2 undef = .pointer (some ⟨w.heap.size, 0, none⟩) := ha.at 2 (by kernel_rfl)
    have e2 : a' = ⟨#[a'.tmps.getD 0 undef, a'.tmps.getD 1 undef, a'.tmps.getD 2 undef, a'.tmps.getD 3 undef, a'.tmps.getD 4 undef, a'.tmps.getD 5 undef, a'.tmps.getD 6 undef, a'.tmps.getD 7 undef, a'.tmps.getD 8 undef, a'.tmps.getD 9 undef, a'.tmps.getD 10 undef, a'.tmps.getD 11 undef, a'.tmps.getD 12 undef, a'.tmps.getD 13 undef, a'.tmps.getD 14 undef, a'.tmps.getD 15 undef, a'.tmps.getD 16 undef, a'.tmps.getD 17 undef, a'.tmps.getD 18 undef, a'.tmps.getD 19 undef, a'.tmps.getD 20 undef, a'.tmps.getD 21 undef, a'.tmps.getD 22 undef, a'.tmps.getD 23 undef, a'.tmps.getD 24 undef], []⟩ := by rw [← (show a'.defers = [] from ha.2.1)]; exact act_eq a' 25 ha.1
    rw [d17, d0, d2] at e2
    clear hG ha d17 d0 d2
    generalize a'.tmps.getD 1 undef = x1 at *
    generalize a'.tmps.getD 3 undef = x3 at *
    generalize a'.tmps.getD 4 undef = x4 at *
    generalize a'.tmps.getD 5 undef = x5 at *
    generalize a'.tmps.getD 6 undef = x6 at *
    generalize a'.tmps.getD 7 undef = x7 at *
    generalize a'.tmps.getD 8 undef = x8 at *
    generalize a'.tmps.getD 9 undef = x9 at *
    generalize a'.tmps.getD 10 undef = x10 at *
    generalize a'.tmps.getD 11 undef = x11 at *
    generalize a'.tmps.getD 12 undef = x12 at *
    generalize a'.tmps.getD 13 undef = x13 at *
    generalize a'.tmps.getD 14 undef = x14 at *
    generalize a'.tmps.getD 15 undef = x15 at *
    generalize a'.tmps.getD 16 undef = x16 at *
    generalize a'.tmps.getD 18 undef = x18 at *
    generalize a'.tmps.getD 19 undef = x19 at *
    generalize a'.tmps.getD 20 undef = x20 at *
    generalize a'.tmps.getD 21 undef = x21 at *
    generalize a'.tmps.getD 22 undef = x22 at *
    generalize a'.tmps.getD 23 undef = x23 at *
    generalize a'.tmps.getD 24 undef = x24 at *
    subst e2
    simp only [List.drop_succ_cons, List.drop_zero]
    obtain ⟨g, rfl, hg, hr⟩ := D3
    have hB := (new_below w (.cells #[.int .i64 0, .string ⟨#[]⟩, .int .i64 0] 52)).trans (hb.mono (by simp))
    have q : Row w' w.heap.size 52 [.int .i64 0, .string ⟨#[]⟩, .int .i64 0] := (Row.new w 52 [.int .i64 0, .string ⟨#[]⟩, .int .i64 0]).below hb (by simp)
    have s0 : w'.cell? ⟨g, 0, none⟩ = some (.int .i64 0) := hr.cell 0
    have s1 : w'.cell? ⟨g, 1, none⟩ = some (.string ⟨#[]⟩) := hr.cell 1
    have t0 := hr.frozen 0
    have t1 := hr.frozen 1
    have hr2 : Row ((w'.setCell ⟨g, 0, none⟩ (.int .i64 (V : Int))).setCell ⟨g, 1, none⟩ (.string D)) g 43 [.int .i64 (V : Int), .string D] := (hr.set 0 _).set 1 _
    have q2 : Row ((w'.setCell ⟨g, 0, none⟩ (.int .i64 (V : Int))).setCell ⟨g, 1, none⟩ (.string D)) w.heap.size 52 [.int .i64 0, .string ⟨#[]⟩, .int .i64 0] := (q.other 0 _ (by omega)).other 1 _ (by omega)
    have hBs : Below w.heap.size w ((w'.setCell ⟨g, 0, none⟩ (.int .i64 (V : Int))).setCell ⟨g, 1, none⟩ (.string D)) := (hB.setCell (by simp; omega) _).setCell (by simp; omega) _
    clear q hr hb hB
    go_wp2_with fail
    generalize hWX : ((w'.setCell ⟨g, 0, none⟩ (.int .i64 (V : Int))).setCell ⟨g, 1, none⟩ (.string D)) = WX at *
    clear hWX s0 s1 t0 t1
    refine (HF.out _).mono ?_
    rintro e w2 ⟨rfl, hb2⟩
    have hB2 := after_next hBs hb2 hBs.size
    have u2 := hr2.below hb2 hr2.lt
    have q3 := q2.below hb2 q2.lt
    have s0 : w2.cell? ⟨g, 0, none⟩ = some (.int .i64 (V : Int)) := u2.cell 0
    have s1 : w2.cell? ⟨g, 1, none⟩ = some (.string D) := u2.cell 1
    have r0 : w2.cell? ⟨w.heap.size, 0, none⟩ = some (.int .i64 0) := q3.cell 0
    have r1 : w2.cell? ⟨w.heap.size, 1, none⟩ = some (.string ⟨#[]⟩) := q3.cell 1
    have r2 : w2.cell? ⟨w.heap.size, 2, none⟩ = some (.int .i64 0) := q3.cell 2
    have f0 := q3.frozen 0
    have f1 := q3.frozen 1
    have f2 := q3.frozen 2
    clear u2 q3 q2 hr2 hb2 hBs HF HS1 HS2 HG
    rcases hv with ⟨he, rfl⟩ | ⟨he, rfl⟩
    · have HE : Hid (frO V D = t) := he
      clear he
      rw [HE.out]
      go_wp2_with fail
      refine bodyPost_ret (v := frOut V D 0) (by simp [results, Try.results37, go_sem, frOut, r0, r1, r2]) rfl ⟨rfl, ?_⟩
      exact ((hB2.setCell (Nat.le_refl _) _).setCell (Nat.le_refl _) _).setCell (Nat.le_refl _) _
    · have hne := text_ne he
      clear he
      generalize frO V D = Z at *
      go_wp2_with fail
      refine bodyPost_ret (v := frOut 0 ByteArray.empty 3) (by simp [results, Try.results37, go_sem, frOut, r0, r1, r2]; rfl) rfl ⟨rfl, ?_⟩
      exact ((hB2.setCell (Nat.le_refl _) _).setCell (Nat.le_refl _) _).setCell (Nat.le_refl _) _
set_option maxRecDepth 100000 in
theorem specFrameRead_any (t : ByteArray) (w : World) (hz : t.size ≤ 1048576) :
    Calls Try.prog 37 #[.string t] w fun e w' => e = .returned (frRead t) ∧ Below w.heap.size w w' := by
  by_cases h1 : 8000 < t.size
  · rw [frRead_out t h1]
    go_enter Try.func37, Try.ntmps37
    go_wp2
    refine bodyPost_ret (v := frOut 0 ByteArray.empty 2) (by simp [results, Try.results37, go_sem, frOut]; rfl) rfl ⟨rfl, ?_⟩
    exact (Below.refl _ _).alloc (Nat.le_refl _) _
  · by_cases h2 : t.size < 18
    · rw [frRead_short t h2]
      go_enter Try.func37, Try.ntmps37
      go_wp2
      refine bodyPost_ret (v := frOut 0 ByteArray.empty 4) (by simp [results, Try.results37, go_sem, frOut]; rfl) rfl ⟨rfl, ?_⟩
      exact (Below.refl _ _).alloc (Nat.le_refl _) _
    · by_cases he : frO (vlN t) (dtF t) = t
      · exact specFrameRead_in t w (by omega) (by omega) _ (.inl ⟨he, frRead_good t (by omega) (by omega) he⟩)
      · exact specFrameRead_in t w (by omega) (by omega) _ (.inr ⟨he, frRead_bad t (by omega) (by omega) he⟩)
end Go.Proofs.Ytchgnjpbjnkdmaa
