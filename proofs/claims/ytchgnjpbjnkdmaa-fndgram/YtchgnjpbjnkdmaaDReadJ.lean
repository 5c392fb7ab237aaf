/- DgramRead of the program: its code, and the whole. -/
import Derived.Test.YtchgnjpbjnkdmaaDReadI
namespace Go.Proofs.Ytchgnjpbjnkdmaa
open Go.RowKit

theorem bytes_ne {a b : List UInt8} (h : a ≠ b) : ((⟨a.toArray⟩ : ByteArray).toList == (⟨b.toArray⟩ : ByteArray).toList) = false :=
  text_ne fun e => h (by have := congrArg (fun x : ByteArray => x.data.toList) e; simpa using this)
theorem empty_size {r : ByteArray} (h : r ≠ ByteArray.empty) (hr : r = ByteArray.empty ∨ 28 ≤ r.size ∧ r.size ≤ 328) : 28 ≤ r.size ∧ r.size ≤ 328 := by
  rcases hr with e | e
  · exact absurd e h
  · exact e
set_option maxRecDepth 100000 in
set_option maxHeartbeats 1000000 in
theorem implWhy_any (t r : ByteArray) (w : World) (h : 28 ≤ t.size) (h8 : t.size ≤ 8000) (hr : r = ByteArray.empty ∨ 28 ≤ r.size ∧ r.size ≤ 328) :
    Calls Try.prog 68 #[.string t, .string r] w fun e w' => e = .returned (.int .i64 (whyN t r)) ∧ Below w.heap.size w w' := by
  by_cases hre : r = ByteArray.empty
  · subst hre
    have hy : whyN t ByteArray.empty = 3 := if_neg (fun e => e.1 rfl)
    rw [hy]
    go_enter Try.func68, Try.ntmps68
    go_wp2
    go_ret
    exact ⟨rfl, Below.refl _ _⟩
  · obtain ⟨h28, h328⟩ := empty_size hre hr
    have hie : r.toList.isEmpty = false := by
      rw [ByteArray.toList_eq, List.isEmpty_eq_false_iff]
      intro e
      have := congrArg List.length e
      simp at this
      rw [this] at h28
      simp at h28
    obtain ⟨g, cap, w1, hrun1, hcap1, hB1, _, hg1, hb1⟩ := text_bytes w t
    by_cases hba : bareL t.data.toList = bareL r.data.toList
    · have hy : whyN t r = 5 := if_pos ⟨hre, hba⟩
      rw [hy]
      have HW1 : Hid (Calls Try.prog 80 #[.slice (some ⟨g, 0, none⟩) t.size cap] w1 fun e w' => e = .returned (.string ⟨(bareL r.data.toList).toArray⟩) ∧ Below w1.heap.size w1 w') := by
        have := implWithout_any t g cap w1 h h8 hcap1 hB1 hg1
        rw [hba] at this
        exact this
      clear hB1
      go_enter Try.func68, Try.ntmps68
      go_wp2_with fail
      refine HW1.out.mono ?_
      rintro e w2 ⟨rfl, hb2⟩
      have hB2 := after_next hb1 hb2 hb1.size
      obtain ⟨g2, cap2, w3, hrun2, hcap2, hB3, _, hg2, hb3⟩ := text_bytes w2 r
      have hBB3 := after_next hB2 hb3 hB2.size
      have HW2 : Hid (Calls Try.prog 80 #[.slice (some ⟨g2, 0, none⟩) r.size cap2] w3 fun e w' => e = .returned (.string ⟨(bareL r.data.toList).toArray⟩) ∧ Below w3.heap.size w3 w') := implWithout_any r g2 cap2 w3 h28 (by omega) hcap2 hB3 hg2
      clear hB3 hrun1 HW1
      generalize (⟨(bareL r.data.toList).toArray⟩ : ByteArray) = R at *
      go_wp2_with fail
      refine HW2.out.mono ?_
      rintro e w4 ⟨rfl, hb4⟩
      have hB4 := after_next hBB3 hb4 hBB3.size
      go_wp2
      go_ret
      exact ⟨rfl, hB4⟩
    · have hy : whyN t r = 3 := if_neg (fun e => hba e.2)
      rw [hy]
      have hbn := bytes_ne hba
      have HW1 : Hid (Calls Try.prog 80 #[.slice (some ⟨g, 0, none⟩) t.size cap] w1 fun e w' => e = .returned (.string ⟨(bareL t.data.toList).toArray⟩) ∧ Below w1.heap.size w1 w') := implWithout_any t g cap w1 h h8 hcap1 hB1 hg1
      clear hB1
      go_enter Try.func68, Try.ntmps68
      go_wp2_with fail
      refine HW1.out.mono ?_
      rintro e w2 ⟨rfl, hb2⟩
      have hB2 := after_next hb1 hb2 hb1.size
      obtain ⟨g2, cap2, w3, hrun2, hcap2, hB3, _, hg2, hb3⟩ := text_bytes w2 r
      have hBB3 := after_next hB2 hb3 hB2.size
      have HW2 : Hid (Calls Try.prog 80 #[.slice (some ⟨g2, 0, none⟩) r.size cap2] w3 fun e w' => e = .returned (.string ⟨(bareL r.data.toList).toArray⟩) ∧ Below w3.heap.size w3 w') := implWithout_any r g2 cap2 w3 h28 (by omega) hcap2 hB3 hg2
      clear hB3 hrun1 HW1
      generalize (⟨(bareL t.data.toList).toArray⟩ : ByteArray) = R1 at *
      generalize (⟨(bareL r.data.toList).toArray⟩ : ByteArray) = R at *
      go_wp2_with fail
      refine HW2.out.mono ?_
      rintro e w4 ⟨rfl, hb4⟩
      have hB4 := after_next hBB3 hb4 hBB3.size
      go_wp2
      go_ret
      exact ⟨rfl, hB4⟩
set_option maxRecDepth 100000 in
set_option maxHeartbeats 1000000 in
theorem implDgramRead_in (t : ByteArray) (w : World) (h : 28 ≤ t.size) (h8 : t.size ≤ 8000) (v : Value) (hv : dgOf t = t ∧ v = dOut (numAt t 12 16) (numAt t 16 20) (numAt t 20 22) (numAt t 22 24) (numAt t 8 9) (dtD t) 0 ∨ dgOf t ≠ t ∧ v = dOut 0 0 0 0 0 ByteArray.empty (whyN t (dgOf t))) :
    Calls Try.prog 31 #[.string t] w fun e w' => e = .returned v ∧ Below w.heap.size w w' := by
  obtain ⟨g, cap, w1, hrun, hcap, hB1, hg0, hg1, hb1⟩ := text_bytes (w.alloc (.cells #[.int .i64 0, .int .i64 0, .int .i64 0, .int .i64 0, .int .i64 0, .string ⟨#[]⟩, .int .i64 0] 49)) t
  have HD : Hid (Calls Try.prog 67 #[.slice (some ⟨g, 0, none⟩) t.size cap] w1 fun e w' => e = .returned (dgV (numAt t 12 16) (numAt t 16 20) (numAt t 20 22) (numAt t 22 24) (numAt t 8 9) (dtD t)) ∧ Below w1.heap.size w1 w') := implDgramOf_any t g cap w1 h h8 hcap hB1 hg1
  have HF : Hid (∀ w, Calls Try.prog 27 #[dgV (numAt t 12 16) (numAt t 16 20) (numAt t 20 22) (numAt t 22 24) (numAt t 8 9) (dtD t)] w fun e w' => e = .returned (.string (dgOf t)) ∧ Below w.heap.size w w') := implDgramBytes_any _ _ _ _ _ _
  have HY : Hid (∀ w, Calls Try.prog 68 #[.string t, .string (dgOf t)] w fun e w' => e = .returned (.int .i64 (whyN t (dgOf t))) ∧ Below w.heap.size w w') := fun w => implWhy_any t (dgOf t) w h h8 (dgOf_size t)
  have hBw : Below w.heap.size w w1 := (new_below0 w _).trans (hb1.mono (by simp))
  have q : Row w1 w.heap.size 49 [.int .i64 0, .int .i64 0, .int .i64 0, .int .i64 0, .int .i64 0, .string ⟨#[]⟩, .int .i64 0] := (Row.new w 49 [.int .i64 0, .int .i64 0, .int .i64 0, .int .i64 0, .int .i64 0, .string ⟨#[]⟩, .int .i64 0]).below hb1 (by simp)
  clear hB1 hg0 hg1 hb1
  unfold dgV at *
  generalize numAt t 12 16 = V1 at *
  generalize numAt t 16 20 = V2 at *
  generalize numAt t 20 22 = V3 at *
  generalize numAt t 22 24 = V4 at *
  generalize numAt t 8 9 = V5 at *
  generalize dtD t = D at *
  generalize dgOf t = Z at *
  generalize whyN t Z = C at *
  go_enter Try.func31, Try.ntmps31
  go_wp2_with fail
  refine HD.out.mono ?_
  rintro e w2 ⟨rfl, hb2⟩
  have hB2 := after_next hBw hb2 hBw.size
  have q2 := q.below hb2 q.lt
  clear q hb2 hrun HD hBw
  go_wp2_with fail
  refine (HF.out _).mono ?_
  rintro e w3 ⟨rfl, hb3⟩
  have hB3 := after_next (hB2.alloc hB2.size (.cells #[.int .i64 (V1 : Int), .int .i64 (V2 : Int), .int .i64 (V3 : Int), .int .i64 (V4 : Int), .int .i64 (V5 : Int), .string D] 40)) hb3 (by have := hB2.size; simp; omega)
  have q3 := (q2.alloc (.cells #[.int .i64 (V1 : Int), .int .i64 (V2 : Int), .int .i64 (V3 : Int), .int .i64 (V4 : Int), .int .i64 (V5 : Int), .string D] 40)).below hb3 (by have := q2.lt; simp; omega)
  have p3 := (Row.new w2 40 [.int .i64 (V1 : Int), .int .i64 (V2 : Int), .int .i64 (V3 : Int), .int .i64 (V4 : Int), .int .i64 (V5 : Int), .string D]).below hb3 (by simp)
  clear q2 hB2 hb3 HF
  rcases hv with ⟨he, rfl⟩ | ⟨he, rfl⟩
  · subst he
    have s0 : w3.cell? ⟨w2.heap.size, 0, none⟩ = some (.int .i64 (V1 : Int)) := p3.cell 0
    have s1 : w3.cell? ⟨w2.heap.size, 1, none⟩ = some (.int .i64 (V2 : Int)) := p3.cell 1
    have s2 : w3.cell? ⟨w2.heap.size, 2, none⟩ = some (.int .i64 (V3 : Int)) := p3.cell 2
    have s3 : w3.cell? ⟨w2.heap.size, 3, none⟩ = some (.int .i64 (V4 : Int)) := p3.cell 3
    have s4 : w3.cell? ⟨w2.heap.size, 4, none⟩ = some (.int .i64 (V5 : Int)) := p3.cell 4
    have s5 : w3.cell? ⟨w2.heap.size, 5, none⟩ = some (.string D) := p3.cell 5
    have r0 : w3.cell? ⟨w.heap.size, 0, none⟩ = some (.int .i64 0) := q3.cell 0
    have r1 : w3.cell? ⟨w.heap.size, 1, none⟩ = some (.int .i64 0) := q3.cell 1
    have r2 : w3.cell? ⟨w.heap.size, 2, none⟩ = some (.int .i64 0) := q3.cell 2
    have r3 : w3.cell? ⟨w.heap.size, 3, none⟩ = some (.int .i64 0) := q3.cell 3
    have r4 : w3.cell? ⟨w.heap.size, 4, none⟩ = some (.int .i64 0) := q3.cell 4
    have r5 : w3.cell? ⟨w.heap.size, 5, none⟩ = some (.string ⟨#[]⟩) := q3.cell 5
    have r6 : w3.cell? ⟨w.heap.size, 6, none⟩ = some (.int .i64 0) := q3.cell 6
    have f0 := q3.frozen 0
    have f1 := q3.frozen 1
    have f2 := q3.frozen 2
    have f3 := q3.frozen 3
    have f4 := q3.frozen 4
    have f5 := q3.frozen 5
    have f6 := q3.frozen 6
    clear q3 p3 HY
    go_wp2_with fail
    refine bodyPost_ret (v := dOut V1 V2 V3 V4 V5 D 0) (by simp [results, Try.results31, go_sem, dOut, r0, r1, r2, r3, r4, r5, r6]) rfl ⟨rfl, ?_⟩
    exact ((((((hB3.setCell (Nat.le_refl _) _).setCell (Nat.le_refl _) _).setCell (Nat.le_refl _) _).setCell (Nat.le_refl _) _).setCell (Nat.le_refl _) _).setCell (Nat.le_refl _) _).setCell (Nat.le_refl _) _
  · have hne := text_ne he
    clear he p3
    go_wp2_with fail
    refine (HY.out _).mono ?_
    rintro e w4 ⟨rfl, hb4⟩
    have hB4 := after_next hB3 hb4 hB3.size
    have q4 := q3.below hb4 q3.lt
    have r0 : w4.cell? ⟨w.heap.size, 0, none⟩ = some (.int .i64 0) := q4.cell 0
    have r1 : w4.cell? ⟨w.heap.size, 1, none⟩ = some (.int .i64 0) := q4.cell 1
    have r2 : w4.cell? ⟨w.heap.size, 2, none⟩ = some (.int .i64 0) := q4.cell 2
    have r3 : w4.cell? ⟨w.heap.size, 3, none⟩ = some (.int .i64 0) := q4.cell 3
    have r4 : w4.cell? ⟨w.heap.size, 4, none⟩ = some (.int .i64 0) := q4.cell 4
    have r5 : w4.cell? ⟨w.heap.size, 5, none⟩ = some (.string ⟨#[]⟩) := q4.cell 5
    have r6 : w4.cell? ⟨w.heap.size, 6, none⟩ = some (.int .i64 0) := q4.cell 6
    have f0 := q4.frozen 0
    have f1 := q4.frozen 1
    have f2 := q4.frozen 2
    have f3 := q4.frozen 3
    have f4 := q4.frozen 4
    have f5 := q4.frozen 5
    have f6 := q4.frozen 6
    clear q4 q3 HY hb4 hB3
    go_wp2_with fail
    refine bodyPost_ret (v := dOut 0 0 0 0 0 ByteArray.empty C) (by simp [results, Try.results31, go_sem, dOut, r0, r1, r2, r3, r4, r5, r6]; rfl) rfl ⟨rfl, ?_⟩
    exact ((((((hB4.setCell (Nat.le_refl _) _).setCell (Nat.le_refl _) _).setCell (Nat.le_refl _) _).setCell (Nat.le_refl _) _).setCell (Nat.le_refl _) _).setCell (Nat.le_refl _) _).setCell (Nat.le_refl _) _
set_option maxRecDepth 100000 in
theorem implDgramRead_any (t : ByteArray) (w : World) (hz : t.size ≤ 1048576) :
    Calls Try.prog 31 #[.string t] w fun e w' => e = .returned (dgRead t) ∧ Below w.heap.size w w' := by
  by_cases h1 : 8000 < t.size
  · rw [dgRead_out t h1]
    go_enter Try.func31, Try.ntmps31
    go_wp2
    refine bodyPost_ret (v := dOut 0 0 0 0 0 ByteArray.empty 2) (by simp [results, Try.results31, go_sem, dOut]; rfl) rfl ⟨rfl, ?_⟩
    exact (Below.refl _ _).alloc (Nat.le_refl _) _
  · by_cases h2 : t.size < 28
    · rw [dgRead_short t h2]
      go_enter Try.func31, Try.ntmps31
      go_wp2
      refine bodyPost_ret (v := dOut 0 0 0 0 0 ByteArray.empty 4) (by simp [results, Try.results31, go_sem, dOut]; rfl) rfl ⟨rfl, ?_⟩
      exact (Below.refl _ _).alloc (Nat.le_refl _) _
    · by_cases he : dgOf t = t
      · exact implDgramRead_in t w (by omega) (by omega) _ (.inl ⟨he, dgRead_good t (by omega) (by omega) he⟩)
      · exact implDgramRead_in t w (by omega) (by omega) _ (.inr ⟨he, dgRead_bad t (by omega) (by omega) he⟩)
end Go.Proofs.Ytchgnjpbjnkdmaa
