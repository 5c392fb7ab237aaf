/- FrameRead of the program. -/
import Derived.Test.YtchgnjpbjnkdmaaFReadM
import Derived.Test.YtchgnjpbjnkdmaaFrameI
import Derived.Test.YtchgnjpbjnkdmaaTextB
namespace Go.Proofs.Ytchgnjpbjnkdmaa
open Go.RowKit

set_option maxRecDepth 100000 in
set_option maxHeartbeats 1000000 in
theorem implFrameRead_in (t : ByteArray) (w : World) (h : 18 ≤ t.size) (h8 : t.size ≤ 8000) (v : Value) (hv : frO (vlN t) (dtF t) = t ∧ v = frOut (vlN t) (dtF t) 0 ∨ frO (vlN t) (dtF t) ≠ t ∧ v = frOut 0 ByteArray.empty 3) :
    Calls Try.prog 32 #[.string t] w fun e w' => e = .returned v ∧ Below w.heap.size w w' := by
  have hts : t.data.toList.length = t.size := by simp
  obtain ⟨g, cap, w1, hrun, hcap, hB1, hg0, hg1, hb1⟩ := text_bytes (w.alloc (.cells #[.int .i64 0, .string ⟨#[]⟩, .int .i64 0] 52)) t
  have hl1 : ((t.data.toList.take 16).drop 14).length = 2 := by simp; omega
  have HP1 : Hid (∀ w, Calls Try.prog 70 #[.slice (some ⟨g, 0, none⟩) t.size cap, .int .i64 14, .int .i64 16] w fun e w' => e = .returned (.slice (some ⟨g, 14, none⟩) 2 2) ∧ w = w') := fun w => piece_any g 0 t.size cap 14 16 w (by omega) (by omega)
  have hBa := hB1.piece 14 16 (by omega) (by omega)
  have HN : Hid (∀ w, BytesIn w g 14 ((t.data.toList.take 16).drop 14) → Calls Try.prog 69 #[.slice (some ⟨g, 14, none⟩) 2 2] w fun e w' => e = .returned (.int .i64 (vlN t : Int)) ∧ w = w') := fun w hB => by
    have := numberOf_any ((t.data.toList.take 16).drop 14) g 14 2 w (by omega) hB
    rw [hl1] at this
    exact this
  have HP2 : Hid (∀ w, Calls Try.prog 70 #[.slice (some ⟨g, 0, none⟩) t.size cap, .int .i64 18, .int .i64 (t.size : Int)] w fun e w' => e = .returned (.slice (some ⟨g, if t.size = 18 then 0 else 0 + 18, none⟩) (t.size - 18) (t.size - 18)) ∧ w = w') := fun w => piece_any g 0 t.size cap 18 t.size w (by omega) (by omega)
  have hBb := hB1.piece 18 t.size (by omega) (by omega)
  have hc2 := bytes_text w1 g _ (t.size - 18) _ (t.size - 18) (by simp) hBb
  have hdt : (⟨((t.data.toList.take t.size).drop 18).toArray⟩ : ByteArray) = dtF t := by
    apply ByteArray.ext; apply Array.toList_inj.1; unfold dtF; rw [extract_list]
  rw [hdt] at hc2
  have HF : Hid (∀ w, Calls Try.prog 28 #[.agg #[.int .i64 (vlN t : Int), .string (dtF t)]] w fun e w' => e = .returned (.string (frO (vlN t) (dtF t))) ∧ Below w.heap.size w w') := implFrameBytes_any _ _
  have hBw : Below w.heap.size w w1 := (new_below w _).trans (hb1.mono (by simp))
  have q : Row w1 w.heap.size 52 [.int .i64 0, .string ⟨#[]⟩, .int .i64 0] := (Row.new w 52 [.int .i64 0, .string ⟨#[]⟩, .int .i64 0]).below hb1 (by simp)
  clear hB1 hBb hdt hl1
  generalize (if t.size = 18 then 0 else 0 + 18) = o2 at *
  generalize t.size - 18 = n2 at *
  generalize vlN t = V at *
  generalize dtF t = D at *
  rcases hv with ⟨he, rfl⟩ | ⟨he, rfl⟩
  · have HE : Hid (frO V D = t) := he
    clear he
    go_enter Try.func32, Try.ntmps32
    go_wp2_with fail
    refine (HP1.out _).mono ?_
    rintro e w2 ⟨rfl, rfl⟩
    go_wp2_with fail
    refine (HN.out _ hBa).mono ?_
    rintro e w2 ⟨rfl, rfl⟩
    clear HP1 HN hBa
    go_wp2_with fail
    refine (HP2.out _).mono ?_
    rintro e w2 ⟨rfl, rfl⟩
    go_wp2_with fail
    refine (HF.out _).mono ?_
    rw [HE.out]
    rintro e w2 ⟨rfl, hb2⟩
    obtain ⟨k0, k1⟩ := (TwoAt.new w1 (.int .i64 (V : Int)) (.string D) 43).below hb2
    have hB2 := after_next (hBw.alloc hBw.size (.cells #[.int .i64 (V : Int), .string D] 43)) hb2 (by have := hBw.size; simp; omega)
    have q2 := (q.alloc (.cells #[.int .i64 (V : Int), .string D] 43)).below hb2 (by have := hBw.size; simp; omega)
    have r0 : w2.cell? ⟨w.heap.size, 0, none⟩ = some (.int .i64 0) := q2.cell 0
    have r1 : w2.cell? ⟨w.heap.size, 1, none⟩ = some (.string ⟨#[]⟩) := q2.cell 1
    have r2 : w2.cell? ⟨w.heap.size, 2, none⟩ = some (.int .i64 0) := q2.cell 2
    have f0 := q2.frozen 0
    have f1 := q2.frozen 1
    have f2 := q2.frozen 2
    clear q2 q hb2 hc2 hrun HP2 HF
    go_wp2_with fail
    refine bodyPost_ret (v := frOut V D 0) (by simp [results, Try.results32, go_sem, frOut, r0, r1, r2]) rfl ⟨rfl, ?_⟩
    exact ((hB2.setCell (Nat.le_refl _) _).setCell (Nat.le_refl _) _).setCell (Nat.le_refl _) _
  · have hne := text_ne he
    clear he
    generalize frO V D = Z at *
    go_enter Try.func32, Try.ntmps32
    go_wp2_with fail
    refine (HP1.out _).mono ?_
    rintro e w2 ⟨rfl, rfl⟩
    go_wp2_with fail
    refine (HN.out _ hBa).mono ?_
    rintro e w2 ⟨rfl, rfl⟩
    clear HP1 HN hBa
    go_wp2_with fail
    refine (HP2.out _).mono ?_
    rintro e w2 ⟨rfl, rfl⟩
    go_wp2_with fail
    refine (HF.out _).mono ?_
    rintro e w2 ⟨rfl, hb2⟩
    obtain ⟨k0, k1⟩ := (TwoAt.new w1 (.int .i64 (V : Int)) (.string D) 43).below hb2
    have hB2 := after_next (hBw.alloc hBw.size (.cells #[.int .i64 (V : Int), .string D] 43)) hb2 (by have := hBw.size; simp; omega)
    have q2 := (q.alloc (.cells #[.int .i64 (V : Int), .string D] 43)).below hb2 (by have := hBw.size; simp; omega)
    have r0 : w2.cell? ⟨w.heap.size, 0, none⟩ = some (.int .i64 0) := q2.cell 0
    have r1 : w2.cell? ⟨w.heap.size, 1, none⟩ = some (.string ⟨#[]⟩) := q2.cell 1
    have r2 : w2.cell? ⟨w.heap.size, 2, none⟩ = some (.int .i64 0) := q2.cell 2
    have f0 := q2.frozen 0
    have f1 := q2.frozen 1
    have f2 := q2.frozen 2
    clear q2 q hb2 hc2 hrun HP2 HF
    go_wp2_with fail
    refine bodyPost_ret (v := frOut 0 ByteArray.empty 3) (by simp [results, Try.results32, go_sem, frOut, r0, r1, r2]; rfl) rfl ⟨rfl, ?_⟩
    exact ((hB2.setCell (Nat.le_refl _) _).setCell (Nat.le_refl _) _).setCell (Nat.le_refl _) _
set_option maxRecDepth 100000 in
theorem implFrameRead_any (t : ByteArray) (w : World) (hz : t.size ≤ 1048576) :
    Calls Try.prog 32 #[.string t] w fun e w' => e = .returned (frRead t) ∧ Below w.heap.size w w' := by
  by_cases h1 : 8000 < t.size
  · rw [frRead_out t h1]
    go_enter Try.func32, Try.ntmps32
    go_wp2
    refine bodyPost_ret (v := frOut 0 ByteArray.empty 2) (by simp [results, Try.results32, go_sem, frOut]; rfl) rfl ⟨rfl, ?_⟩
    exact (Below.refl _ _).alloc (Nat.le_refl _) _
  · by_cases h2 : t.size < 18
    · rw [frRead_short t h2]
      go_enter Try.func32, Try.ntmps32
      go_wp2
      refine bodyPost_ret (v := frOut 0 ByteArray.empty 4) (by simp [results, Try.results32, go_sem, frOut]; rfl) rfl ⟨rfl, ?_⟩
      exact (Below.refl _ _).alloc (Nat.le_refl _) _
    · by_cases he : frO (vlN t) (dtF t) = t
      · exact implFrameRead_in t w (by omega) (by omega) _ (.inl ⟨he, frRead_good t (by omega) (by omega) he⟩)
      · exact implFrameRead_in t w (by omega) (by omega) _ (.inr ⟨he, frRead_bad t (by omega) (by omega) he⟩)
end Go.Proofs.Ytchgnjpbjnkdmaa
