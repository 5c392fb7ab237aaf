/- AddrRead of the program. -/
import Derived.Test.YtchgnjpbjnkdmaaDoorAddrOf
import Derived.Test.YtchgnjpbjnkdmaaDoorReadA
namespace Go.Proofs.YtchgnjpbjnkdmaaDoor
open Go.RowKit Go.Sort

set_option maxRecDepth 100000 in
theorem implAddrRead_any (s : ByteArray) (w : World) (hM : MaxI w) (hs : s.size ≤ 1048576) :
    Calls Tryd.prog 12 #[.string s] w fun e w' => e = .returned (numO (readA s).1 0 (readA s).2) ∧ Below w.heap.size w w' := by
  by_cases hz : 8000 < s.size
  · rw [readA_big hz]
    unfold numO
    go_enter Tryd.func12, Tryd.ntmps12
    go_wp2
    refine bodyPost_ret (v := .agg #[.int .i64 0, .int .i64 0, .int .i64 2]) (by simp [results, Tryd.results12, go_sem]) rfl ⟨rfl, (Below.refl _ _).alloc (Nat.le_refl _) _⟩
  · have HC : Hid (∀ w, MaxI w → Calls Tryd.prog 34 #[.string s] w fun e w' => e = .returned (addrV s) ∧ Below w.heap.size w w') := fun w h => addrOf_any s w h hs
    have HM : Hid (MaxI w) := hM
    clear hM
    cases hr : addrR s.data.toList with
    | none =>
      rw [readA_none hz hr]
      rw [addrV_none hr] at HC
      unfold numO
      clear hr
      go_enter Tryd.func12, Tryd.ntmps12
      go_wp2_with fail
      refine (HC.out _ (HM.out.below ((Below.refl _ _).alloc (Nat.le_refl _) _))).mono ?_
      rintro e w1 ⟨rfl, hb1⟩
      obtain ⟨hc1, hf1⟩ := bcell hb1
      have hs1 : w.heap.size < w1.heap.size := by have := hb1.size; simp at this; omega
      have hB : Below w.heap.size w w1 := ((Below.refl _ _).alloc (Nat.le_refl _) _).trans (hb1.mono (by simp))
      go_wp2
      refine bodyPost_ret (v := .agg #[.int .i64 0, .int .i64 0, .int .i64 3]) (by simp [results, Tryd.results12, go_sem, hc1]) rfl ⟨rfl, ?_⟩
      exact ((hB.setCell (Nat.le_refl _) _).setCell (Nat.le_refl _) _).setCell (Nat.le_refl _) _
    | some a =>
      rw [readA_some hz hr]
      rw [addrV_some hr] at HC
      unfold numO
      clear hr
      go_enter Tryd.func12, Tryd.ntmps12
      go_wp2_with fail
      refine (HC.out _ (HM.out.below ((Below.refl _ _).alloc (Nat.le_refl _) _))).mono ?_
      rintro e w1 ⟨rfl, hb1⟩
      obtain ⟨hc1, hf1⟩ := bcell hb1
      have hs1 : w.heap.size < w1.heap.size := by have := hb1.size; simp at this; omega
      have hB : Below w.heap.size w w1 := ((Below.refl _ _).alloc (Nat.le_refl _) _).trans (hb1.mono (by simp))
      go_wp2
      refine bodyPost_ret (v := .agg #[.int .i64 a, .int .i64 0, .int .i64 0]) (by simp [results, Tryd.results12, go_sem, hc1]) rfl ⟨rfl, ?_⟩
      exact ((hB.setCell (Nat.le_refl _) _).setCell (Nat.le_refl _) _).setCell (Nat.le_refl _) _
end Go.Proofs.YtchgnjpbjnkdmaaDoor
