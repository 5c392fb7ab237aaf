/- Two texts put together by copy. -/
import Derived.Test.YtialedffpaoacaaGreatDoorBaseB
namespace Go.Proofs.YtialedffpaoacaaGreatDoor
open Go.RowKit

theorem over_two (a b : List UInt8) : overB (overB (List.replicate (a.length + b.length) 0) 0 a) a.length b = a ++ b := by
  simp [overB]
theorem bytes_append (a b : ByteArray) : (⟨(a.data.toList ++ b.data.toList).toArray⟩ : ByteArray) = a ++ b := by
  apply ByteArray.ext; simp
set_option maxRecDepth 100000 in
theorem joined_any (a b : ByteArray) (w : World) (ha : a.size ≤ 10000000) (hb : b.size ≤ 10000000) :
    Calls Tryz.prog 146 #[.string a, .string b] w fun e w' => e = .returned (.string (a ++ b)) ∧ Below w.heap.size w w' := by
  have hsum : (a ++ b).size = a.size + b.size := by simp
  have HJ : Hid (overB (overB (List.replicate (a.size + b.size) 0) 0 a.data.toList) a.size b.data.toList = (a ++ b).data.toList) := by
    have h1 : a.data.toList.length = a.size := by simp
    have h2 := over_two a.data.toList b.data.toList
    rw [h1, show b.data.toList.length = b.size by simp] at h2
    show _ = _
    rw [h2]; simp
  by_cases hb0 : b = ByteArray.empty
  · subst hb0
    have HA : Hid (a ++ ByteArray.empty = a) := by show _ = _; simp
    go_enter Tryz.func146, Tryz.ntmps146
    go_wp2_with (at_make; refine wpList_make_bytes rfl _ _ 150 rfl 5 Tryz.underlying150 Tryz.infoB _ a.size rfl rfl ?_ ?_ w.heap.size w (Below.refl _ _) (Nat.le_refl _) ?_)
    · simp
    · omega
    · intro w1 hr1 hb1 hs1
      obtain ⟨w2, hr2, hb2, hs2, hrun2⟩ := copy_text_run (P := Tryz.prog) 150 9 3 5 Tryz.underlying150 Tryz.infoS (some ⟨w.heap.size, 0, none⟩) a.size a.size a 0 hr1 (by omega) (fun _ => rfl) (by simp) hb1 (Nat.le_refl _)
      have hrun3 := run_copy_text_none (P := Tryz.prog) w2 150 9 3 5 (some ⟨w.heap.size, 0, none⟩) 0 0 ByteArray.empty Tryz.underlying150 Tryz.infoS rfl
      have hconv := hr2.conv a (by simp [overB]) (n := a.size) rfl (by omega)
      clear hr1 hr2 hb1 hs2 hs1 hsum HJ
      go_wp2
      go_ret
      exact ⟨by rw [HA.out]; rfl, hb2⟩
  · have hb1 : 0 < b.size := by
      rcases Nat.eq_zero_or_pos b.size with h | h
      · exact absurd (by apply ByteArray.ext; apply Array.toList_inj.1; simpa using List.eq_nil_of_length_eq_zero (l := b.data.toList) (by simpa using h)) hb0
      · exact h
    go_enter Tryz.func146, Tryz.ntmps146
    go_wp2_with (at_make; refine wpList_make_bytes rfl _ _ 150 rfl 5 Tryz.underlying150 Tryz.infoB _ (a.size + b.size) rfl rfl ?_ ?_ w.heap.size w (Below.refl _ _) (Nat.le_refl _) ?_)
    · omega
    · omega
    · intro w1 hr1 hb1 hs1
      obtain ⟨w2, hr2, hb2, hs2, hrun2⟩ := copy_text_run (P := Tryz.prog) 150 9 3 5 Tryz.underlying150 Tryz.infoS (some ⟨w.heap.size, 0, none⟩) (a.size + b.size) (a.size + b.size) a 0 hr1 (by omega) (fun _ => rfl) (by simp) hb1 (Nat.le_refl _)
      obtain ⟨w3, hr3, hb3, hs3, hrun3⟩ := copy_text_run (P := Tryz.prog) 150 9 3 5 Tryz.underlying150 Tryz.infoS (some ⟨w.heap.size, a.size, none⟩) b.size b.size b a.size hr2 (by omega) (fun _ => rfl) (by rw [overB_length] <;> simp) hb2 (Nat.le_refl _)
      have hconv := hr3.conv (a ++ b) HJ.out (n := a.size + b.size) hsum.symm (by omega)
      clear hr1 hr2 hr3 hb1 hb2 hs2 hs3 hs1 hsum HJ
      go_wp2
      go_ret
      exact ⟨rfl, hb3⟩
end Go.Proofs.YtialedffpaoacaaGreatDoor
