/- joined and PutText, of the model and of the program. -/
import Derived.Test.YtflgiohhkoplaadPut
namespace Go.Proofs.Ytflgiohhkoplaad
open Go.RowKit

theorem Try.infoS : (Try.prog.info? 5).map (·.size) = some 1 := by kernel_rfl
theorem over_two (a b : List UInt8) : overB (overB (List.replicate (a.length + b.length) 0) 0 a) a.length b = a ++ b := by
  simp [overB]
theorem bytes_append (a b : ByteArray) : (⟨(a.data.toList ++ b.data.toList).toArray⟩ : ByteArray) = a ++ b := by
  apply ByteArray.ext; simp

/-- A row that holds just the bytes of a text gives it. -/
theorem RowB.conv {w : World} {g n : Nat} {l : List UInt8} (t : ByteArray) (h : RowB w g 5 l) (hl : l = t.data.toList) (hn : n = t.size) (hm : n ≤ 100000000) :
    (convert 29 9 (.slice (some ⟨g, 0, none⟩) n n)).run Try.prog w = .ok (.string t) w := by
  subst hl hn
  have hz : t.data.toList.length = t.size := by simp
  have h1 := (h.own 0 t.data.toList.length (Nat.zero_le _) rfl (by rw [hz]; unfold maxLen; omega)).textAt (P := Try.prog) 29 9 Try.underlying29 Try.underlying5 Try.underlying9
  rw [hz] at h1
  rw [h1]

set_option maxRecDepth 100000 in
theorem joined_any (a b : ByteArray) (w : World) (ha : a.size ≤ 10000000) (hb : b.size ≤ 10000000) :
    Calls Try.prog 17 #[.string a, .string b] w fun e w' => e = .returned (.string (a ++ b)) ∧ Below w.heap.size w w' := by
  have hsum : (a ++ b).size = a.size + b.size := by simp
  have HJ : Hid (overB (overB (List.replicate (a.size + b.size) 0) 0 a.data.toList) a.size b.data.toList = (a ++ b).data.toList) := by
    have h1 : a.data.toList.length = a.size := by simp
    have h2 := over_two a.data.toList b.data.toList
    rw [h1, show b.data.toList.length = b.size by simp] at h2
    show _ = _
    rw [h2]; simp
  by_cases hb0 : b = ByteArray.empty
  · subst hb0
    have HA : Hid (a ++ ByteArray.empty = a) := by show _ = _; simp
    go_enter Try.func17, Try.ntmps17
    go_wp2_with (at_make; refine wpList_make_bytes rfl _ _ 29 rfl 5 Try.underlying29 Try.infoB _ a.size rfl rfl ?_ ?_ w.heap.size w (Below.refl _ _) (Nat.le_refl _) ?_)
    · simp
    · omega
    · intro w1 hr1 hb1 hs1
      obtain ⟨w2, hr2, hb2, hs2, hrun2⟩ := copy_text_run (P := Try.prog) 29 9 3 5 Try.underlying29 Try.infoS (some ⟨w.heap.size, 0, none⟩) a.size a.size a 0 hr1 (by omega) (fun _ => rfl) (by simp) hb1 (Nat.le_refl _)
      have hrun3 := run_copy_text_none (P := Try.prog) w2 29 9 3 5 (some ⟨w.heap.size, 0, none⟩) 0 0 ByteArray.empty Try.underlying29 Try.infoS rfl
      have hconv := hr2.conv a (by simp [overB]) (n := a.size) rfl (by omega)
      clear hr1 hr2 hb1 hs2 hs1 hsum HJ
      go_wp2
      go_ret
      exact ⟨by rw [HA.out]; rfl, hb2⟩
  · have hb1 : 0 < b.size := by
      rcases Nat.eq_zero_or_pos b.size with h | h
      · exact absurd (by apply ByteArray.ext; apply Array.toList_inj.1; simpa using List.eq_nil_of_length_eq_zero (l := b.data.toList) (by simpa using h)) hb0
      · exact h
    go_enter Try.func17, Try.ntmps17
    go_wp2_with (at_make; refine wpList_make_bytes rfl _ _ 29 rfl 5 Try.underlying29 Try.infoB _ (a.size + b.size) rfl rfl ?_ ?_ w.heap.size w (Below.refl _ _) (Nat.le_refl _) ?_)
    · omega
    · omega
    · intro w1 hr1 hb1 hs1
      obtain ⟨w2, hr2, hb2, hs2, hrun2⟩ := copy_text_run (P := Try.prog) 29 9 3 5 Try.underlying29 Try.infoS (some ⟨w.heap.size, 0, none⟩) (a.size + b.size) (a.size + b.size) a 0 hr1 (by omega) (fun _ => rfl) (by simp) hb1 (Nat.le_refl _)
      obtain ⟨w3, hr3, hb3, hs3, hrun3⟩ := copy_text_run (P := Try.prog) 29 9 3 5 Try.underlying29 Try.infoS (some ⟨w.heap.size, a.size, none⟩) b.size b.size b a.size hr2 (by omega) (fun _ => rfl) (by rw [overB_length] <;> simp) hb2 (Nat.le_refl _)
      have hconv := hr3.conv (a ++ b) HJ.out (n := a.size + b.size) hsum.symm (by omega)
      clear hr1 hr2 hr3 hb1 hb2 hs2 hs3 hs1 hsum HJ
      go_wp2
      go_ret
      exact ⟨rfl, hb3⟩

/-- The bytes of a text, its length ahead. -/
def putTextB (t : ByteArray) : ByteArray := if t.size ≤ 8000 then (⟨(putNumB t.size).toArray⟩ : ByteArray) ++ t else ByteArray.empty
theorem putNumB_size (n : Int) : (⟨(putNumB n).toArray⟩ : ByteArray).size ≤ 10 ∧ 1 ≤ (⟨(putNumB n).toArray⟩ : ByteArray).size := by
  have h := numB_length 9 (foldN n)
  have e : (⟨(putNumB n).toArray⟩ : ByteArray).size = (putNumB n).length := by simp [ByteArray.size]
  rw [e]; exact ⟨h.1, h.2⟩

theorem specPutText_any (t : ByteArray) (w : World) (ht : t.size ≤ 1048576) :
    Calls Try.prog 9 #[.string t] w fun e w' => e = .returned (.string (putTextB t)) ∧ Below w.heap.size w w' := by
  by_cases h : t.size ≤ 8000
  · have HP : Hid (putTextB t = (⟨(putNumB t.size).toArray⟩ : ByteArray) ++ t) := by show _ = _; simp [putTextB, h]
    have hz := putNumB_size t.size
    have HC := fun w => specPutNum_any t.size w (by omega) (by omega)
    generalize (⟨(putNumB t.size).toArray⟩ : ByteArray) = p at *
    go_enter Try.func9, Try.ntmps9
    go_wp2_with fail
    refine (HC _).mono ?_
    rintro e w1 ⟨rfl, hb1⟩
    go_wp2
    go_ret
    exact ⟨by rw [HP.out]; rfl, hb1⟩
  · have HP : Hid (putTextB t = ByteArray.empty) := by show _ = _; simp [putTextB, h]
    go_enter Try.func9, Try.ntmps9
    go_wp2
    go_ret
    exact ⟨by rw [HP.out]; rfl, Below.refl _ _⟩

theorem implPutText_any (t : ByteArray) (w : World) (ht : t.size ≤ 1048576) :
    Calls Try.prog 10 #[.string t] w fun e w' => e = .returned (.string (putTextB t)) ∧ Below w.heap.size w w' := by
  by_cases h : t.size ≤ 8000
  · have HP : Hid (putTextB t = (⟨(putNumB t.size).toArray⟩ : ByteArray) ++ t) := by show _ = _; simp [putTextB, h]
    have hz := putNumB_size t.size
    have HC := fun w => implPutNum_any t.size w (by omega) (by omega)
    generalize (⟨(putNumB t.size).toArray⟩ : ByteArray) = p at *
    go_enter Try.func10, Try.ntmps10
    go_wp2_with fail
    refine (HC _).mono ?_
    rintro e w1 ⟨rfl, hb1⟩
    go_wp2_with fail
    refine (joined_any p t _ (by omega) (by omega)).mono ?_
    rintro e w2 ⟨rfl, hb2⟩
    go_wp2
    go_ret
    exact ⟨by rw [HP.out]; rfl, hb1.trans (hb2.mono hb1.size)⟩
  · have HP : Hid (putTextB t = ByteArray.empty) := by show _ = _; simp [putTextB, h]
    go_enter Try.func10, Try.ntmps10
    go_wp2
    go_ret
    exact ⟨by rw [HP.out]; rfl, Below.refl _ _⟩

set_option maxRecDepth 100000 in
theorem fnExactPutText_walk (a0 : ByteArray) (w : World) (w0 : a0.size ≤ maxLen) :
    Calls Try.prog 4 #[.string a0] w fun e w' => e = .returned (.bool true) ∧ Below w.heap.size w w' := by
  unfold maxLen at w0
  by_cases hz : a0.size ≤ 1048576
  · go_enter Try.func4, Try.ntmps4
    go_wp2_with fail
    refine (specPutText_any a0 _ hz).mono ?_
    rintro e w1 ⟨rfl, hb1⟩
    go_wp2_with fail
    refine (implPutText_any a0 _ hz).mono ?_
    rintro e w2 ⟨rfl, hb2⟩
    go_wp2
    go_ret
    exact ⟨rfl, hb1.trans (hb2.mono hb1.size)⟩
  · go_enter Try.func4, Try.ntmps4
    go_wp2_with fail
    go_ret
    exact ⟨rfl, Below.refl _ _⟩
end Go.Proofs.Ytflgiohhkoplaad
