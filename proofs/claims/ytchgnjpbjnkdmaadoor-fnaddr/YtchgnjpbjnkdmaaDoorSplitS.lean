/- Pieces of a text, of the model: l01Split. -/
import Derived.Test.YtchgnjpbjnkdmaaDoorAddrTxt
import Derived.Test.YtchgnjpbjnkdmaaDoorBaseB
import Derived.Test.YtchgnjpbjnkdmaaDoorOwnV
namespace Go.Proofs.YtchgnjpbjnkdmaaDoor
open Go.RowKit

theorem Tryd.infoT : (Tryd.prog.info? 9).map (fun i => (i.zero, i.size, i.bytes)) = some (some (.string ByteArray.empty), 1, 16) := by kernel_rfl
def texts (ps : List (List UInt8)) : List Value := ps.map fun p => .string ⟨p.toArray⟩
theorem texts_append (a b : List (List UInt8)) : texts (a ++ b) = texts a ++ texts b := by simp [texts]
theorem texts_length (a : List (List UInt8)) : (texts a).length = a.length := by simp [texts]
theorem texts_one (a : List (List UInt8)) : ∀ u ∈ texts a, u.oneCell' = true := by
  intro v hv
  simp only [texts, List.mem_map] at hv
  obtain ⟨b, _, rfl⟩ := hv
  rfl
/-- The bytes of a text from one place to another one. -/
def mid (s : ByteArray) (a b : Nat) : List UInt8 := (s.data.toList.drop a).take (b - a)
theorem mid_text (s : ByteArray) (a b : Nat) : s.extract a b = ⟨(mid s a b).toArray⟩ := Lib.extract_eq s a b
theorem mid_next (s : ByteArray) (a b : Nat) (hab : a ≤ b) (hb : b < s.size) : mid s a (b + 1) = mid s a b ++ [s[b]] := by
  unfold mid
  have h1 : b + 1 - a = (b - a) + 1 := by omega
  have h2 : b - a < (s.data.toList.drop a).length := by simp; omega
  rw [h1, List.take_succ_eq_append_getElem h2]
  congr 1
  simp only [List.getElem_drop, show a + (b - a) = b by omega]
  rfl
theorem mid_same (s : ByteArray) (a : Nat) : mid s a a = [] := by unfold mid; simp
theorem spF_at (c : UInt8) (s : ByteArray) (a k : Nat) (hk : k < s.size) (hak : a ≤ k) :
    spF c (mid s a k) (s.data.toList.drop k) = if s[k] = c then mid s a k :: spF c (mid s (k + 1) (k + 1)) (s.data.toList.drop (k + 1)) else spF c (mid s a (k + 1)) (s.data.toList.drop (k + 1)) := by
  rw [List.drop_eq_getElem_cons (by simpa using hk), mid_same, mid_next s a k hak hk]
  rfl
set_option maxRecDepth 100000 in
theorem l01Split_any (s : ByteArray) (c : UInt8) (w : World) (hs : s.size ≤ 1048576) :
    Calls Tryd.prog 38 #[.string s, .int .u8 (c.toNat : Int)] w fun e w' => ∃ v, e = .returned v ∧ Own w' w.heap.size 9 v (texts (spF c [] s.data.toList)) ∧ Below w.heap.size w w' := by
  have H0 : Hid ([] ++ spF c (mid s 0 0) (s.data.toList.drop 0) = spF c [] s.data.toList) := by show _ = _; rw [mid_same]; rfl
  have HL : Hid (∀ done rest : List (List UInt8), done ++ rest = spF c [] s.data.toList → done.length ≤ 1048577) := fun done rest h => by
    have h1 := spF_length_le c s.data.toList []
    rw [← h, show s.data.toList.length = s.size by simp] at h1
    simp at h1
    omega
  have HE : Hid (∀ a, spF c (mid s a s.size) (s.data.toList.drop s.size) = [mid s a s.size]) := fun a => by
    show _ = _
    rw [List.drop_of_length_le (by simp)]; rfl
  have HA : Hid _ := spF_at c s
  generalize spF c [] s.data.toList = R at *
  go_enter Tryd.func38, Tryd.ntmps38
  go_wp2_with fail
  go_loopw [5, 6, 7] (fun v f i wr => ∃ (a k : Nat) (done : List (List UInt8)), a ≤ k ∧ k ≤ s.size ∧ f = .int .i64 (a : Int) ∧ i = .int .i64 (k : Int) ∧ Own wr w.heap.size 9 v (texts done) ∧ Hid (done ++ spF c (mid s a k) (s.data.toList.drop k) = R) ∧ Below w.heap.size w wr) (fun _ _ i _ => s.size - (intOf i).toNat)
  case atStart => exact ⟨0, 0, [], by omega, by omega, rfl, rfl, Own.made w w.heap.size 9 (Nat.le_refl _), H0, (Below.refl _ _).alloc (Nat.le_refl _) _⟩
  case round =>
    obtain ⟨a, k, done, hak, hk, rfl, rfl, hown, HI, hb⟩ := hrel
    by_cases hlt : k < s.size
    · have hA := HA.out a k hlt hak
      have HAA : Hid _ := hA
      clear hA
      by_cases hc : s[k] = c
      · have hcb : ((s[k].toNat : Int) == (c.toNat : Int)) = true := by rw [hc]; simp
        have HN : Hid ((done ++ [mid s a k]) ++ spF c (mid s (k + 1) (k + 1)) (s.data.toList.drop (k + 1)) = R) := by
          show _ = _
          rw [← HI.out, HAA.out, if_pos hc]; simp
        have hl := HL.out done _ HI.out
        have hmt := mid_text s a k
        have hbs := hb.size
        clear hc HAA
        go_wp2_with (at_builtin; refine wpList_append_vals rfl _ _ 47 rfl w.heap.size 9 Tryd.underlying47 (.string ByteArray.empty) rfl 16 (by omega) Tryd.infoT _ (texts done) (texts [mid s a k]) rfl (hown.alloc _) wr.heap.size 1 rfl ?c1 ?c2 ?c3 ?c4 ?_)
        case c1 =>
          intro i u hu
          exact ((Row.new wr 9 (texts [mid s a k])).cell i).trans hu
        case c2 => exact texts_one _
        case c3 => simp [texts_length]; omega
        case c4 => simp; omega
        · intro v' w4 hown4 hbel4
          rw [← texts_append] at hown4
          go_wp2
          go_roundw
          case rel => exact ⟨k + 1, k + 1, done ++ [mid s a k], by omega, by omega, by go_num, by go_num, hown4, HN, (hb.alloc hbs _).trans hbel4⟩
          case measure => simp [intOf]; omega
      · have hcb : ((s[k].toNat : Int) == (c.toNat : Int)) = false := by
          have : s[k].toNat ≠ c.toNat := fun e => hc (UInt8.toNat_inj.1 e)
          simp; omega
        have HN : Hid (done ++ spF c (mid s a (k + 1)) (s.data.toList.drop (k + 1)) = R) := by
          show _ = _
          rw [← HI.out, HAA.out, if_neg hc]
        clear hc HAA
        go_wp2
        go_roundw
        case rel => exact ⟨a, k + 1, done, by omega, by omega, rfl, by go_num, hown, HN, hb⟩
        case measure => simp [intOf]; omega
    · obtain rfl : k = s.size := by omega
      have HN : Hid (done ++ [mid s a s.size] = R) := by show _ = _; rw [← HI.out, HE.out]
      have hl := HL.out done _ HI.out
      have hmt := mid_text s a s.size
      have hbs := hb.size
      go_wp2_with (at_builtin; refine wpList_append_vals rfl _ _ 47 rfl w.heap.size 9 Tryd.underlying47 (.string ByteArray.empty) rfl 16 (by omega) Tryd.infoT _ (texts done) (texts [mid s a s.size]) rfl (hown.alloc _) wr.heap.size 1 rfl ?c1 ?c2 ?c3 ?c4 ?_)
      case c1 =>
        intro i u hu
        exact ((Row.new wr 9 (texts [mid s a s.size])).cell i).trans hu
      case c2 => exact texts_one _
      case c3 => simp [texts_length]; omega
      case c4 => simp; omega
      · intro v' w4 hown4 hbel4
        rw [← texts_append, HN.out] at hown4
        go_wp2
        go_ret
        exact ⟨_, rfl, hown4, (hb.alloc hbs _).trans hbel4⟩
end Go.Proofs.YtchgnjpbjnkdmaaDoor
