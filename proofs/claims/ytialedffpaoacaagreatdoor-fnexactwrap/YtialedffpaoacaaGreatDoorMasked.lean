/- Keys in the length of a block, masked, of the program and of the model. -/
import Derived.Test.YtialedffpaoacaaGreatDoorDigestI
import Derived.Test.YtialedffpaoacaaGreatDoorDigestS
import Derived.Test.YtialedffpaoacaaGreatDoorJoined
namespace Go.Proofs.YtialedffpaoacaaGreatDoor
open Go.RowKit

theorem xor_u8 (a m : UInt8) : bits .xor .u8 (a.toNat : Int) (m.toNat : Int) = ((a ^^^ m).toNat : Int) := by
  have ha := a.toNat_lt
  have hm := m.toNat_lt
  rw [u8_xor_nat _ _ (by omega) (by omega)]
  simp
/-- The first k bytes masked. -/
def maskTo (l : List UInt8) (m : UInt8) (k : Nat) : List UInt8 := (l.take k).map (· ^^^ m) ++ l.drop k
theorem maskTo_length (l : List UInt8) (m : UInt8) (k : Nat) (h : k ≤ l.length) : (maskTo l m k).length = l.length := by simp [maskTo]; omega
theorem maskTo_get (l : List UInt8) (m : UInt8) (k : Nat) (h : k < l.length) : (maskTo l m k).getD k 0 = l.getD k 0 := by
  have hl : ((l.take k).map (· ^^^ m)).length = k := by simp; omega
  simp only [maskTo, List.getD_eq_getElem?_getD]
  rw [List.getElem?_append_right (by omega), hl]
  simp
theorem maskTo_set (l : List UInt8) (m : UInt8) (k : Nat) (h : k < l.length) : (maskTo l m k).set k (l.getD k 0 ^^^ m) = maskTo l m (k + 1) := by
  have hl : ((l.take k).map (· ^^^ m)).length = k := by simp; omega
  unfold maskTo
  rw [List.set_append, if_neg (by omega), hl, Nat.sub_self, List.drop_eq_getElem_cons h, List.set_cons_zero, List.take_succ_eq_append_getElem h, List.map_append]
  simp only [List.getD_eq_getElem?_getD, List.getElem?_eq_getElem h, Option.getD_some, List.map_cons, List.map_nil, List.append_assoc, List.singleton_append]
theorem maskTo_all (l : List UInt8) (m : UInt8) : maskTo l m l.length = l.map (· ^^^ m) := by simp [maskTo]
set_option maxRecDepth 100000 in
set_option maxHeartbeats 1000000 in
theorem implMasked_any (t : ByteArray) (m : UInt8) (M : Int) (hM : M = (m.toNat : Int)) (w : World) (hz : t.size ≤ 100000) :
    Calls Tryz.prog 202 #[.string t, .int .u8 M] w fun e w' => e = .returned (.string ⟨(t.data.toList.map (· ^^^ m)).toArray⟩) ∧ Below w.heap.size w w' := by
  subst hM
  obtain ⟨v0, w0, hconv, hown0, hbel0, hsz0⟩ := bytes_made (P := Tryz.prog) w 9 150 5 t Tryz.underlying9 Tryz.underlying150 Tryz.underlying5 w.heap.size (Nat.le_refl _) (by unfold maxLen; omega)
  have hz1 : t.data.toList.length = t.size := by simp
  obtain ⟨g, cap, hv, hg0, hg, hcap, _⟩ := hown0.form
  rw [cellsB_length, hz1] at hv
  subst hv
  have HA : Hid (maskTo t.data.toList m t.size = t.data.toList.map (· ^^^ m)) := by have := maskTo_all t.data.toList m; rwa [hz1] at this
  have hown1 : OwnM w0 w.heap.size 5 (.slice (some ⟨g, 0, none⟩) t.size cap) (cellsB (maskTo t.data.toList m 0)) := hown0
  clear hown0
  generalize hR : t.data.toList.map (· ^^^ m) = R at *
  clear hR
  go_enter Tryz.func202, Tryz.ntmps202
  go_wp2_with fail
  go_loopw [11] (fun i wr => ∃ k : Nat, k ≤ t.size ∧ i = .int .i64 k ∧ OwnM wr w.heap.size 5 (.slice (some ⟨g, 0, none⟩) t.size cap) (cellsB (maskTo t.data.toList m k)) ∧ Below w.heap.size w wr) (fun i _ => t.size - (intOf i).toNat)
  case atStart => exact ⟨0, by omega, rfl, hown1, hbel0⟩
  case round =>
    clear hown1 hbel0 hconv
    obtain ⟨k, hk, rfl, hown, hbel⟩ := hrel
    have hlk := maskTo_length t.data.toList m k (by omega)
    by_cases hlt : k < t.size
    · have c1 := hown.cell k (by rw [cellsB_length]; omega)
      have f1 := hown.frozen k (by rw [cellsB_length]; omega)
      rw [cellsB_get _ _ (by omega), maskTo_get _ _ _ (by omega)] at c1
      have HS := maskTo_set t.data.toList m k (by omega)
      have HX : Hid _ := xor_u8 (t.data.toList.getD k 0) m
      generalize t.data.toList.getD k 0 = x at *
      go_wp2_with fail
      go_roundw
      case rel =>
        refine ⟨k + 1, by omega, by go_num, ?_, hbel.setCell hg0 _⟩
        have h := hown.set k (.int .u8 ((x ^^^ m).toNat : Int))
        rw [cellsB_set, HS, ← HX.out] at h
        exact h
      case measure => simp [intOf]; omega
    · obtain rfl : k = t.size := by omega
      rw [HA.out] at hown
      have hc := hown.text (P := Tryz.prog) 150 9 Tryz.underlying150 Tryz.underlying5 Tryz.underlying9
      go_wp2
      go_ret
      exact ⟨rfl, hbel⟩
theorem zero_text (n : Nat) : (⟨(List.replicate n (0 : UInt8)).toArray⟩ : ByteArray).size = n := by show (List.replicate n (0 : UInt8)).toArray.size = n; simp
/-- The key in the length of a block. -/
def wholeT (key : ByteArray) : ByteArray := ⟨(keyN key.data.toList ++ List.replicate (64 - (keyN key.data.toList).length) 0).toArray⟩
theorem wholeT_size (key : ByteArray) : (wholeT key).size = 64 := by
  have := keyN_length key.data.toList
  show (keyN key.data.toList ++ List.replicate (64 - (keyN key.data.toList).length) 0).toArray.size = 64
  simp; omega
set_option maxRecDepth 100000 in
set_option maxHeartbeats 1000000 in
theorem implKey_any (key : ByteArray) (w : World) (hz : key.size ≤ 8000) (hL : Laid w) :
    Calls Tryz.prog 200 #[.string key] w fun e w' => e = .returned (.string (wholeT key)) ∧ Below w.heap.size w w' := by
  have hz1 : key.data.toList.length = key.size := by simp
  by_cases h : key.size ≤ 64
  · have HW : Hid (key ++ ⟨(List.replicate (64 - key.size) (0 : UInt8)).toArray⟩ = wholeT key) := by
      show _ = _
      unfold wholeT keyN
      rw [if_pos (by omega)]
      apply ByteArray.ext
      simp
    generalize wholeT key = WK at *
    go_enter Tryz.func200, Tryz.ntmps200
    go_wp2_with (at_make; refine wpList_make_bytes rfl _ _ 150 rfl 5 Tryz.underlying150 Tryz.infoB _ (64 - key.size) rfl rfl ?_ ?_ w.heap.size w (Below.refl _ _) (Nat.le_refl _) ?_)
    · omega
    · omega
    · intro w1 hr1 hb1 hs1
      have hconv := hr1.conv (n := 64 - key.size) ⟨(List.replicate (64 - key.size) 0).toArray⟩ rfl (zero_text _).symm (by omega)
      have hzs := zero_text (64 - key.size)
      generalize (⟨(List.replicate (64 - key.size) (0 : UInt8)).toArray⟩ : ByteArray) = Z at *
      go_wp2_with fail
      refine (joined_any key Z _ (by omega) (by omega)).mono ?_
      rintro e w2 ⟨rfl, hb2⟩
      rw [HW.out]
      go_wp2
      go_ret
      exact ⟨rfl, hb1.trans (hb2.mono hb1.size)⟩
  · have HW : Hid (digestT key ++ ⟨(List.replicate 32 (0 : UInt8)).toArray⟩ = wholeT key) := by
      show _ = _
      unfold wholeT keyN digestT
      rw [if_neg (by omega), digestN_length]
      apply ByteArray.ext
      simp
    have hds := digestT_size key
    generalize wholeT key = WK at *
    go_enter Tryz.func200, Tryz.ntmps200
    go_wp2_with fail
    refine (implDigest_in key _ (by omega) hL).mono ?_
    rintro e w0 ⟨rfl, hb0⟩
    generalize digestT key = DK at *
    go_wp2_with (at_make; refine wpList_make_bytes rfl _ _ 150 rfl 5 Tryz.underlying150 Tryz.infoB _ 32 rfl rfl ?_ ?_ w0.heap.size w0 (Below.refl _ _) (Nat.le_refl _) ?_)
    · omega
    · omega
    · intro w1 hr1 hb1 hs1
      have hconv := hr1.conv (n := 32) ⟨(List.replicate 32 0).toArray⟩ rfl (zero_text _).symm (by omega)
      have hzs := zero_text 32
      generalize (⟨(List.replicate 32 (0 : UInt8)).toArray⟩ : ByteArray) = Z at *
      go_wp2_with fail
      refine (joined_any DK Z _ (by omega) (by omega)).mono ?_
      rintro e w2 ⟨rfl, hb2⟩
      rw [HW.out]
      go_wp2
      go_ret
      exact ⟨rfl, hb0.trans ((hb1.trans (hb2.mono hb1.size)).mono hb0.size)⟩
end Go.Proofs.YtialedffpaoacaaGreatDoor
