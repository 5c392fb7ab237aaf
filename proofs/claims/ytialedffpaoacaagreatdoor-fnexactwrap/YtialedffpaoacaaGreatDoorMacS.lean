/- Mac of the model. -/
import Derived.Test.YtialedffpaoacaaGreatDoorMacI
namespace Go.Proofs.YtialedffpaoacaaGreatDoor
open Go.RowKit

theorem over_key (l : List UInt8) : overB (List.replicate 64 0) 0 l = l ++ List.replicate (64 - l.length) 0 := by
  simp only [overB, List.take_zero, List.nil_append, Nat.zero_add, List.drop_replicate]
set_option maxRecDepth 100000 in
set_option maxHeartbeats 1000000 in
theorem specPad_any (key : ByteArray) (m : UInt8) (M : Int) (hM : M = (m.toNat : Int)) (w : World) (hz : key.size ≤ 64) :
    Calls Tryz.prog 128 #[.string key, .int .u8 M] w fun e w' => e = .returned (.string ⟨(padK key.data.toList m).toArray⟩) ∧ Below w.heap.size w w' := by
  subst hM
  have hz1 : key.data.toList.length = key.size := by simp
  have HO : Hid (overB (List.replicate 64 0) 0 key.data.toList = key.data.toList ++ List.replicate (64 - key.data.toList.length) 0) := over_key _
  have hll : (key.data.toList ++ List.replicate (64 - key.data.toList.length) (0 : UInt8)).length = 64 := by simp; omega
  have HA : Hid (maskTo (key.data.toList ++ List.replicate (64 - key.data.toList.length) 0) m 64 = padK key.data.toList m) := by
    have := maskTo_all (key.data.toList ++ List.replicate (64 - key.data.toList.length) 0) m
    rw [hll] at this
    exact this
  generalize key.data.toList ++ List.replicate (64 - key.data.toList.length) (0 : UInt8) = l at *
  generalize padK key.data.toList m = R at *
  go_enter Tryz.func128, Tryz.ntmps128
  go_wp2_with (at_make; refine wpList_make_bytes rfl _ _ 150 rfl 5 Tryz.underlying150 Tryz.infoB _ 64 rfl rfl rfl (by omega) w.heap.size w (Below.refl _ _) (Nat.le_refl _) ?_)
  intro w1 hr1 hb1 hs1
  obtain ⟨w2, hr2, hb2, hs2, hrun2⟩ := copy_text_run (P := Tryz.prog) 150 9 3 5 Tryz.underlying150 Tryz.infoS (some ⟨w.heap.size, 0, none⟩) 64 64 key 0 hr1 (by omega) (fun _ => rfl) (by simp; omega) hb1 (Nat.le_refl _)
  have r2 : Row w2 w.heap.size 5 (cellsB (maskTo l m 0)) := by
    have h : RowB w2 w.heap.size 5 (overB (List.replicate 64 0) 0 key.data.toList) := hr2
    rw [HO.out] at h
    exact h
  clear hr1 hb1 hs1 hr2 hs2
  go_wp2_with fail
  go_loopw [6] (fun i wr => ∃ k : Nat, k ≤ 64 ∧ i = .int .i64 k ∧ Row wr w.heap.size 5 (cellsB (maskTo l m k)) ∧ Below w.heap.size w wr) (fun i _ => 64 - (intOf i).toNat)
  case atStart => exact ⟨0, by omega, rfl, r2, hb2⟩
  case round =>
    clear r2 hb2 hrun2
    obtain ⟨k, hk, rfl, q1, hbel⟩ := hrel
    have hlk := maskTo_length l m k (by omega)
    by_cases hlt : k < 64
    · have c1 := q1.cell k
      have f1 := q1.frozen k
      rw [cellsB_get _ _ (by omega), maskTo_get _ _ _ (by omega)] at c1
      have HS := maskTo_set l m k (by omega)
      have HX : Hid _ := xor_u8 (l.getD k 0) m
      generalize l.getD k 0 = x at *
      go_wp2_with fail
      go_roundw
      case rel =>
        refine ⟨k + 1, by omega, by go_num, ?_, hbel.setCell (Nat.le_refl _) _⟩
        have h := q1.set k (.int .u8 ((x ^^^ m).toNat : Int))
        rw [cellsB_set, HS, ← HX.out] at h
        exact h
      case measure => simp [intOf]; omega
    · obtain rfl : k = 64 := by omega
      rw [HA.out] at q1
      have hRl : R.length = 64 := by rw [← HA.out, maskTo_length l m 64 (by omega)]; exact hll
      have hRB : RowB wr w.heap.size 5 R := q1
      have hc := hRB.conv (n := 64) ⟨R.toArray⟩ rfl (by show 64 = R.toArray.size; simp [hRl]) (by omega)
      go_wp2
      go_ret
      exact ⟨rfl, hbel⟩
theorem padT_size (key : ByteArray) (m : UInt8) (h : key.size ≤ 64) : (⟨(padK key.data.toList m).toArray⟩ : ByteArray).size = 64 := by
  show (padK key.data.toList m).toArray.size = 64
  have := padK_length key.data.toList m (by simpa using h)
  simp [this]
def keyT (k : ByteArray) : ByteArray := if k.size ≤ 64 then k else digestT k
theorem keyT_size (k : ByteArray) : (keyT k).size ≤ 64 := by
  unfold keyT; split
  · assumption
  · rw [digestT_size]; omega
theorem keyT_list (k : ByteArray) : (keyT k).data.toList = keyN k.data.toList := by
  unfold keyT keyN
  by_cases h : k.size ≤ 64
  · rw [if_pos h, if_pos (by simpa using h)]
  · rw [if_neg h, if_neg (by simpa using h)]; simp [digestT]
theorem smac_eq (k t : ByteArray) : digestT (⟨(padK (keyT k).data.toList 92).toArray⟩ ++ digestT (⟨(padK (keyT k).data.toList 54).toArray⟩ ++ t)) = macT k t := by
  rw [keyT_list]
  unfold macT macN
  apply ByteArray.ext
  simp [digestT]
set_option maxRecDepth 100000 in
set_option maxHeartbeats 1000000 in
/-- From the key in its last form on. -/
theorem specMac_in (k t : ByteArray) (w : World) (h1 : k.size ≤ 8000) (h2 : t.size ≤ 8000) :
    Calls Tryz.prog 86 #[.string k, .string t] w fun e w' => e = .returned (.string (macT k t)) ∧ Below w.heap.size w w' := by
  have HM : Hid _ := smac_eq k t
  have hks := keyT_size k
  generalize macT k t = R at *
  by_cases hk : k.size ≤ 64
  · have HK : keyT k = k := if_pos hk
    rw [HK] at HM hks
    clear HK
    go_enter Tryz.func86, Tryz.ntmps86
    go_wp2_with fail
    refine (specPad_any k 92 _ rfl _ hks).mono ?_
    rintro e w1 ⟨rfl, hb1⟩
    have p92 := padT_size k 92 hks
    have hb1' := hb1
    generalize (⟨(padK k.data.toList 92).toArray⟩ : ByteArray) = P92 at *
    go_wp2_with fail
    refine (specPad_any k 54 _ rfl _ hks).mono ?_
    rintro e w2 ⟨rfl, hb2⟩
    have hb2' := hb1'.trans (hb2.mono hb1'.size)
    have p54 := padT_size k 54 hks
    generalize (⟨(padK k.data.toList 54).toArray⟩ : ByteArray) = P54 at *
    have sj : (P54 ++ t).size = P54.size + t.size := by simp
    go_wp2_with fail
    refine (specDigest_in (P54 ++ t) _ (by omega)).mono ?_
    rintro e w3 ⟨rfl, hb3⟩
    have hb3' := hb2'.trans (hb3.mono hb2'.size)
    have sd := digestT_size (P54 ++ t)
    generalize digestT (P54 ++ t) = DJ at *
    have sk : (P92 ++ DJ).size = P92.size + DJ.size := by simp
    go_wp2_with fail
    refine (specDigest_in (P92 ++ DJ) _ (by omega)).mono ?_
    rintro e w4 ⟨rfl, hb4⟩
    rw [HM.out]
    go_wp2
    go_ret
    exact ⟨rfl, hb3'.trans (hb4.mono hb3'.size)⟩
  · have HK : keyT k = digestT k := if_neg hk
    rw [HK] at HM hks
    clear HK
    go_enter Tryz.func86, Tryz.ntmps86
    go_wp2_with fail
    refine (specDigest_in k _ (by omega)).mono ?_
    rintro e w0 ⟨rfl, hb0⟩
    generalize digestT k = K at *
    go_wp2_with fail
    refine (specPad_any K 92 _ rfl _ hks).mono ?_
    rintro e w1 ⟨rfl, hb1⟩
    have p92 := padT_size K 92 hks
    have hb1' := hb0.trans (hb1.mono hb0.size)
    generalize (⟨(padK K.data.toList 92).toArray⟩ : ByteArray) = P92 at *
    go_wp2_with fail
    refine (specPad_any K 54 _ rfl _ hks).mono ?_
    rintro e w2 ⟨rfl, hb2⟩
    have hb2' := hb1'.trans (hb2.mono hb1'.size)
    have p54 := padT_size K 54 hks
    generalize (⟨(padK K.data.toList 54).toArray⟩ : ByteArray) = P54 at *
    have sj : (P54 ++ t).size = P54.size + t.size := by simp
    go_wp2_with fail
    refine (specDigest_in (P54 ++ t) _ (by omega)).mono ?_
    rintro e w3 ⟨rfl, hb3⟩
    have hb3' := hb2'.trans (hb3.mono hb2'.size)
    have sd := digestT_size (P54 ++ t)
    generalize digestT (P54 ++ t) = DJ at *
    have sk : (P92 ++ DJ).size = P92.size + DJ.size := by simp
    go_wp2_with fail
    refine (specDigest_in (P92 ++ DJ) _ (by omega)).mono ?_
    rintro e w4 ⟨rfl, hb4⟩
    rw [HM.out]
    go_wp2
    go_ret
    exact ⟨rfl, hb3'.trans (hb4.mono hb3'.size)⟩
end Go.Proofs.YtialedffpaoacaaGreatDoor
