/- The filled text, of the program. -/
import Derived.Test.YtialedffpaoacaaGreatDoorRowU
import Derived.Test.YtialedffpaoacaaGreatDoorBaseB
import Derived.Laws.ShiftsVarLaws
namespace Go.Proofs.YtialedffpaoacaaGreatDoor
open Go.RowKit

/-- The filled text with the last k bytes of the count in it. -/
def padTo (t : List UInt8) (k : Nat) : List UInt8 := t ++ (128 :: (List.replicate (zerosN t.length + (8 - k)) 0 ++ (be8 (8 * t.length)).drop (8 - k)))
theorem be8_length (n : Nat) : (be8 n).length = 8 := rfl
theorem padTo_length (t : List UInt8) (k : Nat) (hk : k ≤ 8) : (padTo t k).length = t.length + 9 + zerosN t.length := by
  simp [padTo, be8_length]; omega
theorem padTo_all (t : List UInt8) : padTo t 8 = padN t := by simp [padTo, padN]
theorem be8_get (n k : Nat) (hk : k < 8) : (be8 n)[7 - k]'(by rw [be8_length]; omega) = UInt8.ofNat (n / 2 ^ (8 * k) % 256) := by
  match k, hk with
  | 0, _ => simp [be8]
  | 1, _ => rfl
  | 2, _ => rfl
  | 3, _ => rfl
  | 4, _ => rfl
  | 5, _ => rfl
  | 6, _ => rfl
  | 7, _ => rfl
theorem padTo_set (t : List UInt8) (k : Nat) (hk : k < 8) : (padTo t k).set (t.length + 9 + zerosN t.length - 1 - k) (UInt8.ofNat ((8 * t.length) / 2 ^ (8 * k) % 256)) = padTo t (k + 1) := by
  have e1 : t.length + 9 + zerosN t.length - 1 - k = t.length + (1 + (zerosN t.length + (8 - (k + 1)))) := by omega
  have e2 : zerosN t.length + (8 - k) = (zerosN t.length + (8 - (k + 1))) + 1 := by omega
  have e3 : (be8 (8 * t.length)).drop (8 - (k + 1)) = UInt8.ofNat ((8 * t.length) / 2 ^ (8 * k) % 256) :: (be8 (8 * t.length)).drop (8 - k) := by
    rw [List.drop_eq_getElem_cons (by rw [be8_length]; omega)]
    have := be8_get (8 * t.length) k hk
    simp only [show 8 - (k + 1) = 7 - k by omega, this, show 7 - k + 1 = 8 - k by omega]
  unfold padTo
  rw [e1, List.set_append_right _ _ (by omega), Nat.add_sub_cancel_left, Nat.add_comm 1, List.set_cons_succ, e2, List.replicate_succ', List.append_assoc, List.set_append_right _ _ (by simp), e3]
  simp
theorem cellsB_set (l : List UInt8) (k : Nat) (b : UInt8) : (cellsB l).set k (.int .u8 (b.toNat : Int)) = cellsB (l.set k b) := by
  simp only [cellsB, List.map_set]
theorem cellsB_get (l : List UInt8) (k : Nat) (h : k < l.length) : (cellsB l)[k]? = some (.int .u8 ((l.getD k 0).toNat : Int)) := by
  simp [cellsB, h]
theorem pad_start (t : List UInt8) : (overB (List.replicate (t.length + 9 + zerosN t.length) 0) 0 t).set t.length 128 = padTo t 0 := by
  simp only [overB, List.take_zero, List.nil_append, Nat.zero_add, List.drop_replicate]
  rw [List.set_append_right _ _ (Nat.le_refl _), Nat.sub_self, show t.length + 9 + zerosN t.length - t.length = (zerosN t.length + 8) + 1 by omega, List.replicate_succ, List.set_cons_zero]
  simp [padTo, be8]
theorem count_byte (n k : Nat) : ((((8 * n) / 2 ^ (8 * k) % 256 : Nat)) : Int) = ((n : Int) * 8) / 2 ^ (8 * k) % 256 := by
  simp [Nat.mul_comm]
set_option maxRecDepth 100000 in
set_option maxHeartbeats 1000000 in
theorem implPad_any (t : ByteArray) (w : World) (hz : t.size ≤ 100000) :
    Calls Tryz.prog 209 #[.string t] w fun e w' => ∃ g, e = .returned (.slice (some ⟨g, 0, none⟩) (64 * blocksN t.size) (64 * blocksN t.size)) ∧ RowB w' g 5 (padN t.data.toList) ∧ w.heap.size ≤ g ∧ Below w.heap.size w w' := by
  have hz1 : t.data.toList.length = t.size := by simp
  have hE : ((t.size : Int) + 1 + 8 + -(((t.size : Int) + 1 + 8) % 64) % 64) = ((t.size + 9 + zerosN t.size : Nat) : Int) := by unfold zerosN; omega
  have hN1 : t.size + 9 ≤ t.size + 9 + zerosN t.size := by omega
  have hN2 : t.size + 9 + zerosN t.size ≤ 200000 := by unfold zerosN; omega
  have HN : Hid (64 * blocksN t.size = t.size + 9 + zerosN t.size) := (blocksN_eq _).symm
  have HS : Hid (∀ k, k < 8 → (padTo t.data.toList k).set (t.size + 9 + zerosN t.size - 1 - k) (UInt8.ofNat ((8 * t.size) / 2 ^ (8 * k) % 256)) = padTo t.data.toList (k + 1)) := by
    intro k hk
    have := padTo_set t.data.toList k hk
    rwa [hz1] at this
  have HP : Hid ((overB (List.replicate (t.size + 9 + zerosN t.size) 0) 0 t.data.toList).set t.size 128 = padTo t.data.toList 0) := by
    have := pad_start t.data.toList
    rwa [hz1] at this
  have HL : Hid (∀ k, k ≤ 8 → (padTo t.data.toList k).length = t.size + 9 + zerosN t.size) := by
    intro k hk
    have := padTo_length t.data.toList k hk
    rwa [hz1] at this
  have HA : Hid (padTo t.data.toList 8 = padN t.data.toList) := padTo_all _
  generalize t.size + 9 + zerosN t.size = N at *
  go_enter Tryz.func209, Tryz.ntmps209
  go_wp2_with (at_make; refine wpList_make_bytes rfl _ _ 150 rfl 5 Tryz.underlying150 Tryz.infoB _ N rfl rfl ?_ ?_ w.heap.size w (Below.refl _ _) (Nat.le_refl _) ?_)
  · rfl
  · omega
  · intro w1 hr1 hb1 hs1
    obtain ⟨w2, hr2, hb2, hs2, hrun2⟩ := copy_text_run (P := Tryz.prog) 150 9 3 5 Tryz.underlying150 Tryz.infoS (some ⟨w.heap.size, 0, none⟩) N N t 0 hr1 (by omega) (fun _ => rfl) (by simp; omega) hb1 (Nat.le_refl _)
    have r2 : Row w2 w.heap.size 5 (cellsB (overB (List.replicate N 0) 0 t.data.toList)) := hr2
    have hlen2 : (overB (List.replicate N 0) 0 t.data.toList).length = N := by rw [overB_length _ _ _ (by simp; omega)]; simp
    have c2 := r2.cell t.size
    rw [cellsB_get _ _ (by omega)] at c2
    have f2 := r2.frozen t.size
    generalize ((overB (List.replicate N 0) 0 t.data.toList).getD t.size 0).toNat = q at *
    clear hr1 hb1 hs1 hs2 hr2 hz1
    have r3 : Row (w2.setCell ⟨w.heap.size, t.size, none⟩ (.int .u8 128)) w.heap.size 5 (cellsB (padTo t.data.toList 0)) := by
      have h := r2.set t.size (.int .u8 (((128 : UInt8).toNat : Nat) : Int))
      rw [cellsB_set, HP.out] at h
      exact h
    have i0 : (t.size : Int) < (N : Int) := by omega
    go_wp2_with fail
    clear hrun2 c2 f2
    go_loopw [30] (fun i wr => ∃ k : Nat, k ≤ 8 ∧ i = .int .i64 k ∧ Row wr w.heap.size 5 (cellsB (padTo t.data.toList k)) ∧ Below w.heap.size w wr) (fun i _ => 8 - (intOf i).toNat)
    case atStart => exact ⟨0, by omega, rfl, r3, hb2.setCell (Nat.le_refl _) _⟩
    case round =>
      clear r3 hb2 r2
      obtain ⟨k, hk, rfl, q1, hbel⟩ := hrel
      by_cases h8 : k < 8
      · have hl := HL.out k hk
        have c1 := q1.cell (N - 1 - k)
        rw [cellsB_get _ _ (by omega)] at c1
        have f1 := q1.frozen (N - 1 - k)
        generalize ((padTo t.data.toList k).getD (N - 1 - k) 0).toNat = q at *
        have HK := HS.out k h8
        have e1 : ((N : Int) - 1 - (k : Int)).toNat = N - 1 - k := by omega
        go_wp2_with fail
        go_roundw
        case rel =>
          refine ⟨k + 1, by omega, by go_num, ?_, hbel.setCell (Nat.le_refl _) _⟩
          have hbyte : ((UInt8.ofNat (8 * t.size / 2 ^ (8 * k) % 256)).toNat : Int) = (t.size : Int) * 8 / 2 ^ (8 * k) % 256 := by
            rw [← count_byte, UInt8.toNat_ofNat', Nat.mod_mod]
          have h := q1.set (N - 1 - k) (.int .u8 ((UInt8.ofNat (8 * t.size / 2 ^ (8 * k) % 256)).toNat : Int))
          rw [cellsB_set, HK, hbyte] at h
          exact h
        case measure => simp [intOf]; omega
      · obtain rfl : k = 8 := by omega
        rw [HA.out] at q1
        go_wp2
        go_ret
        exact ⟨w.heap.size, by rw [HN.out]; rfl, q1, Nat.le_refl _, hbel⟩
end Go.Proofs.YtialedffpaoacaaGreatDoor
