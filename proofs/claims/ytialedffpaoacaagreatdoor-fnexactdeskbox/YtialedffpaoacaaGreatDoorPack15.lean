/- Texts that stand on each other, in one file: Digits. -/
import Derived.Test.YtialedffpaoacaaGreatDoorPack5
import Derived.Test.YtialedffpaoacaaGreatDoorPack3
import Derived.Laws.RangeString
import Derived.Laws.RangeAny
/- digitsRead of the program: a text ranged over rune by rune. -/
namespace Go.Proofs.YtialedffpaoacaaGreatDoor
open Go.RowKit

theorem drop_at (s : ByteArray) (k : Nat) (h : k < s.size) : s.data.toList.drop k = s[k] :: s.data.toList.drop (k + 1) := by
  rw [List.drop_eq_getElem_cons (by simpa using h)]; rfl
theorem drop_end (s : ByteArray) (k : Nat) (h : ¬ k < s.size) : s.data.toList.drop k = [] := List.drop_of_length_le (by simp; omega)
def readD (most : Nat) (s : ByteArray) : Value × Value := match dR most s.data.toList with | some n => (.int .i64 (n : Int), .bool true) | none => (.int .i64 0, .bool false)
def digV (most : Nat) (s : ByteArray) : Value := .tuple #[(readD most s).1, (readD most s).2]
theorem digV_some {most : Nat} {s : ByteArray} {n : Nat} (h : dR most s.data.toList = some n) : digV most s = .tuple #[.int .i64 (n : Int), .bool true] := by
  unfold digV readD; rw [h]
theorem digV_none {most : Nat} {s : ByteArray} (h : dR most s.data.toList = none) : digV most s = .tuple #[.int .i64 0, .bool false] := by
  unfold digV readD; rw [h]
theorem dR_rd {most : Nat} {l : List UInt8} (h : l ≠ []) : dR most l = rd most l 0 0 := if_neg h
theorem rd_bad (most : Nat) (b : UInt8) (l : List UInt8) (i n : Nat) (h : b.toNat < 48 ∨ 57 < b.toNat ∨ (0 < i ∧ n = 0)) : rd most (b :: l) i n = none := by rw [rd_cons, if_pos h]
theorem rd_big (most : Nat) (b : UInt8) (l : List UInt8) (i n : Nat) (h : ¬ (b.toNat < 48 ∨ 57 < b.toNat ∨ (0 < i ∧ n = 0))) (h2 : most < n * 10 + (b.toNat - 48)) : rd most (b :: l) i n = none := by rw [rd_cons, if_neg h, if_pos h2]
theorem rd_go (most : Nat) (b : UInt8) (l : List UInt8) (i n : Nat) (h : ¬ (b.toNat < 48 ∨ 57 < b.toNat ∨ (0 < i ∧ n = 0))) (h2 : ¬ most < n * 10 + (b.toNat - 48)) : rd most (b :: l) i n = rd most l (i + 1) (n * 10 + (b.toNat - 48)) := by rw [rd_cons, if_neg h, if_neg h2]
theorem low_cases (b : UInt8) : b.toNat < 48 ∨ (48 ≤ b.toNat ∧ b.toNat ≤ 57) ∨ (57 < b.toNat ∧ b.toNat < 128) ∨ 128 ≤ b.toNat := by omega
set_option maxRecDepth 100000 in
theorem digits_any (s : ByteArray) (most : Nat) (w : World) (hm : most ≤ 1000000) (hs : s.size ≤ 1048576) :
    Calls Tryz.prog 188 #[.string s, .int .i64 (most : Int)] w fun e w' => e = .returned (digV most s) ∧ Below w.heap.size w w' := by
  have HNO : Hid (rd most s.data.toList 0 0 = none → s.data.toList ≠ [] → digV most s = .tuple #[.int .i64 0, .bool false]) := fun h he => digV_none (by rw [dR_rd he]; exact h)
  have HYES : Hid (∀ n : Nat, rd most s.data.toList 0 0 = some n → s.data.toList ≠ [] → digV most s = .tuple #[.int .i64 (n : Int), .bool true]) := fun n h he => digV_some (by rw [dR_rd he]; exact h)
  have HNIL : Hid (s.data.toList = [] → digV most s = .tuple #[.int .i64 0, .bool false]) := fun he => digV_none (by unfold dR; rw [if_pos he])
  generalize digV most s = V at *
  have HBAD : Hid _ := rd_bad most
  have HBIG : Hid _ := rd_big most
  have HGO : Hid _ := rd_go most
  have HEND : Hid (∀ i n, rd most [] i n = some n) := fun _ _ => rfl
  obtain ⟨F, hF⟩ : ∃ F, F = rd most := ⟨_, rfl⟩
  have H0 : Hid (F (s.data.toList.drop 0) 0 0 = rd most s.data.toList 0 0) := by show _ = _; rw [hF]; rfl
  rw [← hF] at HBAD HBIG HGO HEND HNO HYES H0
  clear hF
  go_enter Tryz.func188, Tryz.ntmps188
  go_wp2_with fail
  go_loopw [6] (fun v wr => ∃ k n : Nat, k ≤ s.size ∧ n ≤ most ∧ (k = 0 → n = 0) ∧ wr = w.iter s k ∧ v = .int .i64 (n : Int) ∧ Hid (F (s.data.toList.drop k) k n = F s.data.toList 0 0)) (fun _ wr => s.size - wr.iterPos w.heap.size)
  case atStart => exact ⟨0, 0, Nat.zero_le _, Nat.zero_le _, fun _ => rfl, rfl, rfl, H0⟩
  case round =>
    obtain ⟨k, n, hk, hn, hk0, rfl, rfl, HR⟩ := hrel
    by_cases hp : k < s.size
    · have hne : s.data.toList ≠ [] := fun e => by rw [show s.size = s.data.toList.length by simp, e] at hp; simp at hp
      have HNE : Hid (s.data.toList ≠ []) := hne
      have HD : Hid _ := drop_at s k hp
      clear hne
      rcases low_cases s[k] with hc | hc | hc | hc
      · have hnx : ∀ ty, (Instr.next (.pointer (some ⟨w.heap.size, 0, none⟩)) true ty).run Tryz.prog (w.iter s k) = _ := fun ty => run_next_ascii w s k ty hp (by omega)
        go_wp2
        go_ret2
        exact ⟨by rw [HNO.out (HR.out.symm.trans (by rw [HD.out]; exact HBAD.out _ _ _ _ (.inl hc))) HNE.out]; rfl, (Below.refl _ _).alloc (Nat.le_refl _) _⟩
      · have hnx : ∀ ty, (Instr.next (.pointer (some ⟨w.heap.size, 0, none⟩)) true ty).run Tryz.prog (w.iter s k) = _ := fun ty => run_next_ascii w s k ty hp (by omega)
        have d1 : decide (((s[k].toNat : Nat) : Int) < 48) = false := by simp; omega
        have d2 : decide ((57 : Int) < ((s[k].toNat : Nat) : Int)) = false := by simp; omega
        obtain ⟨hc1, hc2⟩ := hc
        by_cases hz : 0 < k ∧ n = 0
        · have HBB : Hid (V = .tuple #[.int .i64 0, .bool false]) := HNO.out (HR.out.symm.trans (by rw [HD.out]; exact HBAD.out _ _ _ _ (.inr (.inr hz)))) HNE.out
          obtain ⟨hz1, rfl⟩ := hz
          have d3 : decide ((0 : Int) < (k : Int)) = true := by simp; omega
          clear hk0 HD HR
          rw [show ((0 : Nat) : Int) = 0 from rfl]
          go_wp2
          go_ret2
          exact ⟨by rw [HBB.out]; rfl, (Below.refl _ _).alloc (Nat.le_refl _) _⟩
        · by_cases hbig : most < n * 10 + (s[k].toNat - 48)
          · have HBB : Hid (V = .tuple #[.int .i64 0, .bool false]) := HNO.out (HR.out.symm.trans (by rw [HD.out]; exact HBIG.out _ _ _ _ (by omega) hbig)) HNE.out
            have hkn : k < 1 ∨ (1 ≤ k ∧ 1 ≤ n) := by omega
            have hbig2 : (most : Int) < (n : Int) * 10 + ((s[k].toNat : Int) - 48) := by omega
            clear hk0 HD HR hz hbig
            rcases hkn with hkn | ⟨hkn, hnn⟩
            · have d3 : decide ((0 : Int) < (k : Int)) = false := by simp; omega
              go_wp2
              go_ret2
              exact ⟨by rw [HBB.out]; rfl, (Below.refl _ _).alloc (Nat.le_refl _) _⟩
            · have hb0 : ((n : Int) == 0) = false := by simp; omega
              have d3 : decide ((0 : Int) < (k : Int)) = true := by simp; omega
              go_wp2
              go_ret2
              exact ⟨by rw [HBB.out]; rfl, (Below.refl _ _).alloc (Nat.le_refl _) _⟩
          · have HGG : Hid (F (s.data.toList.drop (k + 1)) (k + 1) (n * 10 + (s[k].toNat - 48)) = F s.data.toList 0 0) := by
              show _ = _
              rw [← HR.out, HD.out, HGO.out _ _ _ _ (by omega) hbig]
            have hkn : k < 1 ∨ (1 ≤ k ∧ 1 ≤ n) := by omega
            have hbig2 : (n : Int) * 10 + ((s[k].toNat : Int) - 48) ≤ (most : Int) := by omega
            have hbig3 : n * 10 + (s[k].toNat - 48) ≤ most := by omega
            clear hk0 HD HR hz hbig
            rcases hkn with hkn | ⟨hkn, hnn⟩
            · have d3 : decide ((0 : Int) < (k : Int)) = false := by simp; omega
              go_wp2
              go_roundw
              case rel => exact ⟨k + 1, n * 10 + (s[k].toNat - 48), by omega, hbig3, fun h => by omega, rfl, by go_num, HGG⟩
              case measure => simp; omega
            · have hb0 : ((n : Int) == 0) = false := by simp; omega
              have d3 : decide ((0 : Int) < (k : Int)) = true := by simp; omega
              go_wp2
              go_roundw
              case rel => exact ⟨k + 1, n * 10 + (s[k].toNat - 48), by omega, hbig3, fun h => by omega, rfl, by go_num, HGG⟩
              case measure => simp; omega
      · have hnx : ∀ ty, (Instr.next (.pointer (some ⟨w.heap.size, 0, none⟩)) true ty).run Tryz.prog (w.iter s k) = _ := fun ty => run_next_ascii w s k ty hp (by omega)
        have d1 : decide (((s[k].toNat : Nat) : Int) < 48) = false := by simp; omega
        have d2 : decide ((57 : Int) < ((s[k].toNat : Nat) : Int)) = true := by simp; omega
        go_wp2
        go_ret2
        exact ⟨by rw [HNO.out (HR.out.symm.trans (by rw [HD.out]; exact HBAD.out _ _ _ _ (.inr (.inl hc.1)))) HNE.out]; rfl, (Below.refl _ _).alloc (Nat.le_refl _) _⟩
      · have hnx : ∀ ty, (Instr.next (.pointer (some ⟨w.heap.size, 0, none⟩)) true ty).run Tryz.prog (w.iter s k) = _ := fun ty => run_next_any w s k ty hp
        have hd := decode_high s k hp hc
        generalize Utf8.decode s k = rw0 at *
        obtain ⟨r, wd⟩ := rw0
        simp only at hd hnx
        obtain ⟨hr, _⟩ := hd
        go_wp2
        go_ret2
        exact ⟨by rw [HNO.out (HR.out.symm.trans (by rw [HD.out]; exact HBAD.out _ _ _ _ (.inr (.inl (by omega))))) HNE.out]; rfl, (Below.refl _ _).alloc (Nat.le_refl _) _⟩
    · have hnx : ∀ ty, (Instr.next (.pointer (some ⟨w.heap.size, 0, none⟩)) true ty).run Tryz.prog (w.iter s k) = _ := fun ty => run_next_end w s k ty hp
      have hkd : s.data.toList.drop k = [] := drop_end s k hp
      by_cases he : s.data.toList = []
      · have hz : s.size = 0 := by rw [show s.size = s.data.toList.length by simp, he]; rfl
        obtain rfl : k = 0 := by omega
        obtain rfl : n = 0 := hk0 rfl
        have heq : s.toList.isEmpty = true := by rw [ByteArray.toList_eq, he]; rfl
        have HBB : Hid _ := HNIL.out he
        clear he hkd HR hk0
        rw [show ((0 : Nat) : Int) = 0 from rfl]
        go_wp2
        go_ret2
        exact ⟨by rw [HBB.out]; rfl, (Below.refl _ _).alloc (Nat.le_refl _) _⟩
      · have heq : s.toList.isEmpty = false := by rw [ByteArray.toList_eq]; simpa using he
        have HBB : Hid _ := HYES.out n (HR.out.symm.trans (by rw [hkd]; exact HEND.out _ _)) he
        clear he hkd HR hk0
        go_wp2
        go_ret2
        exact ⟨by rw [HBB.out]; rfl, (Below.refl _ _).alloc (Nat.le_refl _) _⟩
end Go.Proofs.YtialedffpaoacaaGreatDoor
