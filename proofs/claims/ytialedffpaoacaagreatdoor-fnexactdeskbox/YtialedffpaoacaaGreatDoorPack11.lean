/- Texts that stand on each other, in one file: DecC, MarkTx. -/
import Derived.Test.YtialedffpaoacaaGreatDoorPack5
import Derived.Test.YtialedffpaoacaaGreatDoorPack3
/- One digit as a text; texts joined. (Split from Dec.) -/
namespace Go.Proofs.YtialedffpaoacaaGreatDoor
open Go.RowKit
open Go.Lib (decDigits)

theorem one_conv (d : Nat) (w : World) (hd : d < 10) :
    (convert 150 9 (.slice (some ⟨w.heap.size, 0, none⟩) 1 1)).run Tryz.prog (w.alloc (.cells #[.int .u8 (48 + (d : Int))] 5)) = .ok (.string ⟨[UInt8.ofNat (48 + d)].toArray⟩) (w.alloc (.cells #[.int .u8 (48 + (d : Int))] 5)) := by
  have h := conv_lit w [48 + (d : Int)] 1 rfl (by
    intro x hx
    simp only [List.mem_cons, List.not_mem_nil, or_false] at hx
    omega) (by omega)
  rw [show [48 + (d : Int)].map (fun x => UInt8.ofNat x.toNat) = [UInt8.ofNat (48 + d)] by simp only [List.map_cons, List.map_nil]; rw [show (48 + (d : Int)).toNat = 48 + d by omega]] at h
  exact h
theorem text_append (a b : List UInt8) : (⟨a.toArray⟩ : ByteArray) ++ ⟨b.toArray⟩ = ⟨(a ++ b).toArray⟩ := by
  apply ByteArray.ext
  simp
theorem text_size (l : List UInt8) : (⟨l.toArray⟩ : ByteArray).size = l.length := by simp [ByteArray.size]
end Go.Proofs.YtialedffpaoacaaGreatDoor
/- The laws' own marks in texts. (Turned from Dec by hand.) -/
namespace Go.Proofs.YtialedffpaoacaaGreatDoor
open Go.RowKit
open Go.Lib (decDigits)

def mTxt (k : Nat) : ByteArray := ⟨(109 :: decDigits k).toArray⟩
set_option maxRecDepth 100000 in
theorem markText_pos (N : Nat) (w : World) (hN : 1 ≤ N) (hM : N < 10 ^ 18) :
    Calls Tryz.prog 69 #[.int .i64 (N : Int)] w fun e w' => e = .returned (.string (mTxt N)) ∧ Below w.heap.size w w' := by
  have hlen := dec_length_le (u := N) (k := 18) (by omega) hM
  have HD : Hid (∀ m, 0 < m → ∀ out, decDigits m ++ out = decDigits N → ((0 < m / 10 → decDigits (m / 10) ++ ([UInt8.ofNat (48 + m % 10)] ++ out) = decDigits N) ∧ (m / 10 = 0 → [UInt8.ofNat (48 + m % 10)] ++ out = decDigits N))) := by
    intro m hm out h
    by_cases hs : m < 10
    · rw [dec_small hs] at h
      refine ⟨fun h' => by omega, fun _ => ?_⟩
      rw [show m % 10 = m by omega]; exact h
    · rw [dec_big hs] at h
      exact ⟨fun _ => by rw [← h]; simp, fun h' => by omega⟩
  have hN2 : N ≤ 1000000000000000000 := by omega
  unfold mTxt
  have HM1 : Hid ((⟨#[109]⟩ : ByteArray) ++ ⟨(decDigits N).toArray⟩ = ⟨(109 :: decDigits N).toArray⟩) := by show _ = _; apply ByteArray.ext; simp
  have HX : Hid (∀ m out, decDigits m ++ out = decDigits N → out.length ≤ 18) := fun m out h => by
    have := congrArg List.length h
    simp only [List.length_append] at this
    omega
  have hlen0 : (decDigits N).length ≤ 18 := hlen
  clear hlen hM
  have HXD : Hid ((decDigits N).length ≤ 18) := hlen0
  obtain ⟨D, hD⟩ : ∃ D, decDigits N = D := ⟨_, rfl⟩
  have H0 : Hid (decDigits N ++ [] = D) := by show _ = _; rw [hD, List.append_nil]
  rw [hD] at HD HX HM1 HXD ⊢
  clear hD hlen0
  generalize decDigits = F at *
  go_enter Tryz.func69, Tryz.ntmps69
  go_wp2_with fail
  go_loopw [0, 3] (fun n v wr => ∃ (m : Nat) (out : List UInt8), m ≤ N ∧ n = .int .i64 (m : Int) ∧ v = .string ⟨out.toArray⟩ ∧ (0 < m → Hid (F m ++ out = D)) ∧ (m = 0 → Hid (out = D)) ∧ Below w.heap.size w wr) (fun n _ _ => (intOf n).toNat)
  case atStart => exact ⟨N, [], Nat.le_refl _, rfl, rfl, fun _ => H0, fun h => by omega, Below.refl _ _⟩
  case round =>
    obtain ⟨m, out, hm, rfl, rfl, h1, h2, hb⟩ := hrel
    by_cases hp : 0 < m
    · have hh := h1 hp
      have hd := HD.out m hp out hh.out
      have HDD : Hid _ := hd
      have hl := HX.out m out hh.out
      have hz := text_size out
      have hc := one_conv (m % 10) wr (by omega)
      have ht := text_append [UInt8.ofNat (48 + m % 10)] out
      have hb0 : decide ((m : Int) > 0) = true := by simpa using hp
      have hb2 : decide ((0 : Int) < (m : Int)) = true := by simpa using hp
      have e1 : (m : Int).tmod 10 = ((m % 10 : Nat) : Int) := by rw [Int.tmod_eq_emod_of_nonneg (by omega)]; omega
      have hb1 : ¬ (((m % 10 : Nat) : Int) < 0) := by omega
      clear hd h1 h2 hh
      have HBY : Hid (48 + UInt8.ofNat (m % 10) = UInt8.ofNat (48 + m % 10)) := by show _ = _; rw [UInt8.ofNat_add]; rfl
      have hq : m % 10 < 10 := Nat.mod_lt _ (by omega)
      generalize m % 10 = d at *
      go_wp2
      refine ⟨⟨m / 10, [UInt8.ofNat (48 + d)] ++ out, by omega, by simp, ?_, fun h => HDD.out.1 h, fun h => HDD.out.2 h, hb.alloc hb.size _⟩, ?_⟩
      · rw [HBY.out, ← text_append]
      · simp [intOf]; omega
    · obtain rfl : m = 0 := by omega
      have hh := h2 rfl
      have hl := HXD.out
      rw [← hh.out] at hl
      have hz := text_size out
      clear h1 h2
      rw [show ((0 : Nat) : Int) = 0 from rfl]
      go_wp2
      go_ret
      exact ⟨by rw [hh.out, ← HM1.out]; rfl, hb⟩
end Go.Proofs.YtialedffpaoacaaGreatDoor
