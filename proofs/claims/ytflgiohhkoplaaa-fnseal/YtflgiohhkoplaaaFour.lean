/- The four bytes of a CRC, the lowest first; seals. -/
import Derived.Test.YtflgiohhkoplaaaJoined
import Derived.Test.YtflgiohhkoplaaaCrcS
import Derived.Test.YtflgiohhkoplaaaCrcImpl
namespace Go.Proofs.Ytflgiohhkoplaaa
open Go.RowKit

def fourB (n : Nat) : List UInt8 := [UInt8.ofNat (n % 256), UInt8.ofNat (n / 256 % 256), UInt8.ofNat (n / 65536 % 256), UInt8.ofNat (n / 16777216 % 256)]
def fourT (n : Nat) : ByteArray := ⟨(fourB n).toArray⟩
theorem fourT_size (n : Nat) : (fourT n).size = 4 := rfl
theorem four_eq (n : Nat) (hn : n < 4294967296) : [(n : Int) % 256, (n : Int) / 256 % 256, (n : Int) / 65536 % 256, (n : Int) / 16777216].map (fun x => UInt8.ofNat x.toNat) = fourB n := by
  have e1 : ((n : Int) % 256).toNat = n % 256 := by omega
  have e2 : ((n : Int) / 256 % 256).toNat = n / 256 % 256 := by omega
  have e3 : ((n : Int) / 65536 % 256).toNat = n / 65536 % 256 := by omega
  have e4 : ((n : Int) / 16777216).toNat = n / 16777216 % 256 := by omega
  simp only [List.map_cons, List.map_nil, e1, e2, e3, e4, fourB]
theorem four_conv (n : Nat) (w : World) (hn : n < 4294967296) :
    (convert 22 9 (.slice (some ⟨w.heap.size, 0, none⟩) 4 4)).run Try.prog (w.alloc (.cells #[.int .u8 ((n : Int) % 256), .int .u8 ((n : Int) / 256 % 256), .int .u8 ((n : Int) / 65536 % 256), .int .u8 ((n : Int) / 16777216)] 5)) = .ok (.string (fourT n)) (w.alloc (.cells #[.int .u8 ((n : Int) % 256), .int .u8 ((n : Int) / 256 % 256), .int .u8 ((n : Int) / 65536 % 256), .int .u8 ((n : Int) / 16777216)] 5)) := by
  have h := conv_lit w [(n : Int) % 256, (n : Int) / 256 % 256, (n : Int) / 65536 % 256, (n : Int) / 16777216] 4 rfl (by
    intro x hx
    simp only [List.mem_cons, List.not_mem_nil, or_false] at hx
    omega) (by omega)
  rw [four_eq n hn] at h
  exact h

set_option maxRecDepth 100000 in
theorem specFour_any (n : Nat) (w : World) (hn : n < 4294967296) :
    Calls Try.prog 19 #[.int .i64 n] w fun e w' => e = .returned (.string (fourT n)) ∧ Below w.heap.size w w' := by
  have hc := four_conv n w hn
  generalize fourT n = T at *
  go_enter Try.func19, Try.ntmps19
  go_wp2
  go_ret
  exact ⟨rfl, (Below.refl _ _).alloc (Nat.le_refl _) _⟩

/-- The CRC of a text that fits. -/
def crcT (t : ByteArray) : Nat := crcOf 0 t.data.toList
theorem crcT_lt (t : ByteArray) : crcT t < 4294967296 := crcOf_lt 0 _
theorem crcMoreB_zero (t : ByteArray) (h : t.size ≤ 8000) : crcMoreB 0 t = (crcT t : Nat) := by unfold crcMoreB crcT; rw [if_pos ⟨h, by omega, by omega⟩]; rfl

set_option maxRecDepth 100000 in
theorem implCrcBytes_any (t : ByteArray) (w : World) (hz : t.size ≤ 8000) :
    Calls Try.prog 18 #[.string t] w fun e w' => e = .returned (.string (fourT (crcT t))) ∧ Below w.heap.size w w' := by
  have hl := crcT_lt t
  have HC : Hid (crcMoreB 0 t = (crcT t : Nat)) := crcMoreB_zero t hz
  have hc := four_conv (crcT t) w hl
  generalize crcT t = n at *
  generalize fourT n = T at *
  go_enter Try.func18, Try.ntmps18
  go_wp2_with fail
  refine (implCrc_any t _ (by omega)).mono ?_
  rintro e w1 ⟨rfl, rfl⟩
  rw [HC.out]
  go_wp2
  go_ret
  exact ⟨rfl, (Below.refl _ _).alloc (Nat.le_refl _) _⟩

def sealT (t : ByteArray) : ByteArray := if t.size ≤ 7996 then t ++ fourT (crcT t) else ByteArray.empty
theorem sealT_in (t : ByteArray) (h : t.size ≤ 7996) : sealT t = t ++ fourT (crcT t) := by simp [sealT, h]
theorem sealT_out (t : ByteArray) (h : ¬ t.size ≤ 7996) : sealT t = ByteArray.empty := by simp [sealT, h]

theorem specCrc_zero (t : ByteArray) (w : World) (hz : t.size ≤ 8000) :
    Calls Try.prog 20 #[.int .i64 0, .string t] w fun e w' => e = .returned (.int .i64 (crcT t : Nat)) ∧ w = w' := specCrc_in 0 t w hz (by omega)
end Go.Proofs.Ytflgiohhkoplaaa
