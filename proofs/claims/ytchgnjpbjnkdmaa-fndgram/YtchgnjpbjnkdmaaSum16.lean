/- Sum16, of the program and of the model. -/
import Derived.Test.YtchgnjpbjnkdmaaGetS
import Derived.Test.YtchgnjpbjnkdmaaSumI
import Derived.Test.YtchgnjpbjnkdmaaTextB
namespace Go.Proofs.Ytchgnjpbjnkdmaa
open Go.RowKit

def sum16 (t : ByteArray) : Int := if 8000 < t.size then 0 else (sumN t.data.toList : Int)
theorem sum16_out (t : ByteArray) (h : 8000 < t.size) : sum16 t = 0 := if_pos h
theorem sum16_in (t : ByteArray) (h : ¬ 8000 < t.size) : sum16 t = (sumN t.data.toList : Int) := if_neg h
set_option maxRecDepth 100000 in
theorem implSum16_any (t : ByteArray) (w : World) (hz : t.size ≤ 1048576) :
    Calls Try.prog 38 #[.string t] w fun e w' => e = .returned (.int .i64 (sum16 t)) ∧ Below w.heap.size w w' := by
  by_cases h1 : 8000 < t.size
  · rw [sum16_out t h1]
    go_enter Try.func38, Try.ntmps38
    go_wp2
    go_ret
    exact ⟨rfl, Below.refl _ _⟩
  · rw [sum16_in t h1]
    have hts : t.data.toList.length = t.size := by simp
    obtain ⟨g, cap, w1, hrun, hcap, hB1, hg0, hg1, hb1⟩ := text_bytes w t
    have HS : Hid (Calls Try.prog 62 #[.slice (some ⟨g, 0, none⟩) t.size cap] w1 fun e w' => e = .returned (.int .i64 (sumN t.data.toList : Int)) ∧ w1 = w') := by
      have := sumOf_any t.data.toList g 0 cap w1 (by omega) hB1
      rw [hts] at this
      exact this
    go_enter Try.func38, Try.ntmps38
    go_wp2_with fail
    refine HS.out.mono ?_
    rintro e w2 ⟨rfl, rfl⟩
    go_wp2
    go_ret
    exact ⟨rfl, hb1⟩
set_option maxRecDepth 100000 in
theorem specSum16_any (t : ByteArray) (w : World) (hz : t.size ≤ 1048576) :
    Calls Try.prog 39 #[.string t] w fun e w' => e = .returned (.int .i64 (sum16 t)) ∧ Below w.heap.size w w' := by
  by_cases h1 : 8000 < t.size
  · rw [sum16_out t h1]
    go_enter Try.func39, Try.ntmps39
    go_wp2
    go_ret
    exact ⟨rfl, Below.refl _ _⟩
  · rw [sum16_in t h1]
    go_enter Try.func39, Try.ntmps39
    go_wp2_with fail
    refine (specSum_any t _ (by omega)).mono ?_
    rintro e w2 ⟨rfl, rfl⟩
    go_wp2
    go_ret
    exact ⟨rfl, Below.refl _ _⟩
end Go.Proofs.Ytchgnjpbjnkdmaa
