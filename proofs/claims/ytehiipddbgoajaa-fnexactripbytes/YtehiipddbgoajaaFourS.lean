/- Four bytes of a number, of the model. -/
import Derived.Test.YtehiipddbgoajaaWordS
namespace Go.Proofs.Ytehiipddbgoajaa
open Go.RowKit

def fourQL (n : Int) : List UInt8 := wordL (n / 65536) ++ wordL n
def fourQ (n : Int) : ByteArray := ⟨(fourQL n).toArray⟩
theorem fourQ_size (n : Int) : (fourQ n).size = 4 := rfl
theorem fourQ_eq (n : Int) : wordT (n / 65536) ++ wordT (n % 65536) = fourQ n := by
  apply ByteArray.ext
  apply Array.toList_inj.1
  simp [wordT, fourQ, fourQL, wordL_low]
set_option maxRecDepth 100000 in
theorem spec4_any (n : Int) (w : World) (h0 : 0 ≤ n) (h1 : n ≤ 4294967295) :
    Calls Try.prog 33 #[.int .i64 n] w fun e w' => e = .returned (.string (fourQ n)) ∧ Below w.heap.size w w' := by
  have hd : n.tdiv 65536 = n / 65536 := Int.tdiv_eq_ediv_of_nonneg h0
  have hm : n.tmod 65536 = n % 65536 := Int.tmod_eq_emod_of_nonneg h0
  have hw1 := wrap_i64_in (n / 65536) (by omega) (by omega)
  have HE : Hid _ := fourQ_eq n
  have H1 : Hid (∀ w, Calls Try.prog 32 #[.int .i64 (n / 65536)] w fun e w' => e = .returned (.string (wordT (n / 65536))) ∧ Below w.heap.size w w') := fun w => specWord_any _ w (by omega) (by omega)
  have H2 : Hid (∀ w, Calls Try.prog 32 #[.int .i64 (n % 65536)] w fun e w' => e = .returned (.string (wordT (n % 65536))) ∧ Below w.heap.size w w') := fun w => specWord_any _ w (by omega) (by omega)
  have s1 := wordT_size (n / 65536)
  have s2 := wordT_size (n % 65536)
  generalize wordT (n / 65536) = A at *
  generalize wordT (n % 65536) = B at *
  go_enter Try.func33, Try.ntmps33
  go_wp2_with fail
  refine (H1.out _).mono ?_
  rintro e w1 ⟨rfl, hb1⟩
  go_wp2_with fail
  refine (H2.out _).mono ?_
  rintro e w2 ⟨rfl, hb2⟩
  go_wp2
  go_ret
  exact ⟨by rw [← HE.out]; rfl, hb1.trans (hb2.mono hb1.size)⟩
end Go.Proofs.Ytehiipddbgoajaa
