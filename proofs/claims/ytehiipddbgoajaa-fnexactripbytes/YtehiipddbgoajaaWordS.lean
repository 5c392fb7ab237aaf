/- Words and their sums, of the model. -/
import Derived.Test.YtehiipddbgoajaaWireMath
import Derived.Test.YtehiipddbgoajaaOwnV
import Derived.Test.YtehiipddbgoajaaAddrMath
import Derived.Test.YtehiipddbgoajaaBaseB
import Derived.Laws.ShiftsVarLaws
namespace Go.Proofs.Ytehiipddbgoajaa
open Go.RowKit

def wordT (n : Int) : ByteArray := ⟨(wordL n).toArray⟩
theorem wordT_size (n : Int) : (wordT n).size = 2 := rfl
theorem word_conv (n : Int) (w : World) :
    (convert 51 9 (.slice (some ⟨w.heap.size, 0, none⟩) 2 2)).run Try.prog (w.alloc (.cells #[.int .u8 (n / 256 % 256), .int .u8 (n % 256)] 5)) = .ok (.string (wordT n)) (w.alloc (.cells #[.int .u8 (n / 256 % 256), .int .u8 (n % 256)] 5)) :=
  conv_lit w [n / 256 % 256, n % 256] 2 rfl (by
    intro x hx
    simp only [List.mem_cons, List.not_mem_nil, or_false] at hx
    omega) (by omega)
set_option maxRecDepth 100000 in
theorem specWord_any (n : Int) (w : World) (h0 : 0 ≤ n) (h1 : n ≤ 9223372036854775807) :
    Calls Try.prog 32 #[.int .i64 n] w fun e w' => e = .returned (.string (wordT n)) ∧ Below w.heap.size w w' := by
  have hc := word_conv n w
  have hd : n.tdiv 256 = n / 256 := Int.tdiv_eq_ediv_of_nonneg h0
  have hm : n.tmod 256 = n % 256 := Int.tmod_eq_emod_of_nonneg h0
  have hu : IntKind.u8.wrap (n / 256) = n / 256 % 256 := by rw [IntKind.wrap_u8]
  have hu2 : IntKind.u8.wrap (n % 256) = n % 256 := by rw [IntKind.wrap_u8]; omega
  generalize wordT n = T at *
  go_enter Try.func32, Try.ntmps32
  go_wp2
  go_ret
  exact ⟨rfl, (Below.refl _ _).alloc (Nat.le_refl _) _⟩
end Go.Proofs.Ytehiipddbgoajaa
