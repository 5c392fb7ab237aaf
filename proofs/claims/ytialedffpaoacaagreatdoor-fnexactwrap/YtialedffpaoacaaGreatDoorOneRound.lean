/- One round, of the program. -/
import Derived.Test.YtialedffpaoacaaGreatDoorRotate
namespace Go.Proofs.YtialedffpaoacaaGreatDoor
open Go.RowKit

def u32s (l : List Nat) : Array Value := (l.map fun (x : Nat) => Value.int .u32 (x : Int)).toArray
def stV (s : S8) : Value := .agg #[.int .u32 s.a, .int .u32 s.b, .int .u32 s.c, .int .u32 s.d, .int .u32 s.e, .int .u32 s.f, .int .u32 s.g, .int .u32 s.h]
theorem ch_u32 (e f g : Nat) (he : e < 4294967296) (hf : f < 4294967296) (hg : g < 4294967296) : bits .xor .u32 (bits .and .u32 (e : Int) (f : Int)) (bits .and .u32 (bits .xor .u32 IntKind.u32.max (e : Int)) (g : Int)) = ((chN e f g : Nat) : Int) := by
  rw [u32_and_nat e f he hf, ones_u32 _ (by omega) (by omega), show (4294967295 - (e : Int)) = ((4294967295 - e : Nat) : Int) by omega, u32_and_nat _ g (by omega) hg, u32_xor_nat _ _ (lt32_and he) (lt32_and (by omega))]
  rfl
theorem maj_u32 (a b c : Nat) (ha : a < 4294967296) (hb : b < 4294967296) (hc : c < 4294967296) : bits .xor .u32 (bits .xor .u32 (bits .and .u32 (a : Int) (b : Int)) (bits .and .u32 (a : Int) (c : Int))) (bits .and .u32 (b : Int) (c : Int)) = ((majN a b c : Nat) : Int) := by
  rw [u32_and_nat a b ha hb, u32_and_nat a c ha hc, u32_and_nat b c hb hc, xor3 _ _ _ (lt32_and ha) (lt32_and ha) (lt32_and hb)]
  rfl
theorem round_form (a b c d e f g h k : Nat) : stV (roundN ⟨a, b, c, d, e, f, g, h⟩ k) =
    .agg #[.int .u32 (((h : Int) + (tri 6 11 25 e : Nat) + (chN e f g : Nat) + k + (((tri 2 13 22 a : Nat) : Int) + (majN a b c : Nat))) % 4294967296), .int .u32 a, .int .u32 b, .int .u32 c,
      .int .u32 (((d : Int) + ((h : Int) + (tri 6 11 25 e : Nat) + (chN e f g : Nat) + k)) % 4294967296), .int .u32 e, .int .u32 f, .int .u32 g] := by
  unfold stV roundN t1N t2N
  simp only [Int.natCast_emod, Int.natCast_add, Int.emod_add_emod, Int.add_emod_emod, Int.cast_ofNat_Int]
set_option maxRecDepth 100000 in
set_option maxHeartbeats 400000 in
theorem implRound_any (s : S8) (k : Nat) (w : World) (hs : s.ok) :
    Calls Tryz.prog 219 #[stV s, .int .u32 k] w fun e w' => e = .returned (stV (roundN s k)) ∧ Below w.heap.size w w' := by
  obtain ⟨a, b, c, d, e, f, g, z⟩ := s
  obtain ⟨h0, h1, h2, h3, h4, h5, h6, h7⟩ := hs
  simp only at h0 h1 h2 h3 h4 h5 h6 h7
  have HR : Hid _ := round_form a b c d e f g z k
  generalize stV (roundN ⟨a, b, c, d, e, f, g, z⟩ k) = R at *
  unfold stV
  have HC := ch_u32 e f g h4 h5 h6
  have HM := maj_u32 a b c h0 h1 h2
  go_enter Tryz.func219, Tryz.ntmps219
  go_wp2_with fail
  go_quiet (fail)
  go_wp2_with fail
  go_quiet ((go_at_call 227; exact quiet_eq2 (implTri_any e 6 11 25 _ _ _ rfl rfl rfl _ h4 (by omega) (by omega) (by omega) (by omega) (by omega) (by omega))))
  go_wp2_with fail
  refine (implTri_any a 2 13 22 _ _ _ rfl rfl rfl _ h0 (by omega) (by omega) (by omega) (by omega) (by omega) (by omega)).mono ?_
  rintro e w' ⟨rfl, rfl⟩
  go_wp2
  rw [HR.out]
  refine bodyPost_ret (v := .agg #[.int .u32 (((z : Int) + (tri 6 11 25 e : Nat) + (chN e f g : Nat) + k + (((tri 2 13 22 a : Nat) : Int) + (majN a b c : Nat))) % 4294967296), .int .u32 a, .int .u32 b, .int .u32 c, .int .u32 (((d : Int) + ((z : Int) + (tri 6 11 25 e : Nat) + (chN e f g : Nat) + k)) % 4294967296), .int .u32 e, .int .u32 f, .int .u32 g]) ?_ rfl ⟨rfl, ?_⟩
  · simp [results, Tryz.results219, go_sem]
  · iterate 8 refine Below.setCell ?_ (by simp) _
    refine below_drewN ?_ _
    refine Below.alloc ?_ (by simp) _
    exact (Below.refl _ _).alloc (Nat.le_refl _) _
end Go.Proofs.YtialedffpaoacaaGreatDoor
