/- Turned words, of the library, of the program and of the model. -/
import Derived.Test.YtialedffpaoacaaGreatDoorBase
import Derived.Test.YtialedffpaoacaaGreatDoorShaMath
import Derived.Laws.ShiftsVarLaws
import Derived.Deep.QuietTactic
import Derived.BigQuiet
import Derived.Deep.RegionWith
import Derived.WalkSmall
import Derived.Outline
namespace Go.Proofs.YtialedffpaoacaaGreatDoor
open Go.RowKit

theorem quiet_eq {P : Program} {f : FuncId} {args : Array Value} {w : World} {n : Nat} {v : Value}
    (h : Calls P f args (w.drewN n) fun e w' => e = .returned v ∧ w.drewN n = w') : Calls P f args (w.drewN n) fun e w'' => e = .returned v ∧ ∃ m, w'' = w.drewN m :=
  h.mono fun _ _ ⟨he, hm⟩ => ⟨he, n, hm.symm⟩
theorem quiet_eq2 {P : Program} {f : FuncId} {args : Array Value} {w : World} {m n : Nat} {v : Value}
    (h : Calls P f args (w.drewN (m + n)) fun e w' => e = .returned v ∧ w.drewN (m + n) = w') : Calls P f args (w.drewN (m + n)) fun e w'' => e = .returned v ∧ ∃ k, w'' = w.drewN (m + k) :=
  h.mono fun _ _ ⟨he, hm⟩ => ⟨he, n, hm.symm⟩
theorem neg_in (k : Nat) (h : k ≤ 1000000) : IntKind.i64.wrap (-(k : Int)) = -(k : Int) := wrap_i64_in _ (by omega) (by omega)
theorem low_turn (k : Nat) (h0 : 1 ≤ k) (h1 : k ≤ 31) : bits .and .u64 (IntKind.u64.wrap (-(k : Int))) 31 = 32 - (k : Int) := by
  rw [IntKind.wrap_u64, u64_and _ _ (by omega) (by omega) (by omega) (by omega)]
  have e : (31 : Int).toNat = 2 ^ 5 - 1 := by decide
  rw [e, Nat.and_two_pow_sub_one_eq_mod]
  omega
theorem turn_or (x k : Nat) (hx : x < 4294967296) : bits .or .u32 ((x : Int) / 2 ^ k) ((x : Int) * 2 ^ (32 - k) % 4294967296) = (rotr k x : Nat) := by
  have e1 : ((x : Int) / 2 ^ k) = ((x / 2 ^ k : Nat) : Int) := by simp
  have e2 : ((x : Int) * 2 ^ (32 - k) % 4294967296) = ((x * 2 ^ (32 - k) % 4294967296 : Nat) : Int) := by simp
  rw [e1, e2, u32_or_nat _ _ (div_lt32 k hx) (Nat.mod_lt _ (by omega))]
  rfl
theorem turn_or' (x k : Nat) (hx : x < 4294967296) : bits .or .u32 ((x : Int) * 2 ^ (32 - k) % 4294967296) ((x : Int) / 2 ^ k) = (rotr k x : Nat) := by
  have e1 : ((x : Int) / 2 ^ k) = ((x / 2 ^ k : Nat) : Int) := by simp
  have e2 : ((x : Int) * 2 ^ (32 - k) % 4294967296) = ((x * 2 ^ (32 - k) % 4294967296 : Nat) : Int) := by simp
  rw [e1, e2, u32_or_nat _ _ (Nat.mod_lt _ (by omega)) (div_lt32 k hx), Nat.or_comm]
  rfl
set_option maxRecDepth 100000 in
theorem libRotate_any (x : Nat) (k : Nat) (w : World) (hx : x < 4294967296) (h0 : 1 ≤ k) (h1 : k ≤ 31) :
    Calls Tryz.prog 237 #[.int .u32 x, .int .i64 (-(k : Int))] w fun e w' => e = .returned (.int .u32 (rotr k x : Nat)) ∧ w = w' := by
  have hl := low_turn k h0 h1
  have HT : Hid _ := turn_or' x k hx
  have HK : Hid (32 - (32 - k) = k) := by show _ = _; omega
  go_enter Tryz.func237, Tryz.ntmps237
  go_wp2
  go_ret
  exact ⟨ret_u32 (by rw [← HT.out, HK.out]), rfl⟩
set_option maxRecDepth 100000 in
theorem specTurn_any (x : Nat) (k : Nat) (K : Int) (hK : K = k) (w : World) (hx : x < 4294967296) (h0 : 1 ≤ k) (h1 : k ≤ 31) :
    Calls Tryz.prog 192 #[.int .u32 x, .int .u64 K] w fun e w' => e = .returned (.int .u32 (rotr k x : Nat)) ∧ w = w' := by
  subst hK
  have HT : Hid _ := turn_or x k hx
  go_enter Tryz.func192, Tryz.ntmps192
  go_wp2
  go_ret
  exact ⟨ret_u32 (by rw [← HT.out]), rfl⟩
theorem xor3 (a b c : Nat) (ha : a < 4294967296) (hb : b < 4294967296) (hc : c < 4294967296) : bits .xor .u32 (bits .xor .u32 (a : Int) (b : Int)) (c : Int) = ((a ^^^ b ^^^ c : Nat) : Int) := by
  rw [u32_xor_nat a b ha hb, u32_xor_nat _ c (lt32_xor ha hb) hc]
set_option maxRecDepth 100000 in
theorem implTri_any (x a b c : Nat) (A B C : Int) (hA : A = a) (hB : B = b) (hC : C = c) (w : World) (hx : x < 4294967296) (ha0 : 1 ≤ a) (ha1 : a ≤ 31) (hb0 : 1 ≤ b) (hb1 : b ≤ 31) (hc0 : 1 ≤ c) (hc1 : c ≤ 31) :
    Calls Tryz.prog 227 #[.int .u32 x, .int .i64 A, .int .i64 B, .int .i64 C] w fun e w' => e = .returned (.int .u32 (tri a b c x : Nat)) ∧ w = w' := by
  subst hA hB hC
  have HX : Hid _ := xor3 _ _ _ (rotr_lt a hx) (rotr_lt b hx) (rotr_lt c hx)
  have HT : Hid (tri a b c x = rotr a x ^^^ rotr b x ^^^ rotr c x) := rfl
  go_enter Tryz.func227, Tryz.ntmps227
  go_wp2_with fail
  refine (libRotate_any x a _ hx ha0 ha1).mono ?_
  rintro e w' ⟨rfl, rfl⟩
  go_wp2_with fail
  refine (libRotate_any x b _ hx hb0 hb1).mono ?_
  rintro e w' ⟨rfl, rfl⟩
  go_wp2_with fail
  refine (libRotate_any x c _ hx hc0 hc1).mono ?_
  rintro e w' ⟨rfl, rfl⟩
  go_wp2
  go_ret
  exact ⟨ret_u32 (by rw [HT.out, ← HX.out]), rfl⟩
set_option maxRecDepth 100000 in
theorem implDuo_any (x a b c : Nat) (A B C : Int) (hA : A = a) (hB : B = b) (hC : C = c) (w : World) (hx : x < 4294967296) (ha0 : 1 ≤ a) (ha1 : a ≤ 31) (hb0 : 1 ≤ b) (hb1 : b ≤ 31) (hc0 : 1 ≤ c) (hc1 : c ≤ 31) :
    Calls Tryz.prog 226 #[.int .u32 x, .int .i64 A, .int .i64 B, .int .i64 C] w fun e w' => e = .returned (.int .u32 (duo a b c x : Nat)) ∧ ∃ n, w' = w.drewN n := by
  subst hA hB hC
  have HX : Hid _ := xor3 _ _ _ (rotr_lt a hx) (rotr_lt b hx) (div_lt32 c hx)
  have HT : Hid (duo a b c x = rotr a x ^^^ rotr b x ^^^ (x / 2 ^ c)) := rfl
  have hc2 : (0 : Int) ≤ (c : Int) := by omega
  have hna := neg_in a (by omega)
  have hnb := neg_in b (by omega)
  go_enter Tryz.func226, Tryz.ntmps226
  go_wp2_with fail
  go_quiet ((first | (go_at_call_of 237 (Value.int IntKind.i64 (-(a : Int))); exact quiet_eq (libRotate_any x a _ hx ha0 ha1)) | (go_at_call_of 237 (Value.int IntKind.i64 (-(b : Int))); exact quiet_eq (libRotate_any x b _ hx hb0 hb1))))
  go_wp2
  go_ret
  exact ⟨ret_u32 (by rw [HT.out, ← HX.out, show ((x / 2 ^ c : Nat) : Int) = (x : Int) / 2 ^ c by simp]), _, rfl⟩
end Go.Proofs.YtialedffpaoacaaGreatDoor
