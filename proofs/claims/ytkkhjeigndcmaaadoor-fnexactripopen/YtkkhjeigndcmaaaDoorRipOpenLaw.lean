/- At every text, key and last seq RipOpen of the program answers as the model; its answer owns its memory. -/
import Derived.Test.YtkkhjeigndcmaaaDoorWRipOpen
import Derived.Test.YtkkhjeigndcmaaaDoorTie
import Derived.Test.YtkkhjeigndcmaaaDoorCards
import Derived.WalkKit
import Derived.ProofKit
import Derived.OpenShut
import Derived.ShutString
import Derived.ChangeOld
import Derived.Below
import Derived.LaidLaws
import Derived.LaidHandle
import Derived.Stop.Joined
import Derived.SevenTiedAt
import Derived.OpenVars
import Derived.ChangeVars
namespace Go.Proofs.YtkkhjeigndcmaaaDoor.fnExactRipOpen
open Go.ChangeShapes Go.WideShapes Go.ChangeAt Go.RowKit
open Go.ChangeMaps (open_string shut_string)
set_option linter.unusedVariables false

theorem own : ownKnob Tryd.prog.godebug = none := by kernel_rfl
theorem laidOut : laidOutB Tryd.prog = true := by kernel_rfl

/-- The six texts. -/
def errT : Nat → List UInt8
  | 0 => [114, 105, 112, 58, 32, 109, 111, 114, 101, 32, 98, 121, 116, 101, 115, 32, 116, 104, 97, 110, 32, 109, 97, 121, 32, 98, 101, 32, 104, 97, 110, 100, 101, 100, 32, 105, 110]
  | 1 => [114, 105, 112, 58, 32, 97, 32, 107, 101, 121, 32, 111, 114, 32, 97, 32, 108, 97, 115, 116, 32, 115, 101, 113, 32, 116, 104, 97, 116, 32, 109, 97, 121, 32, 110, 111, 116, 32, 98, 101]
  | 2 => [114, 105, 112, 58, 32, 102, 101, 119, 101, 114, 32, 98, 121, 116, 101, 115, 32, 116, 104, 97, 110, 32, 97, 110, 121, 32, 115, 105, 103, 110, 101, 100, 32, 111, 110, 101, 32, 104, 97, 115]
  | 3 => [114, 105, 112, 58, 32, 97, 110, 111, 116, 104, 101, 114, 32, 109, 97, 99]
  | 4 => [114, 105, 112, 58, 32, 110, 111, 32, 114, 105, 103, 104, 116, 32, 111, 110, 101, 39, 115, 32, 98, 121, 116, 101, 115]
  | 5 => [114, 105, 112, 58, 32, 97, 32, 115, 101, 113, 32, 110, 111, 32, 108, 97, 116, 101, 114, 32, 116, 104, 97, 110, 32, 116, 104, 101, 32, 108, 97, 115, 116]
  | _ => []
theorem errT_ne : ∀ i, i < 6 → ∀ j, j < 6 → i ≠ j → errT i ≠ errT j := by decide +kernel
set_option maxRecDepth 100000 in
/-- What the row's list gives a walk. -/
theorem laid_of {W : World} (h : laidMetH Tryd.prog Rows.fnExactRipOpenRow.laid W) : (∃ A, ErrsIn W A) ∧ Laid W := by
  have h0 : laidMet Tryd.prog Rows.fnExactRipOpenRow.laid W := h
  have h1 := laid_tail h0
  have h2 := laid_tail h1
  have h3 := laid_tail h2
  have h4 := laid_tail h3
  have h5 := laid_tail h4
  have h6 := laid_tail h5
  refine ⟨errsIn_of errT errT_ne fun i hi => ?_, laid_keys (rest := _) (by kernel_rfl) h0⟩
  match i, hi with
  | 0, _ => exact laid_one h1 (by kernel_rfl) (by kernel_rfl)
  | 1, _ => exact laid_one h2 (by kernel_rfl) (by kernel_rfl)
  | 2, _ => exact laid_one h3 (by kernel_rfl) (by kernel_rfl)
  | 3, _ => exact laid_one h4 (by kernel_rfl) (by kernel_rfl)
  | 4, _ => exact laid_one h5 (by kernel_rfl) (by kernel_rfl)
  | 5, _ => exact laid_one h6 (by kernel_rfl) (by kernel_rfl)
  | n + 6, hi => exact absurd hi (by omega)

set_option maxRecDepth 100000 in
theorem lifted (os : Os) (started : os.Started) (H : Type) (enc : TypeId × Value → H) :
    ReturnsInHanded {} Tryd.checked os 3 .any (fun w args => (Rows.fnExactRipOpenSpec.pre enc Tryd.prog Tryd.f3 [] false w args ∧ laidMetH Tryd.prog Rows.fnExactRipOpenRow.laid w) ∧ sizedMet enc Tryd.prog Tryd.f3 (OpenSpec.ofChange Rows.fnExactRipOpenSpec) false w args)
      (Rows.fnExactRipOpenSpec.post enc Tryd.prog Tryd.f3 false true false false) := by
  refine returnsInHanded_of_change_and (C := Tryd.checked) (X := fun w _ => laidMetH Tryd.prog Rows.fnExactRipOpenRow.laid w) (fun _ _ _ hh h => h.of_heap hh) own started (by kernel_rfl) Tryd.func3
    (ChangeSpec.witness_at (enc := enc) (C := Tryd.checked) (os := os) (X := fun w _ => laidMetH Tryd.prog Rows.fnExactRipOpenRow.laid w) false ({ World.holding Tryd.prog os ⟨#[.cells #[.string { data := #[114, 105, 112, 58, 32, 109, 111, 114, 101, 32, 98, 121, 116, 101, 115, 32, 116, 104, 97, 110, 32, 109, 97, 121, 32, 98, 101, 32, 104, 97, 110, 100, 101, 100, 32, 105, 110] }] 132, .cells #[.string { data := #[114, 105, 112, 58, 32, 97, 32, 107, 101, 121, 32, 111, 114, 32, 97, 32, 108, 97, 115, 116, 32, 115, 101, 113, 32, 116, 104, 97, 116, 32, 109, 97, 121, 32, 110, 111, 116, 32, 98, 101] }] 132, .cells #[.string { data := #[114, 105, 112, 58, 32, 102, 101, 119, 101, 114, 32, 98, 121, 116, 101, 115, 32, 116, 104, 97, 110, 32, 97, 110, 121, 32, 115, 105, 103, 110, 101, 100, 32, 111, 110, 101, 32, 104, 97, 115] }] 132, .cells #[.string { data := #[114, 105, 112, 58, 32, 97, 110, 111, 116, 104, 101, 114, 32, 109, 97, 99] }] 132, .cells #[.string { data := #[114, 105, 112, 58, 32, 110, 111, 32, 114, 105, 103, 104, 116, 32, 111, 110, 101, 39, 115, 32, 98, 121, 116, 101, 115] }] 132, .cells #[.string { data := #[114, 105, 112, 58, 32, 97, 32, 115, 101, 113, 32, 110, 111, 32, 108, 97, 116, 101, 114, 32, 116, 104, 97, 110, 32, 116, 104, 101, 32, 108, 97, 115, 116] }] 132], #[], []⟩ with heap := ((((((((World.holding Tryd.prog os ⟨#[.cells #[.string { data := #[114, 105, 112, 58, 32, 109, 111, 114, 101, 32, 98, 121, 116, 101, 115, 32, 116, 104, 97, 110, 32, 109, 97, 121, 32, 98, 101, 32, 104, 97, 110, 100, 101, 100, 32, 105, 110] }] 132, .cells #[.string { data := #[114, 105, 112, 58, 32, 97, 32, 107, 101, 121, 32, 111, 114, 32, 97, 32, 108, 97, 115, 116, 32, 115, 101, 113, 32, 116, 104, 97, 116, 32, 109, 97, 121, 32, 110, 111, 116, 32, 98, 101] }] 132, .cells #[.string { data := #[114, 105, 112, 58, 32, 102, 101, 119, 101, 114, 32, 98, 121, 116, 101, 115, 32, 116, 104, 97, 110, 32, 97, 110, 121, 32, 115, 105, 103, 110, 101, 100, 32, 111, 110, 101, 32, 104, 97, 115] }] 132, .cells #[.string { data := #[114, 105, 112, 58, 32, 97, 110, 111, 116, 104, 101, 114, 32, 109, 97, 99] }] 132, .cells #[.string { data := #[114, 105, 112, 58, 32, 110, 111, 32, 114, 105, 103, 104, 116, 32, 111, 110, 101, 39, 115, 32, 98, 121, 116, 101, 115] }] 132, .cells #[.string { data := #[114, 105, 112, 58, 32, 97, 32, 115, 101, 113, 32, 110, 111, 32, 108, 97, 116, 101, 114, 32, 116, 104, 97, 110, 32, 116, 104, 101, 32, 108, 97, 115, 116] }] 132], #[], []⟩).heap.modify 3 fun | .cells _ t frozen => .cells #[.iface 107 (.pointer (some ⟨(World.holding Tryd.prog os ⟨#[], #[], []⟩).heap.size + 0, 0, none⟩))] t frozen | o => o).modify 4 fun | .cells _ t frozen => .cells #[.iface 107 (.pointer (some ⟨(World.holding Tryd.prog os ⟨#[], #[], []⟩).heap.size + 1, 0, none⟩))] t frozen | o => o).modify 5 fun | .cells _ t frozen => .cells #[.iface 107 (.pointer (some ⟨(World.holding Tryd.prog os ⟨#[], #[], []⟩).heap.size + 2, 0, none⟩))] t frozen | o => o).modify 0 fun | .cells _ t frozen => .cells #[.iface 107 (.pointer (some ⟨(World.holding Tryd.prog os ⟨#[], #[], []⟩).heap.size + 3, 0, none⟩))] t frozen | o => o).modify 1 fun | .cells _ t frozen => .cells #[.iface 107 (.pointer (some ⟨(World.holding Tryd.prog os ⟨#[], #[], []⟩).heap.size + 4, 0, none⟩))] t frozen | o => o).modify 2 fun | .cells _ t frozen => .cells #[.iface 107 (.pointer (some ⟨(World.holding Tryd.prog os ⟨#[], #[], []⟩).heap.size + 5, 0, none⟩))] t frozen | o => o).modify 6 fun | .cells _ t frozen => .cells (valsU keysN).toArray t frozen | o => o) }) #[.string ByteArray.empty, .string ByteArray.empty, .int .i64 0] 8 rfl (by kernel_rfl) (by kernel_rfl) (by kernel_rfl) (by kernel_rfl) (by kernel_rfl) (laidMetH_of_parts (laidMet_of_run' 8 (by kernel_rfl) (by kernel_rfl)) (by kernel_rfl))) ?_
  intro W base args ds gs before hval0 hW _ _ hL _
  have hval : ∀ (j : Nat) t v, Tryd.f3.params[j]? = some t → args[j]? = some v → Value.okWide Tryd.prog W .any base t v := hval0
  have hW' := hW
  obtain ⟨p, q, hA0, hV, rfl, hfz, hnd⟩ := hW
  have hA : DataW.TrodAll enc Tryd.prog W 0 (fun _ => true) true Tryd.f3.params.toList args.toList ds p := hA0
  rw [Tryd.params3] at hA hval
  obtain ⟨v0, vs0, d0, ds0, p0, q0, hargs, rfl, rfl, h0, r0⟩ := trodAll_cons hA
  obtain ⟨v1, vs1, d1, ds1, p1, q1, rfl, rfl, rfl, h1, r1⟩ := trodAll_cons r0
  obtain ⟨v2, vs2, d2, ds2, p2, q2, rfl, rfl, rfl, h2, r2⟩ := trodAll_cons r1
  obtain ⟨rfl, rfl, rfl⟩ := trodAll_nil r2
  obtain rfl : args = #[v0, v1, v2] := by cases args; simp_all
  have hV0 := hV
  obtain ⟨gd0, gr0, gq0, rfl, hV1⟩ := trodVars_head hV
  obtain ⟨gd1, gr1, gq1, rfl, hV2⟩ := trodVars_head hV1
  obtain ⟨gd2, gr2, gq2, rfl, hV3⟩ := trodVars_head hV2
  obtain ⟨gd3, gr3, gq3, rfl, hV4⟩ := trodVars_head hV3
  obtain ⟨gd4, gr4, gq4, rfl, hV5⟩ := trodVars_head hV4
  obtain ⟨gd5, gr5, gq5, rfl, hV6⟩ := trodVars_head hV5
  obtain ⟨gd6, gr6, gq6, rfl, hV7⟩ := trodVars_head hV6
  obtain rfl := trodVars_end hV7
  have k0 := h0
  have lt0 : ∀ x ∈ p0, x.block < W.heap.size := by obtain ⟨m, hm⟩ := k0; exact DataW.trod_lt m _ _ _ hm
  obtain ⟨a0, rfl, rfl, rfl, w0⟩ := open_string Tryd.underlying9 (hval 0 9 v0 rfl rfl) h0
  have k1 := h1
  have lt1 : ∀ x ∈ p1, x.block < W.heap.size := by obtain ⟨m, hm⟩ := k1; exact DataW.trod_lt m _ _ _ hm
  obtain ⟨a1, rfl, rfl, rfl, w1⟩ := open_string Tryd.underlying9 (hval 1 9 v1 rfl rfl) h1
  have k2 := h2
  have lt2 : ∀ x ∈ p2, x.block < W.heap.size := by obtain ⟨m, hm⟩ := k2; exact DataW.trod_lt m _ _ _ hm
  obtain ⟨a2, rfl, rfl, rfl, w2⟩ := open_int Tryd.underlying2 (hval 2 2 v2 rfl rfl) h2
  clear hA0 hval0
  obtain ⟨⟨A, hE⟩, hK⟩ := laid_of hL
  refine (fnExactRipOpen_walk a0 a1 a2 W w0 w1 w2 A hE hK).mono fun e W' ⟨he, bel⟩ => ?_
  subst he
  exact ⟨_, rfl, _, _, _, [], _, q, hW', trodAll_mk1 (shut_bool Tryd.underlying4 _), (trodAll_cons_mk (Below.trod laidOut (by kernel_rfl) (of_decide_eq_true (by kernel_rfl)) k0 bel lt0) (trodAll_cons_mk (Below.trod laidOut (by kernel_rfl) (of_decide_eq_true (by kernel_rfl)) k1 bel lt1) (trodAll_cons_mk (Below.trod laidOut (by kernel_rfl) (of_decide_eq_true (by kernel_rfl)) k2 bel lt2) trodAll_mk0))), Below.trodVars laidOut bel (by kernel_rfl) hV0, bel.frame _, fun h => by cases h⟩

theorem said : Rows.FnExactRipOpenSaid :=
  OpenClaim.holds_of_wide 3 Tryd.f3 rfl rfl rfl rfl rfl rfl rfl ⟨rfl, rfl, rfl, rfl, rfl⟩ rfl rfl rfl rfl rfl (by kernel_rfl) Tryd.func3 (by kernel_rfl)
    (of_decide_eq_true (by kernel_rfl)) (by unfold Func.isWrapper; first | (rw [if_pos (by decide +kernel)]; kernel_rfl) | (rw [if_neg (by decide +kernel)]; exact ⟨rfl, rfl⟩))
    (fun os started H enc _ => lifted os started H enc)

theorem plain (f : FuncId) (fn : Func) (hf : Tryd.pinned.checked.prog.funcNamed Rows.fnExactRipOpenRow.func = some f) (hfn : Tryd.pinned.checked.prog.funcs[f]? = some fn) :
    true = Tryd.pinned.checked.prog.looks [] ∧ ∀ (j : Nat) t, fn.params[j]? = some t → Tryd.pinned.checked.prog.wantsStandIn t = false := by
  obtain rfl : f = 3 := Option.some.inj ((show Tryd.prog.funcNamed Rows.fnExactRipOpenRow.func = some 3 by kernel_rfl).symm.trans hf) |>.symm
  obtain rfl : fn = Tryd.f3 := (Option.some.inj (Tryd.func3.symm.trans hfn)).symm
  refine ⟨by kernel_rfl, fun j t ht => ?_⟩
  rw [Tryd.params3] at ht
  have ht2 : t = 9 ∨ t = 2 := by simpa using Array.mem_of_getElem? ht
  rcases ht2 with rfl | rfl
  · exact (show Tryd.prog.wantsStandIn 9 = false by kernel_rfl)
  · exact (show Tryd.prog.wantsStandIn 2 = false by kernel_rfl)

theorem card : Rows.FnExactRipOpenCardSaid :=
  Claim7.holds_tied_plain_at .later [] _ _ _ _ said (fun _ h => by cases h) (by kernel_rfl) (fun _ h => by cases h) fnExactRipOpen_row_tie rfl ⟨rfl, rfl⟩ (by kernel_rfl) rfl plain (by kernel_rfl)
end Go.Proofs.YtkkhjeigndcmaaaDoor.fnExactRipOpen
namespace Go.Proofs.YtkkhjeigndcmaaaDoor
theorem fnExactRipOpen_holds : Rows.FnExactRipOpenCardSaid := fnExactRipOpen.card
#print axioms fnExactRipOpen_holds
end Go.Proofs.YtkkhjeigndcmaaaDoor
