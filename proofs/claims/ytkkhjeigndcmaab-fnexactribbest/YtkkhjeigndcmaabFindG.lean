/- What RibFind's one drawn statement leaves, operation by operation. -/
import Derived.Test.YtkkhjeigndcmaabRibM
import Derived.Test.YtkkhjeigndcmaabToRt
import Derived.Test.YtkkhjeigndcmaabSteady2
namespace Go.Proofs.Ytkkhjeigndcmaab
open Go.RowKit Go.Sort

/-- The route V stored into block g. -/
def nineV (w : World) (g : Nat) (V : Rt) : World := nine0 w g (.int .i64 V.a) (.int .i64 V.l) (.int .i64 V.m) (.int .i64 V.n) (.int .i64 V.i) (.int .i64 V.t) (.int .i64 V.u) (.int .i64 V.b) (.bool V.c)
def FG (n1 : Nat) (x y : Value) (rs : List Rt) (V : Rt) (S : Bool) : Nat → (Nat → Value) → World → Prop
  | 0, f, _ => f 0 = x
  | 1, f, W => ∃ B, f 1 = tabV B ∧ MapIs W B rs
  | 2, f, _ => f 2 = y
  | 3, f, _ => f 3 = .tuple #[rtV V, .bool S]
  | 4, f, _ => f 4 = .tuple #[rtV V, .bool S]
  | 5, f, _ => f 5 = rtV V
  | 6, f, _ => f 6 = .bool S
  | 7, f, W => ∃ g, f 7 = .pointer (some ⟨g, 0, none⟩) ∧ n1 ≤ g ∧ (Row W g 30 (rtL zeroR) ∨ Row W g 30 (rtL V))
  | 8, f, W => ∃ g, f 7 = .pointer (some ⟨g, 0, none⟩) ∧ n1 ≤ g ∧ Row W g 30 (rtL V)
  | 9, f, _ => f 9 = .bool S
  | _, _, _ => True
/-- What one operation may do: lay memory behind, or store V into a block that the statement has made. -/
def FR (n1 : Nat) (V : Rt) (w w' : World) : Prop := Below w.heap.size w w' ∨ ∃ g, n1 ≤ g ∧ (Row w g 30 (rtL zeroR) ∨ Row w g 30 (rtL V)) ∧ w' = nineV w g V
theorem nineV_row {w : World} {g : Nat} {t : TypeId} (V Z : Rt) (h : Row w g t (rtL Z)) : Row (nineV w g V) g t (rtL V) := nine0_row h _ _ _ _ _ _ _ _ _
theorem nineV_other {w : World} {g k : Nat} {t : TypeId} {l : List Value} (V : Rt) (h : Row w g t l) (hk : g ≠ k) : Row (nineV w k V) g t l := nine0_other h k hk _ _ _ _ _ _ _ _ _
theorem nineV_below {B : Nat} {w0 w : World} (h : Below B w0 w) (g : Nat) (hg : B ≤ g) (V : Rt) : Below B w0 (nineV w g V) := nine0_below h g hg _ _ _ _ _ _ _ _ _
theorem nineV_map {w : World} {g B : Nat} {t : TypeId} {l : List Value} {rs : List Rt} (V : Rt) (h : MapIs w B rs) (hr : Row w g t l) : MapIs (nineV w g V) B rs := by
  have hne : g ≠ B := by
    intro e
    subst e
    obtain ⟨es, c, hb, _⟩ := h
    have hr' : w.heap[g]? = some (.cells l.toArray t (0, 0)) := hr
    rw [hr'] at hb
    cases hb
  unfold nineV nine0
  exact ((((((((h.set _ hne _).set _ hne _).set _ hne _).set _ hne _).set _ hne _).set _ hne _).set _ hne _).set _ hne _).set _ hne _
theorem FR.row {n1 : Nat} {V Z : Rt} {w w' : World} {g : Nat} (hr : FR n1 V w w') (h : Row w g 30 (rtL Z)) : Row w' g 30 (rtL Z) ∨ Row w' g 30 (rtL V) := by
  rcases hr with hb | ⟨g', _, _, rfl⟩
  · exact .inl (h.below hb h.lt)
  · by_cases e : g = g'
    · subst e; exact .inr (nineV_row V Z h)
    · exact .inl (nineV_other V h e)
theorem FG_stab {n1 : Nat} {x y : Value} {rs : List Rt} {V : Rt} {S : Bool} : ∀ (i : Nat) (f : Nat → Value) (w1 w2 : World), FG n1 x y rs V S i f w1 → FR n1 V w1 w2 → FG n1 x y rs V S i f w2
  | 0, _, _, _, h, _ => h
  | 1, _, _, _, ⟨B, e, h⟩, hr => ⟨B, e, by
    rcases hr with hb | ⟨g', _, hg | hg, rfl⟩
    · exact h.below hb h.lt
    · exact nineV_map V h hg
    · exact nineV_map V h hg⟩
  | 2, _, _, _, h, _ => h
  | 3, _, _, _, h, _ => h
  | 4, _, _, _, h, _ => h
  | 5, _, _, _, h, _ => h
  | 6, _, _, _, h, _ => h
  | 7, _, _, _, ⟨g, e, hg, h⟩, hr => ⟨g, e, hg, by
    rcases h with h | h
    · exact hr.row h
    · rcases hr.row h with h' | h' <;> exact .inr h'⟩
  | 8, _, _, _, ⟨g, e, hg, h⟩, hr => ⟨g, e, hg, by rcases hr.row h with h' | h' <;> exact h'⟩
  | 9, _, _, _, h, _ => h
  | _ + 10, _, _, _, _, _ => trivial
end Go.Proofs.Ytkkhjeigndcmaab
