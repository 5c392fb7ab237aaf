/- Texts that stand on each other, in one file: SetU. -/
import Derived.Test.YtialedffpaoacaaGreatDoorPack25
import Derived.Test.YtialedffpaoacaaGreatDoorPack26
/- An Iface that goes up or down, in a list. (Written by gen_insti.py.) -/
namespace Go.Proofs.YtialedffpaoacaaGreatDoor
open Go.RowKit Go.Sort

/-- The list whose k-th Iface is up, or not. -/
def setU : List If → Nat → Bool → List If
  | [], _, _ => []
  | f :: t, 0, v => ⟨f.d, f.a, f.l, f.c, v⟩ :: t
  | f :: t, k + 1, v => f :: setU t k v
theorem setU_length : ∀ (is : List If) (k : Nat) (v : Bool), (setU is k v).length = is.length
  | [], _, _ => rfl
  | _ :: _, 0, _ => rfl
  | _ :: t, k + 1, v => by show (setU t k v).length + 1 = t.length + 1; rw [setU_length t k v]
theorem setU_get : ∀ (is : List If) (k j : Nat) (v : Bool) (h : j < is.length), (setU is k v)[j]'(by rw [setU_length]; exact h) = if j = k then ⟨is[j].d, is[j].a, is[j].l, is[j].c, v⟩ else is[j]
  | [], _, _, _, h => absurd h (by simp)
  | f :: t, 0, 0, v, _ => rfl
  | f :: t, 0, j + 1, v, _ => rfl
  | f :: t, k + 1, 0, v, _ => rfl
  | f :: t, k + 1, j + 1, v, h => by
    have := setU_get t k j v (by simpa using h)
    simp only [setU, List.getElem_cons_succ, Nat.add_right_cancel_iff]
    exact this
theorem rowI_setU : ∀ (is : List If) (k : Nat) (v : Bool) (rest : List Value), k < is.length → (rowI is ++ rest).set (k * 5 + 4) (.bool v) = rowI (setU is k v) ++ rest
  | [], _, _, _, h => absurd h (by simp)
  | f :: t, 0, v, rest, _ => by
    obtain ⟨d, a, l, c, u⟩ := f
    rfl
  | f :: t, k + 1, v, rest, h => by
    have hl : (ifL f).length = 5 := rfl
    show (rowI (f :: t) ++ rest).set ((k + 1) * 5 + 4) (.bool v) = rowI (f :: setU t k v) ++ rest
    rw [rowI_cons, rowI_cons, List.append_assoc, List.append_assoc, List.set_append_right _ _ (by rw [hl]; omega), hl, show (k + 1) * 5 + 4 - 5 = k * 5 + 4 by omega, rowI_setU t k v rest (by simpa using h)]
theorem ownsI_setU {w : World} {base b n cv : Nat} {is : List If} (h : w.ownsRow base 72 5 (.slice (some ⟨b, 0, none⟩) n cv) n (rowI is)) (hn : n = is.length) (k : Nat) (hk : k < is.length) (v : Bool) : (w.setCell ⟨b, k * 5 + 4, none⟩ (.bool v)).ownsRow base 72 5 (.slice (some ⟨b, 0, none⟩) n cv) n (rowI (setU is k v)) := by
  subst hn
  rcases ownsI_opened h with h0 | ⟨g, rest, e, hb, h1, h2, hr, hl⟩
  · subst h0
    simp at hk
  · simp only [Option.some.injEq, Addr.mk.injEq, and_true] at e
    subst e
    have hr2 := hr.set (k * 5 + 4) (.bool v)
    rw [rowI_setU is k v rest hk] at hr2
    refine ownsI_shut (setU_length is k v).symm hb h1 h2 hr2 ?_
    rw [List.length_append, rowI_length, setU_length]
    rw [List.length_append, rowI_length] at hl
    exact hl
theorem atW_up {base : Nat} {is : List If} {rs : List Rt} {now : Int} {g : Nat} {w : World} (h : AtW base is rs now g w) (k : Nat) (hk : k < is.length) : ∃ b k1, w.cell? ⟨g, 1, none⟩ = some (.slice (some ⟨b, 0, none⟩) is.length k1) ∧ (∃ u, w.cell? ⟨b, k * 5 + 4, none⟩ = some u) ∧ w.frozen? ⟨b, k * 5 + 4, none⟩ = false ∧ base ≤ b ∧ b < w.heap.size ∧ (∀ t l, Row w b t l → t = 72) ∧ ∀ v, AtW base (setU is k v) rs now g (w.setCell ⟨b, k * 5 + 4, none⟩ (.bool v)) := by
  obtain ⟨q1, k1, q2, k2, hg, hr, oi, orr⟩ := h
  rcases ownsI_opened oi with h0 | ⟨b, rest, rfl, hb, h1, h2, hrb, hl⟩
  · subst h0
    simp at hk
  · have hlt : k * 5 + 4 < (rowI is ++ rest).length := by rw [List.length_append, rowI_length]; omega
    refine ⟨b, k1, hr.cell 1, Row.someI hrb _ hlt, hrb.frozen _, hb, hrb.lt, fun t l ht => ?_, fun v => ?_⟩
    · unfold Row at ht hrb
      rw [hrb] at ht
      simp only [Option.some.injEq, Obj.cells.injEq] at ht
      exact ht.2.1.symm
    · have oi' := ownsI_setU oi rfl k hk v
      have hne : g ≠ b := row_ne hr hrb (by decide)
      have hr' := hr.other (k * 5 + 4) (.bool v) hne
      have or' := ownsR_kept rfl orr (fun c t l e h => h.other (k * 5 + 4) (.bool v) (fun e2 => ownsR_ne orr hrb (by decide) (by rw [e, e2])))
      rw [← setU_length is k v] at oi' hr'
      exact ⟨_, k1, q2, k2, hg, hr', oi', or'⟩
theorem lookW_any (base : Nat) (is : List If) (rs : List Rt) (now : Int) (g : Nat) (i : Int) (up : Bool) (w : World) (h : AtW base is rs now g w) (hn : is.length ≤ 100000000) :
    Calls Tryz.prog 101 #[.pointer (some ⟨g, 0, none⟩), .int .i64 i, .bool up] w fun e w' => e = .returned (.int .i64 (lookC is i up)) ∧ Below w.heap.size w w' := by
  obtain ⟨q1, k1, q2, k2, hg, hr, oi, orr⟩ := h
  exact look_any g q2 _ k2 q1 k1 now is i up w hr (ownsI_in rfl oi) hn
end Go.Proofs.YtialedffpaoacaaGreatDoor
