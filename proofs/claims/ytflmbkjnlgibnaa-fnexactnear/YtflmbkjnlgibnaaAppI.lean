/- Ifaces appended to a list of the call's own; owned lists of Ifaces. (Written by gen_near.py.) -/
import Derived.Test.YtflmbkjnlgibnaaMakeIfs
namespace Go.Proofs.Ytflmbkjnlgibnaa
open Go.RowKit Go.Sort

theorem ownsI_none {w : World} {base : Nat} {v : Value} {n : Nat} {xs : List Value} (h : w.ownsRow base 82 5 v n xs) (ty : TypeId) : (Builtin.append_ #[30, 30] ty #[v, .slice none 0 0]).run Try.prog w = .ok v w := by
  obtain ⟨i0, hi0, _, _, _⟩ := info_parts Try.infoI
  exact run_append_owned_none w base _ ty 82 i0 5 Try.underlying30 hi0 v n xs h
theorem run_append_ifs (w : World) (base : Nat) (v : Value) (ls ms : List If) (q : Option Addr) (c : Nat) (ty : TypeId) (hown : w.ownsRow base 82 5 v ls.length (rowI ls)) (hq0 : q = none → ms = [] ∧ c = 0)
    (hq : ∀ ad, q = some ad → ∀ j u, (rowI ms)[j]? = some u → w.cell? (ad.add j) = some u) (hlen : ls.length + ms.length ≤ 1000000000) (hbase : base ≤ w.heap.size) :
    ∃ v' w', (Builtin.append_ #[30, 30] ty #[v, .slice q ms.length c]).run Try.prog w = .ok v' w' ∧ w'.ownsRow base 82 5 v' (ls ++ ms).length (rowI (ls ++ ms)) ∧ Below base w w' := by
  obtain ⟨i0, hi0, hz0, hz1, hz2⟩ := info_parts Try.infoI
  cases q with
  | none =>
    obtain ⟨rfl, rfl⟩ := hq0 rfl
    exact ⟨v, w, ownsI_none hown ty, by rw [List.append_nil]; exact hown, Below.refl _ _⟩
  | some ad =>
    obtain ⟨v', w', hr, h2, h3, _⟩ := run_append_own (P := Try.prog) w base _ ty 82 i0 _ 5 40 Try.underlying30 hi0 hz0 hz1 hz2 rfl (by decide) v ls.length (rowI ls) hown ad ms.length c (rowI ms) (by rw [rowI_length]; omega) (hq ad rfl) (rowI_one ms) (by unfold maxLen; omega) (by omega) hbase
    refine ⟨v', w', hr, ?_, (Below.refl base w).grown h3 hbase fun k hk => (World.ownsRow.lt hown k hk).1⟩
    rw [List.length_append, rowI_append]
    exact h2
theorem ifsIn_none {w : World} {p : Option Addr} {rs : List If} (h : IfsIn w p rs) : p = none → rs = [] := by
  rintro rfl
  rcases h with h | ⟨g, e, _⟩
  · exact h
  · cases e
theorem ownsI_shape {w : World} {base n : Nat} {v : Value} {xs : List Value} (h : w.ownsRow base 82 5 v n xs) : ∃ q c, v = .slice q n c := by
  rcases h.2 with ⟨h1, h2⟩ | ⟨g, cap, cur, h1, _⟩
  · exact ⟨none, 0, by rw [h1, h2]⟩
  · exact ⟨_, _, h1⟩
theorem ownsI_below {w w' : World} {base n : Nat} {v : Value} {xs : List Value} (h : w.ownsRow base 82 5 v n xs) (hb : Below w.heap.size w w') : w'.ownsRow base 82 5 v n xs :=
  World.ownsRow.kept h (row := none) ⟨hb.os, hb.tape, hb.output, hb.size, fun k hk _ => hb.block k hk⟩ (by cases v.ownBlock <;> simp)
theorem ownsI_mono {w : World} {base base' n : Nat} {v : Value} {xs : List Value} (h : w.ownsRow base 82 5 v n xs) (hb : base' ≤ base) : w.ownsRow base' 82 5 v n xs := by
  rcases h.2 with ⟨h1, h2⟩ | ⟨g, cap, cur, h1, h2, h3, h4, h5, h6, h7⟩
  · exact ⟨h.1, .inl ⟨h1, h2⟩⟩
  · exact ⟨h.1, .inr ⟨g, cap, cur, h1, by omega, h3, h4, h5, h6, h7⟩⟩
theorem ownsI_opened {w : World} {base : Nat} {p : Option Addr} {cv : Nat} {es : List If} (h : w.ownsRow base 82 5 (.slice p es.length cv) es.length (rowI es)) : es = [] ∨ ∃ g rest, p = some ⟨g, 0, none⟩ ∧ base ≤ g ∧ es.length ≤ cv ∧ cv ≤ maxLen ∧ Row w g 82 (rowI es ++ rest) ∧ (rowI es ++ rest).length = cv * 5 := by
  rcases h.2 with ⟨_, h2⟩ | ⟨g, cap, cur, h1, h2, h3, h4, h5, h6, h7⟩
  · exact .inl (List.length_eq_zero_iff.1 h2)
  · simp only [Value.slice.injEq] at h1
    obtain ⟨rfl, -, rfl⟩ := h1
    refine .inr ⟨g, cur.toList.drop (es.length * 5), rfl, h2, h4, h5, ?_, ?_⟩
    · unfold Row
      rw [← h7, List.take_append_drop]
      simpa using h3
    · rw [← h7, List.take_append_drop]
      simpa using h6
theorem ownsI_shut {w : World} {base g n cv : Nat} {es : List If} {rest : List Value} (hn : n = es.length) (hb : base ≤ g) (h4 : n ≤ cv) (h5 : cv ≤ maxLen) (hr : Row w g 82 (rowI es ++ rest)) (hl : (rowI es ++ rest).length = cv * 5) : w.ownsRow base 82 5 (.slice (some ⟨g, 0, none⟩) n cv) n (rowI es) := by
  subst hn
  refine ⟨by rw [rowI_length]; omega, .inr ⟨g, cv, (rowI es ++ rest).toArray, rfl, hb, hr, h4, h5, by simpa using hl, ?_⟩⟩
  simp only [List.take_append_of_le_length (show es.length * 5 ≤ (rowI es).length by rw [rowI_length]; omega)]
  rw [List.take_of_length_le (by rw [rowI_length]; omega)]
theorem ifsIn_rest {w : World} {g : Nat} {t : TypeId} {es : List If} {rest : List Value} (h : Row w g t (rowI es ++ rest)) : IfsIn w (some ⟨g, 0, none⟩) es := .inr ⟨g, rfl, h.lt, fun j u hj => by rw [h.cell, List.getElem?_append_left (List.getElem?_eq_some_iff.1 hj).1]; exact hj⟩
theorem ownsI_in {w : World} {base : Nat} {p : Option Addr} {n cv : Nat} {es : List If} (hn : n = es.length) (h : w.ownsRow base 82 5 (.slice p n cv) n (rowI es)) : IfsIn w p es := by
  subst hn
  rcases ownsI_opened h with h0 | ⟨g, rest, rfl, -, -, -, hr, -⟩
  · exact .inl h0
  · exact ifsIn_rest hr
end Go.Proofs.Ytflmbkjnlgibnaa
