/- Lists of whole numbers that a call makes by appending. (Written by gen_srcs.py.) -/
import Derived.Test.YtpkjkjepmloddaaOwnV
import Derived.Test.YtpkjkjepmloddaaCmpI
namespace Go.Proofs.Ytpkjkjepmloddaa
open Go.RowKit Go.Sort

/-- The slice value v owns just the numbers l, in memory from block 'base' on. -/
def OwnJ (w : World) (base : Nat) (v : Value) (l : List Int) : Prop := Own w base 2 v (flatJ l)
theorem OwnJ.nil (w : World) (base : Nat) : OwnJ w base (.slice none 0 0) [] := Own.nil w base _
theorem OwnJ.made (w : World) (base : Nat) (hb : base ≤ w.heap.size) : OwnJ (w.alloc (.cells #[] 2)) base (.slice (some ⟨w.heap.size, 0, none⟩) 0 0) [] := Own.made w base _ hb
theorem OwnJ.one (w : World) (base : Nat) (hb : base ≤ w.heap.size) (x : Int) : OwnJ (w.alloc (.cells #[.int .i64 x] 2)) base (.slice (some ⟨w.heap.size, 0, none⟩) 1 1) [x] :=
  ⟨rfl, .inr ⟨w.heap.size, 1, #[.int .i64 x], rfl, hb, heap_alloc_new w _, Nat.le_refl _, by unfold maxLen; omega, rfl, rfl⟩⟩
theorem OwnJ.alloc {w : World} {base : Nat} {v : Value} {l : List Int} (h : OwnJ w base v l) (o : Obj) : OwnJ (w.alloc o) base v l := Own.alloc h o
theorem OwnJ.below {w w' : World} {base : Nat} {v : Value} {l : List Int} (h : OwnJ w base v l) (hb : Below w.heap.size w w') : OwnJ w' base v l := Own.below h hb
theorem OwnJ.mono {w : World} {base base' : Nat} {v : Value} {l : List Int} (h : OwnJ w base v l) (hb : base' ≤ base) : OwnJ w base' v l := Own.mono h hb
theorem OwnJ.shape {w : World} {base : Nat} {v : Value} {l : List Int} (h : OwnJ w base v l) : ∃ p cap, v = .slice p l.length cap := by
  unfold OwnJ Own at h
  rw [flatJ_length] at h
  rcases h.2 with ⟨hv, hn⟩ | ⟨g, cap, cur, hv, _⟩
  · exact ⟨none, 0, by rw [hv, hn]⟩
  · exact ⟨_, cap, hv⟩
theorem OwnJ.ints {w : World} {base : Nat} {p : Option Addr} {n cap : Nat} {l : List Int} (h : OwnJ w base (.slice p n cap) l) (hl : l ≠ []) : n = l.length ∧ ∃ g c, p = some ⟨g, 0, none⟩ ∧ base ≤ g ∧ l.length ≤ cap ∧ IntsAt w g c l := by
  unfold OwnJ Own at h
  rw [flatJ_length] at h
  rcases h.2 with ⟨hv, hn⟩ | ⟨g, cap', cur, hv, h2, h3, h4, h5, h6, h7⟩
  · exact absurd (List.length_eq_zero_iff.1 hn) hl
  · simp only [Value.slice.injEq] at hv
    obtain ⟨rfl, rfl, rfl⟩ := hv
    refine ⟨rfl, g, cur.size, rfl, h2, h4, cur.toList, h3, ?_, by simp⟩
    simpa using h7
/-- 'v = append(v, x)', x laid in a block of its own just ahead. -/
theorem wpList_append_int {w : World} {ops : Array Oper} {rest : List Oper} {o : Oper} {a : Act} {Q : Exit → Act → World → Prop} (hgd : o.guard = none) (s x : Operand)
    (ho : o.op = .call { callee := .builtin .append, args := #[s, x], argTypes := #[41, 41] })
    (base : Nat) (v : Value) (l : List Int) (hs : a.eval s = v) (hown : OwnJ w base v l) (g c : Nat) (e : Int) (hx : a.eval x = .slice (some ⟨g, 0, none⟩) 1 c) (hr : Row w g 2 [.int .i64 e])
    (hlen : l.length ≤ 1000000) (hbase : base ≤ w.heap.size)
    (h : ∀ v' w', OwnJ w' base v' (l ++ [e]) → Below base w w' → wpList Try.prog ops Q rest (a.put o.dst v') w') : wpList Try.prog ops Q (o :: rest) a w := by
  refine wpList_append_vals hgd s x 41 ho base 2 Try.underlying41 (.int .i64 0) rfl 8 (by omega) Try.infoI64 v (flatJ l) [.int .i64 e] hs hown g c hx (fun j u hj => (hr.cell j).trans hj) ?_ ?_ hbase ?_
  · intro u hu
    simp only [List.mem_singleton] at hu
    subst hu
    rfl
  · rw [flatJ_length]; simp; omega
  · intro v' w' h1 h2
    refine h v' w' ?_ h2
    have e : flatJ (l ++ [e]) = flatJ l ++ [.int .i64 e] := by simp [flatJ]
    unfold OwnJ
    rw [e]
    exact h1
end Go.Proofs.Ytpkjkjepmloddaa
