/- The law of Tail.lean where the callees among the first operations make memory: the class of worlds is 'with some blocks laid behind'. -/
import Derived.Test.YtchgnjpbjnkdmaaTail
import Derived.Lib.QuietBelow
namespace Go.Proofs.Ytchgnjpbjnkdmaa
open Go Go.RowKit Go.Sort

section
variable {P : Program}

theorem wpAny_fromC {Q : Exit → Act → World → Prop} {a : Act} {w : World} {l : List Oper} {C : World → Prop} (hC0 : C { w with drawn := w.drawn + 1 }) (c m : Nat) (hB : tailChk l c m = true)
    (h : wpQuiet P (l.take m).toArray C (fun a' => ∀ w', C w' → wpList P l.toArray Q (l.drop m) a' w') ((l.take m).drop c) a) :
    wpAny P .any l.toArray Q (l.length - c) (leadL l.length c) a { w with drawn := w.drawn + 1 } := by
  simp only [tailChk, Bool.and_eq_true, decide_eq_true_eq] at hB
  obtain ⟨hcm, hml, hT, hS, hL, hE⟩ := hB
  have hlen : ((l.take m).drop c).length = m - c := by simp [hml]
  have h1 := wpAnyQ_lex (P := P) (C := C) (md := .any) hS ((l.take m).drop c) c (leadL m c) a (by intro j; simp) (by rw [hlen]; exact hL) h
  have h2 := wpAny_front (P := P) (md := .any) (Q := Q) hcm hml hT (C := C) (fun a w' hC h' => h' w' hC) ((l.take m).drop c).length (leadL m c) (leadL l.length c) a { w with drawn := w.drawn + 1 }
    (by simp [leadL]; omega) (by simp [leadL]; omega) (by intro j hj; rw [leadL_getD _ _ _ hj hcm, leadL_getD _ _ _ (by omega) (by omega)]) (by intro j hj hjl; rw [leadL_getD _ _ _ hjl (by omega)]; simp; omega) (by intro j hj; rw [leadL_getD _ _ _ (by omega) (by omega)]; simpa using hj) ?_ hC0 h1
  · rw [hlen, show m - c + (l.length - m) = l.length - c by omega] at h2
    exact h2
  · intro k o ho hk e he
    have hlt : k < l.length := by simpa using (Array.getElem?_eq_some_iff.1 ho).1
    rw [leadL_getD _ _ _ hlt (by omega)] at hk
    have hkc : k < c := by simpa using hk
    have h3 := (List.all_eq_true.1 hE) k (List.mem_range.2 hkc)
    simp only [ho] at h3
    have : o.after = #[] := by simpa using h3
    rw [this] at he
    simp at he
theorem wp_region_tail_below {id : Nat} {Q : Exit → Act → World → Prop} {a : Act} {w : World} {l : List Oper} (m : Nat) (hm : P.follows .mixedOrders = true) (hB : tailChk l 0 m = true)
    (h : wpQuiet P (l.take m).toArray (fun w' => ∃ p : Regrown, w' = grow (redrawn w p.d) p.os) (fun a' => ∀ w', (∃ p : Regrown, w' = grow (redrawn w p.d) p.os) → wpList P l.toArray Q (l.drop m) a' w') (l.take m) a) : (Code.region id l.toArray true).wp P Q a w := by
  have h2 := wpAny_fromC (Q := Q) (C := fun w' => ∃ p : Regrown, w' = grow (redrawn w p.d) p.os) ⟨⟨w.drawn + 1, #[]⟩, by rw [grow_empty]; rfl⟩ 0 m hB (by simpa using h)
  refine wp_region_any hm ?_
  have e : leadL l.length 0 = Array.replicate l.length false := by simp [leadL]
  rw [e] at h2
  simpa using h2
end
end Go.Proofs.Ytchgnjpbjnkdmaa
