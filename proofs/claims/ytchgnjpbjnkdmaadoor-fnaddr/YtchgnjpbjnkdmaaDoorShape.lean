/- For the frames of laws whose rows list tables of the library: the witness's tables, and what the list gives. -/
import Derived.Test.YtchgnjpbjnkdmaaDoorLibCalls
import Derived.Handed
import Derived.HandedShaped
import Derived.LaidLaws
namespace Go.Proofs.YtchgnjpbjnkdmaaDoor
open Go.RowKit

def leaf0 : DataW Unit → List Value
  | .lit (.int k n) => [.int k n]
  | _ => []
def leaf1 : DataW Unit → List Value
  | .lit (.int k n) => [.int k n]
  | .agg ys => ys.flatMap leaf0
  | _ => []
def flatW : DataW Unit → List Value
  | .agg xs => xs.flatMap leaf1
  | _ => []
def layW (d : DataW Unit) : Obj → Obj
  | .cells _ t fz => .cells (flatW d).toArray t fz
  | o => o
theorem laidVars_mem {P : Program} {W : World} : ∀ {l : List (String × DataW Unit)} {ps : List MemPlace}, DataW.LaidVars P W l ps → ∀ {n : String} {d : DataW Unit}, (n, d) ∈ l →
    ∃ g t cs fuel p, P.globalNamed n = some g ∧ (P.globals[g]?).map (·.type) = some t ∧ W.var? P n = some cs ∧ DataW.trod (fun _ => ()) P W 0 (fun _ => true) false fuel t cs.toList = some (d, p)
  | [], _, _, _, _, hm => by cases hm
  | (n', d') :: r, ps, h, n, d, hm => by
    obtain ⟨g, t, cs, fuel, p, q, h1, h2, h3, h4, h5, _⟩ := h
    rcases List.mem_cons.1 hm with e | hm
    · cases e
      exact ⟨g, t, cs, fuel, p, h1, h2, h3, h4⟩
    · exact laidVars_mem h5 hm
theorem pow10_type : (Tryd.prog.globals[0]?).map (·.type) = some 87 := by kernel_rfl
theorem pow10_of {W : World} {l : List (String × DataW Unit)} {n : String} {d : DataW Unit} (hg : Tryd.prog.globalNamed n = some 0) (h : laidMet Tryd.prog l W) (hm : (n, d) ∈ l) (hd : d = Lib.tabData .u64 Lib.pow10Tab) : Pow10 W := by
  obtain ⟨ps, hl, _⟩ := h
  obtain ⟨g, t, cs, fuel, p, h1, h2, h3, h4⟩ := laidVars_mem hl hm
  obtain rfl := Option.some.inj (hg.symm.trans h1)
  obtain rfl := Option.some.inj (pow10_type.symm.trans h2)
  refine Pow10.of hg ?_
  unfold Lib.TabIs
  rw [hd] at h4
  rw [h3, ← Lib.cells_of_tab Tryd.underlying87 Tryd.underlying59 (by kernel_rfl) (by kernel_rfl) h4]
end Go.Proofs.YtchgnjpbjnkdmaaDoor
