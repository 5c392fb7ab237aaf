/- Rows of words (and of numbers) that a call makes itself. -/
import Derived.Test.YtjbmpcjhcdlflaaDoorOneRound
import Derived.Deep.RegionHeld3
import Derived.BigRegion
namespace Go.Proofs.YtjbmpcjhcdlflaaDoor
open Go.RowKit

/-- Block g holds just the cells l, of type t, none of them frozen. -/
def Row (w : World) (g : Nat) (t : TypeId) (l : List Value) : Prop := w.heap[g]? = some (.cells l.toArray t (0, 0))
theorem Row.lt {w : World} {g : Nat} {t : TypeId} {l : List Value} (h : Row w g t l) : g < w.heap.size := (Array.getElem?_eq_some_iff.1 h).1
theorem Row.cell {w : World} {g : Nat} {t : TypeId} {l : List Value} (h : Row w g t l) (k : Nat) : w.cell? ⟨g, k, none⟩ = l[k]? := by
  rw [cell_of_row w g k _ t _ h]; simp
theorem Row.frozen {w : World} {g : Nat} {t : TypeId} {l : List Value} (h : Row w g t l) (k : Nat) : w.frozen? ⟨g, k, none⟩ = false := by
  unfold World.frozen?
  have h' : w.heap[g]? = some (.cells l.toArray t (0, 0)) := h
  simp [h']
theorem Row.set {w : World} {g : Nat} {t : TypeId} {l : List Value} (h : Row w g t l) (k : Nat) (v : Value) : Row (w.setCell ⟨g, k, none⟩ v) g t (l.set k v) := by
  unfold Row World.setCell
  have h' : w.heap[g]? = some (.cells l.toArray t (0, 0)) := h
  simp [h', Array.getElem?_modify]
theorem Row.other {w : World} {g g' : Nat} {t : TypeId} {l : List Value} (h : Row w g t l) (k : Nat) (v : Value) (hne : g ≠ g') : Row (w.setCell ⟨g', k, none⟩ v) g t l := by
  unfold Row
  rw [Below.heap_setCell w _ v g hne]
  exact h
theorem Row.drewN {w : World} {g : Nat} {t : TypeId} {l : List Value} (h : Row w g t l) (n : Nat) : Row (w.drewN n) g t l := h
theorem Row.below {B : Nat} {w w' : World} {g : Nat} {t : TypeId} {l : List Value} (h : Row w g t l) (hb : Below B w w') (hg : g < B) : Row w' g t l := by
  unfold Row
  rw [hb.block g hg]
  exact h
theorem Row.alloc {w : World} {g : Nat} {t : TypeId} {l : List Value} (h : Row w g t l) (o : Obj) : Row (w.alloc o) g t l := by
  unfold Row
  rw [Below.heap_alloc w o g h.lt]
  exact h
theorem Row.new (w : World) (t : TypeId) (l : List Value) : Row (w.alloc (.cells l.toArray t (0, 0))) w.heap.size t l := heap_alloc_new w _

theorem Row.put {w : World} {g : Nat} {t : TypeId} {l : List Value} (h : Row w g t l) (l' : List Value) : Row (w.setRow g l'.toArray) g t l' := setRow_heap w g _ _ t _ h
theorem Row.putOther {w : World} {g g' : Nat} {t : TypeId} {l : List Value} (h : Row w g t l) (cs : Array Value) (hne : g ≠ g') : Row (w.setRow g' cs) g t l := by
  unfold Row World.setRow
  have h' : w.heap[g]? = some (.cells l.toArray t (0, 0)) := h
  simp only [Array.getElem?_modify]
  rw [if_neg (Ne.symm hne)]
  exact h'
def valU (x : Nat) : Value := .int .u32 (x : Int)
def valsU (l : List Nat) : List Value := l.map valU
theorem valsU_length (l : List Nat) : (valsU l).length = l.length := by simp [valsU]
theorem valsU_set (l : List Nat) (k x : Nat) : (valsU l).set k (.int .u32 (x : Int)) = valsU (l.set k x) := by
  simp only [valsU, List.map_set]; rfl
theorem valsU_get (l : List Nat) (k : Nat) (h : k < l.length) : (valsU l)[k]? = some (.int .u32 ((l.getD k 0 : Nat) : Int)) := by
  simp [valsU, valU, h]
theorem valsU_one (l : List Nat) : ∀ v ∈ valsU l, v.oneCell' = true := by
  intro v hv
  simp only [valsU, List.mem_map] at hv
  obtain ⟨b, _, rfl⟩ := hv
  rfl
theorem fill_set (l : List Nat) (k x : Nat) (hl : l.length = k) (hk : k < 64) : (l ++ List.replicate (64 - k) 0).set k x = (l ++ [x]) ++ List.replicate (64 - (k + 1)) 0 := by
  have e : 64 - k = (64 - (k + 1)) + 1 := by omega
  rw [e, List.replicate_succ, List.set_append, if_neg (by omega), hl, Nat.sub_self, List.set_cons_zero]
  simp
theorem fill_get (l : List Nat) (k j : Nat) (hl : l.length = k) (hj : j < k) : (l ++ List.replicate (64 - k) 0).getD j 0 = l.getD j 0 := by
  simp [List.getElem?_append_left (show j < l.length by omega)]
end Go.Proofs.YtjbmpcjhcdlflaaDoor
