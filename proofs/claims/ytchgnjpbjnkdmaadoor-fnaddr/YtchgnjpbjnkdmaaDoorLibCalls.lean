/- The calls into the library: strconv.FormatInt, strings.Join, strings.SplitN, strings.Cut, by their contracts. -/
import Derived.Test.YtchgnjpbjnkdmaaDoorShelf
import Derived.Test.YtchgnjpbjnkdmaaDoorBaseB
import Derived.Lib.SmallJoins
namespace Go.Proofs.YtchgnjpbjnkdmaaDoor
open Go.RowKit Go.Sort

/-- The library's table of powers of ten, by whatever name that variable is called. -/
def Pow10 (w : World) : Prop := ∀ name, Tryd.prog.globalNamed name = some 0 → Lib.TabIs Tryd.prog w name .u64 Lib.pow10Tab
theorem var_same {P : Program} {w : World} {n m : String} {g : Nat} (hn : P.globalNamed n = some g) (hm : P.globalNamed m = some g) : w.var? P n = w.var? P m := by
  unfold World.var?; rw [hn, hm]
theorem Pow10.of {w : World} {n : String} (hn : Tryd.prog.globalNamed n = some 0) (h : Lib.TabIs Tryd.prog w n .u64 Lib.pow10Tab) : Pow10 w := by
  intro m hm
  unfold Lib.TabIs at *
  rw [var_same hm hn]; exact h
theorem Pow10.below {w w' : World} (h : Pow10 w) (hb : Below w.heap.size w w') : Pow10 w' := fun name hn => Go.Joins.tab_stays hn (h name hn) hb (Nat.le_refl _)
theorem grow_below (w : World) (k : Nat) (os : Array Obj) : Below w.heap.size w (grow (w.drewN k) os) :=
  ⟨rfl, rfl, rfl, by simp [grow, World.drewN], fun j hj => by simp [grow, World.drewN, Array.getElem?_append, hj]⟩
theorem fmtInt_any (n : Int) (w : World) (h0 : -9223372036854775808 ≤ n) (h1 : n ≤ 9223372036854775807) (hT : Pow10 w) :
    Calls Tryd.prog 30 #[.int .i64 n, .int .i64 10] w fun e w' => e = .returned (.string ⟨(Lib.itoa n).toArray⟩) ∧ Below w.heap.size w w' :=
  (Any.strconv_FormatInt_10 Tryd.laysM173 n h0 h1 w (hT _ (by kernel_rfl))).mono fun _ _ ⟨he, k, os, hw⟩ => ⟨he, hw ▸ grow_below w k os⟩
theorem join_any (bk o c : Nat) (xs : List ByteArray) (sep : ByteArray) (w : World) (hcells : ∀ (j : Nat) x, xs[j]? = some x → w.cell? ⟨bk, o + j, none⟩ = some (.string x))
    (hbk : bk < w.heap.size) (hN : xs.length ≤ 140737488355328) (hcap : xs.length ≤ c) (hlen : (Lib.join (xs.map (·.data.toList)) sep.data.toList).length ≤ 140737488355328) :
    Calls Tryd.prog 31 #[.slice (some ⟨bk, o, none⟩) xs.length c, .string sep] w fun e w' => e = .returned (.string ⟨(Lib.join (xs.map (·.data.toList)) sep.data.toList).toArray⟩) ∧ Below w.heap.size w w' :=
  Any.strings_Join Tryd.lays156 Tryd.Builder_Extra_156 bk o c xs sep w hcells hbk hN hcap hlen
end Go.Proofs.YtchgnjpbjnkdmaaDoor
