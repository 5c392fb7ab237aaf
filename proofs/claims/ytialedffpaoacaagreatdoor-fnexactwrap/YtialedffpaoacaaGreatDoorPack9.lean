/- Texts that stand on each other, in one file: Words. -/
import Derived.Test.YtialedffpaoacaaGreatDoorPack1
import Derived.Test.YtialedffpaoacaaGreatDoorOwnV
import Derived.Test.YtialedffpaoacaaGreatDoorBaseB
import Derived.Laws.ShiftsVarLaws
import Derived.OwnWalk
/- Words put together, of the program. -/
namespace Go.Proofs.YtialedffpaoacaaGreatDoor
open Go.RowKit

def valsN (l : List Int) : List Value := l.map (Value.int .i64)
theorem valsN_length (l : List Int) : (valsN l).length = l.length := by simp [valsN]
theorem word_cells (n : Int) : cellsB (wordL n) = [.int .u8 (n / 256 % 256), .int .u8 (n % 256)] := by
  have e0 : ((UInt8.ofNat (n / 256 % 256).toNat).toNat : Int) = n / 256 % 256 := byte_of_int _ (by omega) (by omega)
  have e1 : ((UInt8.ofNat (n % 256).toNat).toNat : Int) = n % 256 := byte_of_int _ (by omega) (by omega)
  simp only [wordL, cellsB, List.map_cons, List.map_nil, e0, e1]
theorem words_next (ns : List Int) (k : Nat) (h : k < ns.length) : wordsL (ns.take (k + 1)) = wordsL (ns.take k) ++ wordL ns[k] := by
  rw [List.take_succ_eq_append_getElem h, wordsL_append]; simp [wordsL]
set_option maxRecDepth 100000 in
theorem implWords_any (ns : List Int) (g cap : Nat) (w : World) (hr : Row w g 2 (valsN ns)) (hc : cap = ns.length) (hn : ns.length ≤ 1000) (hw : ∀ n ∈ ns, (-9223372036854775808 : Int) ≤ n ∧ n ≤ 9223372036854775807) :
    Calls Tryz.prog 149 #[.slice (some ⟨g, 0, none⟩) ns.length cap] w fun e w' => ∃ v, e = .returned v ∧ Own w' w.heap.size 5 v (cellsB (wordsL ns)) ∧ Below w.heap.size w w' := by
  obtain ⟨i0, hi0, hz0, hz1, hz2⟩ := info_parts Tryz.infoB
  have hw2 := wrap_i64_in (2 * (ns.length : Int)) (by omega) (by omega)
  subst hc
  go_enter Tryz.func149, Tryz.ntmps149
  go_wp2_with (at_make; refine wpList_make_own _ rfl _ _ 150 rfl w.heap.size 5 i0 (.int .u8 0) 1 Tryz.underlying150 hi0 hz0 hz1 .i64 .i64 (2 * (ns.length : Int)) (2 * ns.length) rfl rfl (by omega) (by rw [hz2]; omega) (by unfold maxLen; omega) (Nat.le_refl _) ?_)
  intro w1 hown hgrow
  have hb1 : Below w.heap.size w w1 := (Below.refl _ _).grown hgrow (Nat.le_refl _) (by intro k hk; cases hk)
  have hown1 : Own w1 w.heap.size 5 (.slice (some ⟨w.heap.size, 0, none⟩) 0 (2 * ns.length)) (cellsB (wordsL (ns.take 0))) := hown
  clear hown hgrow hw2 hi0 hz0 hz1 hz2
  go_wp2_with fail
  go_loopw [3, 12] (fun v i wr => ∃ k : Nat, k ≤ ns.length ∧ i = .int .i64 k ∧ Own wr w.heap.size 5 v (cellsB (wordsL (ns.take k))) ∧ Below w.heap.size w wr) (fun _ i _ => ns.length - (intOf i).toNat)
  case atStart => exact ⟨0, by omega, rfl, hown1, hb1⟩
  case round =>
    clear hown1 hb1
    obtain ⟨k, hk, rfl, hown, hbel⟩ := hrel
    have hsz := hbel.size
    by_cases hlt : k < ns.length
    · have hr2 := hr.below hbel hr.lt
      have HT : Hid (wordsL (ns.take (k + 1)) = wordsL (ns.take k) ++ wordL ns[k]) := words_next ns k hlt
      have hc := hr2.cell k
      have hkn : (valsN ns)[k]? = some (.int .i64 ns[k]) := by simp [valsN, hlt]
      rw [hkn] at hc
      have hx := hw ns[k] (List.getElem_mem hlt)
      have hol : (wordsL (ns.take k)).length ≤ 2000 := by rw [wordsL_length, List.length_take]; omega
      clear hkn hr2 hr hw
      generalize ns[k] = x at *
      generalize wordsL (ns.take k) = l at *
      go_wp2_with (at_builtin; refine wpList_append_vals rfl _ _ 150 rfl w.heap.size 5 Tryz.underlying150 (.int .u8 0) rfl 1 (by omega) Tryz.infoB _ (cellsB l) (cellsB (wordL x)) rfl (hown.alloc _) wr.heap.size 2 rfl ?c1 ?c2 ?c3 ?c4 ?_)
      case c1 =>
        rw [word_cells x]
        intro i u hu
        rw [(Row.new wr 5 [.int .u8 (x / 256 % 256), .int .u8 (x % 256)]).cell i]
        exact hu
      case c2 => exact cellsB_one _
      case c3 => simp [cellsB_length, wordL]; omega
      case c4 => simp; omega
      · intro v' w4 hown4 hbel4
        rw [← cellsB_append, ← HT.out] at hown4
        go_wp2
        go_roundw
        case rel => exact ⟨k + 1, by omega, by go_num, hown4, (hbel.alloc hsz _).trans hbel4⟩
        case measure => simp [intOf]; omega
    · obtain rfl : k = ns.length := by omega
      rw [List.take_length] at hown
      go_wp2
      go_ret
      exact ⟨_, rfl, hown, hbel⟩
end Go.Proofs.YtialedffpaoacaaGreatDoor
