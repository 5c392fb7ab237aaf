/- slices.Clone, of Ifaces and of Routes. (Written by gen_near.py.) -/
import Derived.Test.YtflmbkjnlgibnaaAppI
import Derived.Test.YtflmbkjnlgibnaaAppS
import Derived.Lib.SliceRun
namespace Go.Proofs.Ytflmbkjnlgibnaa
open Go.RowKit Go.Sort

theorem ownsR_shapeC {w : World} {base n : Nat} {v : Value} {xs : List Value} (h : w.ownsRow base 101 9 v n xs) : ∃ q c, v = .slice q n c := by
  rcases h.2 with ⟨h1, h2⟩ | ⟨g, cap, cur, h1, _⟩
  · exact ⟨none, 0, by rw [h1, h2]⟩
  · exact ⟨_, _, h1⟩
set_option maxRecDepth 100000 in
set_option maxHeartbeats 2000000 in
theorem cloneR_any (p : Option Addr) (cap : Nat) (rs : List Rt) (w : World) (h : RtsIn w p rs) (hc : p = none → cap = 0) (hn : rs.length ≤ 100000000) :
    Calls Try.prog 83 #[.slice p rs.length cap] w fun e w' => ∃ q c, e = .returned (.slice q rs.length c) ∧ w'.ownsRow w.heap.size 101 9 (.slice q rs.length c) rs.length (rowR rs) ∧ Below w.heap.size w w' := by
  cases p with
  | none =>
    obtain rfl := rtsIn_none h rfl
    obtain rfl := hc rfl
    clear h hc hn
    have hq : (binOp .eql 31 (.slice none 0 0) (.slice none 0 0)).run Try.prog w = .ok (.bool true) w := Lib.run_eql_slice_nil w 31 _ none 0 0 0 0 Try.underlying31
    go_enter Try.func83, Try.ntmps83
    go_wp2
    go_ret
    exact ⟨none, 0, rfl, World.ownsRow_nil w _ _ _, Below.refl _ _⟩
  | some ad =>
    have hX := h.alloc (.cells #[] 101)
    have ho := World.ownsRow_lit (base := w.heap.size) (e := 101) (size := 9) w #[] 0 (Nat.le_refl _) (Nat.zero_le _) (by simp)
    obtain ⟨v4, w4, happ, hown4, hb4⟩ := run_append_rts (w.alloc (.cells #[] 101)) w.heap.size (.slice (some ⟨w.heap.size, 0, none⟩) 0 0) [] rs (some ad) cap 31 (by simpa [rowR] using ho) (fun e => by cases e) (fun ad e j u hj => by
      rcases hX with rfl | ⟨g, hg, _, hcell⟩
      · simp [rowR] at hj
      · cases e
        cases hg
        rw [show (⟨g, 0, none⟩ : Addr).add j = ⟨g, j, none⟩ by unfold Addr.add; split <;> simp_all]
        exact hcell j u hj) (by simp; omega) (by simp)
    rw [List.nil_append] at hown4
    obtain ⟨q4, c4, rfl⟩ := ownsR_shapeC hown4
    have hB : Below w.heap.size w w4 := (ent_new0 w _).trans hb4
    have HE : Hid _ := And.intro hown4 hB
    clear hown4 hB hb4 ho hX h hc hn
    have hq : (binOp .eql 31 (.slice (some ad) rs.length cap) (.slice none 0 0)).run Try.prog w = .ok (.bool false) w := Lib.run_eql_slice_nil w 31 _ (some ad) rs.length cap 0 0 Try.underlying31
    go_enter Try.func83, Try.ntmps83
    go_wp2_with (at_builtin; refine wpList_append_runs rfl _ _ 31 rfl _ _ rfl rfl happ ?_)
    go_ret
    exact ⟨q4, c4, rfl, HE.out.1, HE.out.2⟩
set_option maxRecDepth 100000 in
set_option maxHeartbeats 2000000 in
theorem cloneI_any (p : Option Addr) (cap : Nat) (rs : List If) (w : World) (h : IfsIn w p rs) (hc : p = none → cap = 0) (hn : rs.length ≤ 100000000) :
    Calls Try.prog 84 #[.slice p rs.length cap] w fun e w' => ∃ q c, e = .returned (.slice q rs.length c) ∧ w'.ownsRow w.heap.size 82 5 (.slice q rs.length c) rs.length (rowI rs) ∧ Below w.heap.size w w' := by
  cases p with
  | none =>
    obtain rfl := ifsIn_none h rfl
    obtain rfl := hc rfl
    clear h hc hn
    have hq : (binOp .eql 30 (.slice none 0 0) (.slice none 0 0)).run Try.prog w = .ok (.bool true) w := Lib.run_eql_slice_nil w 30 _ none 0 0 0 0 Try.underlying30
    go_enter Try.func84, Try.ntmps84
    go_wp2
    go_ret
    exact ⟨none, 0, rfl, World.ownsRow_nil w _ _ _, Below.refl _ _⟩
  | some ad =>
    have hX := h.alloc (.cells #[] 82)
    have ho := World.ownsRow_lit (base := w.heap.size) (e := 82) (size := 5) w #[] 0 (Nat.le_refl _) (Nat.zero_le _) (by simp)
    obtain ⟨v4, w4, happ, hown4, hb4⟩ := run_append_ifs (w.alloc (.cells #[] 82)) w.heap.size (.slice (some ⟨w.heap.size, 0, none⟩) 0 0) [] rs (some ad) cap 30 (by simpa [rowI] using ho) (fun e => by cases e) (fun ad e j u hj => by
      rcases hX with rfl | ⟨g, hg, _, hcell⟩
      · simp [rowI] at hj
      · cases e
        cases hg
        rw [show (⟨g, 0, none⟩ : Addr).add j = ⟨g, j, none⟩ by unfold Addr.add; split <;> simp_all]
        exact hcell j u hj) (by simp; omega) (by simp)
    rw [List.nil_append] at hown4
    obtain ⟨q4, c4, rfl⟩ := ownsI_shape hown4
    have hB : Below w.heap.size w w4 := (ent_new0 w _).trans hb4
    have HE : Hid _ := And.intro hown4 hB
    clear hown4 hB hb4 ho hX h hc hn
    have hq : (binOp .eql 30 (.slice (some ad) rs.length cap) (.slice none 0 0)).run Try.prog w = .ok (.bool false) w := Lib.run_eql_slice_nil w 30 _ (some ad) rs.length cap 0 0 Try.underlying30
    go_enter Try.func84, Try.ntmps84
    go_wp2_with (at_builtin; refine wpList_append_runs rfl _ _ 30 rfl _ _ rfl rfl happ ?_)
    go_ret
    exact ⟨q4, c4, rfl, HE.out.1, HE.out.2⟩
end Go.Proofs.Ytflmbkjnlgibnaa
