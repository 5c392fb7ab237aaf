/- A frame's bytes, of the program. -/
import Derived.Test.YtchgnjpbjnkdmaaFrameS
import Derived.Test.YtchgnjpbjnkdmaaWords
import Derived.Test.YtchgnjpbjnkdmaaAppends
import Derived.Deep.RegionHeld3
namespace Go.Proofs.Ytchgnjpbjnkdmaa
open Go.RowKit

theorem all_i64 (ns : List Int) (h : (ns.all fun n => decide ((-9223372036854775808 : Int) ≤ n ∧ n ≤ 9223372036854775807)) = true) : ∀ n ∈ ns, (-9223372036854775808 : Int) ≤ n ∧ n ≤ 9223372036854775807 :=
  fun n hn => of_decide_eq_true ((List.all_eq_true.1 h) n hn)
set_option maxRecDepth 100000 in
theorem implFrameBytes_in (v : Int) (t : ByteArray) (w : World) (hR : frB v t.size = true) :
    Calls Try.prog 28 #[.agg #[.int .i64 v, .string t]] w fun e w' => e = .returned (.string (frT v t)) ∧ Below w.heap.size w w' := by
  have HR : Hid (∀ w, Calls Try.prog 42 #[.agg #[.int .i64 v, .string t]] w fun e w' => e = .returned (.bool (frB v t.size)) ∧ Below w.heap.size w w') := implFrameRight_any v t
  rw [hR] at HR
  obtain ⟨h0, h1, h2⟩ := frB_spec hR
  have HW : Hid (∀ (W : World) g, Row W g 2 (valsN [0, 0, 0, 0, 0, 0, 33024, v, 2048]) → Calls Try.prog 65 #[.slice (some ⟨g, 0, none⟩) 9 9] W fun e w' => ∃ u, e = .returned u ∧ Own w' W.heap.size 5 u (cellsB (wordsL [0, 0, 0, 0, 0, 0, 33024, v, 2048])) ∧ Below W.heap.size W w') :=
    fun W g hr => implWords_any [0, 0, 0, 0, 0, 0, 33024, v, 2048] g 9 W hr rfl (by simp) (all_i64 _ (by simp; omega))
  have hne : frL v t.data.toList ≠ [] := fun e => by have := frL_length v t.data.toList; rw [e] at this; simp at this; omega
  have HN : Hid (frL v t.data.toList ≠ []) := hne
  have HT : Hid (frL v t.data.toList = wordsL [0, 0, 0, 0, 0, 0, 33024, v, 2048] ++ t.data.toList) := rfl
  have hwl : (wordsL [0, 0, 0, 0, 0, 0, 33024, v, 2048]).length = 18 := by rw [wordsL_length]; rfl
  clear hne
  go_enter Try.func28, Try.ntmps28
  go_wp2_with fail
  refine (HR.out _).mono ?_
  rintro e w1 ⟨rfl, hb1⟩
  have n1 := (TwoAt.new w (.int .i64 v) (.string t) 43).below hb1
  have hB1 := after_next (new_below w (.cells #[.int .i64 v, .string t] 43)) hb1 (by simp)
  clear hb1
  have HC : Hid (∀ (W : World) g, Below w1.heap.size w1 W → Row W g 2 (valsN [0, 0, 0, 0, 0, 0, 33024, v, 2048]) → Calls Try.prog 65 #[.slice (some ⟨g, 0, none⟩) 9 9] W fun e w' => ∃ u, e = .returned u ∧ Own w' w1.heap.size 5 u (cellsB (wordsL [0, 0, 0, 0, 0, 0, 33024, v, 2048])) ∧ Below W.heap.size W w') :=
    fun W g hb hr => (HW.out W g hr).mono fun e w' ⟨u, he, ho, hb2⟩ => ⟨u, he, ho.mono hb.size, hb2⟩
  have HV : Hid (∀ (v2 : Value) (wb : World), Own wb w1.heap.size 5 v2 (cellsB (wordsL [0, 0, 0, 0, 0, 0, 33024, v, 2048] ++ t.data.toList)) → (convert 22 9 v2).run Try.prog wb = .ok (.string (frT v t)) wb) :=
    fun v2 wb h => own_conv h HN.out rfl
  clear HW HN HT
  have hlen : (wordsL [0, 0, 0, 0, 0, 0, 33024, v, 2048]).length + t.size ≤ 1000000000 := by omega
  obtain ⟨c0, c1⟩ := n1
  go_wp2_with fail
  have hGN : (([(6, Is (.pointer (some ⟨w.heap.size, 0, none⟩))), (7, Is (.int .i64 v)), (8, fun x W => ∃ g, x = .slice (some ⟨g, 0, none⟩) 9 9 ∧ Row W g 2 (valsN [0, 0, 0, 0, 0, 0, 33024, v, 2048])), (9, fun x W => Own W w1.heap.size 5 x (cellsB (wordsL [0, 0, 0, 0, 0, 0, 33024, v, 2048]))), (10, Is (.pointer (some ⟨w.heap.size, 1, none⟩))), (11, Is (.string t))] : List (Nat × (Value → World → Prop))).map (·.1)).Nodup := by simp
  refine wp_region_steady 6 (SlotG [(6, Is (.pointer (some ⟨w.heap.size, 0, none⟩))), (7, Is (.int .i64 v)), (8, fun x W => ∃ g, x = .slice (some ⟨g, 0, none⟩) 9 9 ∧ Row W g 2 (valsN [0, 0, 0, 0, 0, 0, 33024, v, 2048])), (9, fun x W => Own W w1.heap.size 5 x (cellsB (wordsL [0, 0, 0, 0, 0, 0, 33024, v, 2048]))), (10, Is (.pointer (some ⟨w.heap.size, 1, none⟩))), (11, Is (.string t))]) (by kernel_rfl) (by kernel_rfl) (Stabs.all ⟨stab_is _, stab_is _, stab_row 9 (valsN [0, 0, 0, 0, 0, 0, 33024, v, 2048]), stab_own w1.heap.size (cellsB (wordsL [0, 0, 0, 0, 0, 0, 33024, v, 2048])), stab_is _, stab_is _, trivial⟩) ?_ ?_
  · intro o ho
    simp only [List.take_succ_cons, List.take_zero, List.mem_cons, List.not_mem_nil, or_false] at ho
    rcases ho with rfl | rfl | rfl | rfl | rfl | rfl
    · intro a' w' hb ha hdep
      have d1 : a'.tmps.getD 1 undef = .pointer (some ⟨w.heap.size, 0, none⟩) := ha.at 1 (by kernel_rfl)
      have hmk := fun (x : Value) (W : World) => SlotG.mk (x := x) (w := W) 0 rfl hGN
      clear hGN ha hdep
      go_simp
      exact ⟨_, rfl, Below.refl _ _, hmk _ _ rfl⟩
    · intro a' w' hb ha hdep
      have d6 : a'.tmps.getD 6 undef = .pointer (some ⟨w.heap.size, 0, none⟩) := (hdep 6 (of_decide_eq_true (by kernel_rfl))).is 0 rfl
      have hmk := fun (x : Value) (W : World) => SlotG.mk (x := x) (w := W) 1 rfl hGN
      clear hGN ha hdep
      have c : w'.cell? ⟨w.heap.size, 0, none⟩ = some (.int .i64 v) := by rw [hb.cell (p := ⟨w.heap.size, 0, none⟩) (World.block_lt_of_cell? w1 _ c0)]; exact c0
      go_simp
      exact ⟨_, rfl, Below.refl _ _, hmk _ _ rfl⟩
    · intro a' w' hb ha hdep
      have d7 : a'.tmps.getD 7 undef = .int .i64 v := (hdep 7 (of_decide_eq_true (by kernel_rfl))).is 1 rfl
      have hmk := fun (x : Value) (W : World) => SlotG.mk (x := x) (w := W) 2 rfl hGN
      clear hGN ha hdep
      rw [Array.getD_eq_getD_getElem?] at d7
      go_simp
      exact ⟨_, rfl, new_below _ _, hmk _ _ ⟨_, rfl, Row.new w' 2 _⟩⟩
    · intro a' w' hb ha hdep
      have D8 := (hdep 8 (of_decide_eq_true (by kernel_rfl))).get 2 rfl
      have hmk := fun (x : Value) (W : World) => SlotG.mk (x := x) (w := W) 3 rfl hGN
      clear hGN ha hdep
      obtain ⟨g, d8, hr8⟩ := D8
      go_simp
      refine (HC.out _ g hb hr8).mono ?_
      rintro e w2 ⟨u, rfl, ho2, hb2⟩
      exact ⟨_, rfl, hb2, hmk _ _ ho2⟩
    · intro a' w' hb ha hdep
      have d1 : a'.tmps.getD 1 undef = .pointer (some ⟨w.heap.size, 0, none⟩) := ha.at 1 (by kernel_rfl)
      have hmk := fun (x : Value) (W : World) => SlotG.mk (x := x) (w := W) 4 rfl hGN
      clear hGN ha hdep
      go_simp
      exact ⟨_, rfl, Below.refl _ _, hmk _ _ rfl⟩
    · intro a' w' hb ha hdep
      have d10 : a'.tmps.getD 10 undef = .pointer (some ⟨w.heap.size, 1, none⟩) := (hdep 10 (of_decide_eq_true (by kernel_rfl))).is 4 rfl
      have hmk := fun (x : Value) (W : World) => SlotG.mk (x := x) (w := W) 5 rfl hGN
      clear hGN ha hdep
      have c : w'.cell? ⟨w.heap.size, 1, none⟩ = some (.string t) := by rw [hb.cell (p := ⟨w.heap.size, 1, none⟩) (World.block_lt_of_cell? w1 _ c1)]; exact c1
      go_simp
      exact ⟨_, rfl, Below.refl _ _, hmk _ _ rfl⟩
  · intro a' w' hb ha hG
    clear hGN
    have D9 := (hG _ (List.mem_of_getElem? (i := 3) rfl) 9 rfl).get 3 rfl
    have d11 : a'.tmps.getD 11 undef = .string t := (hG _ (List.mem_of_getElem? (i := 5) rfl) 11 rfl).is 5 rfl
    have e2 : a' = ⟨#[a'.tmps.getD 0 undef, a'.tmps.getD 1 undef, a'.tmps.getD 2 undef, a'.tmps.getD 3 undef, a'.tmps.getD 4 undef, a'.tmps.getD 5 undef, a'.tmps.getD 6 undef, a'.tmps.getD 7 undef, a'.tmps.getD 8 undef, a'.tmps.getD 9 undef, a'.tmps.getD 10 undef, a'.tmps.getD 11 undef, a'.tmps.getD 12 undef, a'.tmps.getD 13 undef], []⟩ := by rw [← (show a'.defers = [] from ha.2.1)]; exact act_eq a' 14 ha.1
    rw [d11] at e2
    clear hG ha d11
    generalize a'.tmps.getD 0 undef = x0 at *
    generalize a'.tmps.getD 1 undef = x1 at *
    generalize a'.tmps.getD 2 undef = x2 at *
    generalize a'.tmps.getD 3 undef = x3 at *
    generalize a'.tmps.getD 4 undef = x4 at *
    generalize a'.tmps.getD 5 undef = x5 at *
    generalize a'.tmps.getD 6 undef = x6 at *
    generalize a'.tmps.getD 7 undef = x7 at *
    generalize a'.tmps.getD 8 undef = x8 at *
    generalize a'.tmps.getD 9 undef = x9 at *
    generalize a'.tmps.getD 10 undef = x10 at *
    generalize a'.tmps.getD 12 undef = x12 at *
    generalize a'.tmps.getD 13 undef = x13 at *
    subst e2
    simp only [List.drop_succ_cons, List.drop_zero]
    have hB := hB1.trans (hb.mono hB1.size)
    have hbs := hb.size
    go_wp2_with (at_builtin; refine wpList_append_str rfl (.tmp 9) (.tmp 11) 22 9 rfl w1.heap.size 5 Try.underlying22 Try.underlying9 Try.infoB x9 _ rfl D9 t rfl hlen hbs ?_)
    intro v2 wb hob hbb
    have hconv := HV.out v2 wb hob
    have hBb : Below w.heap.size w wb := hB.trans (hbb.mono hB1.size)
    go_wp2
    go_ret
    exact ⟨rfl, hBb⟩
set_option maxRecDepth 100000 in
theorem implFrameBytes_any (v : Int) (t : ByteArray) (w : World) :
    Calls Try.prog 28 #[.agg #[.int .i64 v, .string t]] w fun e w' => e = .returned (.string (frO v t)) ∧ Below w.heap.size w w' := by
  by_cases hR : frB v t.size = true
  · rw [frO_in v t hR]
    exact implFrameBytes_in v t w hR
  · rw [frO_out v t hR]
    have HR : Hid (∀ w, Calls Try.prog 42 #[.agg #[.int .i64 v, .string t]] w fun e w' => e = .returned (.bool (frB v t.size)) ∧ Below w.heap.size w w') := implFrameRight_any v t
    rw [show frB v t.size = false by simpa using hR] at HR
    go_enter Try.func28, Try.ntmps28
    go_wp2_with fail
    refine (HR.out _).mono ?_
    rintro e w1 ⟨rfl, hb1⟩
    have hB1 := after_next (new_below w (.cells #[.int .i64 v, .string t] 43)) hb1 (by simp)
    go_wp2
    go_ret
    exact ⟨rfl, hB1⟩
end Go.Proofs.Ytchgnjpbjnkdmaa
