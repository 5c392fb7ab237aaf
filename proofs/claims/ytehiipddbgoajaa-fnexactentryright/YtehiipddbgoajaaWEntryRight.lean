/- The walk of the law on EntryRight. -/
import Derived.Test.YtehiipddbgoajaaToEnt
import Derived.Test.YtehiipddbgoajaaOpenEnt
namespace Go.Proofs.Ytehiipddbgoajaa
open Go.RowKit Go.Sort

set_option maxRecDepth 100000 in
theorem fnExactEntryRight_walk (e : Ent) (w : World) (_he : EntW e) :
    Calls Try.prog 3 #[entV e] w fun r w' => r = .returned (.bool true) ∧ Below w.heap.size w w' := by
  have HT : Hid (∀ w, Calls Try.prog 7 #[entV e] w fun r w' => r = .returned (entV e) ∧ Below w.heap.size w w') := toEntry_any e
  have HS : Hid (∀ w, Calls Try.prog 6 #[entV e] w fun r w' => r = .returned (.bool (entB e)) ∧ Below w.heap.size w w') := specEntryRight_any e
  have HI : Hid (∀ w, Calls Try.prog 8 #[entV e] w fun r w' => r = .returned (.bool (entB e)) ∧ Below w.heap.size w w') := implEntryRight_any e
  obtain ⟨a, l, n, m, t⟩ := e
  generalize entB ⟨a, l, n, m, t⟩ = B at *
  unfold entV at *
  simp only at HT HS HI
  go_enter Try.func3, Try.ntmps3
  go_wp2_with fail
  refine (HT.out _).mono ?_
  rintro e w1 ⟨rfl, hb1⟩
  obtain ⟨c0, c1, c2, c3, c4, hB1⟩ := box5 hb1
  clear hb1
  go_wp2_with fail
  refine (HS.out _).mono ?_
  rintro e w2 ⟨rfl, hb2⟩
  obtain ⟨hc2, hf2⟩ := bcell hb2
  have hl := World.block_lt_of_cell? w1 _ c0
  have d0 := (hc2 w.heap.size 0 hl).trans c0
  have d1 := (hc2 w.heap.size 1 hl).trans c1
  have d2 := (hc2 w.heap.size 2 hl).trans c2
  have d3 := (hc2 w.heap.size 3 hl).trans c3
  have d4 := (hc2 w.heap.size 4 hl).trans c4
  have hB2 := below_next hB1 hb2 hB1.size
  clear hb2 hc2 hf2 c0 c1 c2 c3 c4 hl hB1
  go_wp2_with fail
  refine (HT.out _).mono ?_
  rintro e w3 ⟨rfl, hb3⟩
  have hB3 := below_next hB2 hb3 hB2.size
  clear hb3 hB2 d0 d1 d2 d3 d4
  go_wp2_with fail
  refine (HI.out _).mono ?_
  rintro e w4 ⟨rfl, hb4⟩
  have hB4 := below_next hB3 hb4 hB3.size
  clear hb4 hB3
  cases B
  · go_wp2
    go_ret
    exact ⟨rfl, hB4⟩
  · go_wp2
    go_ret
    exact ⟨rfl, hB4⟩
end Go.Proofs.Ytehiipddbgoajaa
