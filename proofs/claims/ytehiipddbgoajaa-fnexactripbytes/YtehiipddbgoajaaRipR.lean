/- Is a Rip right? Asked by the program and by the model. -/
import Derived.Test.YtehiipddbgoajaaEnts
namespace Go.Proofs.Ytehiipddbgoajaa
open Go.RowKit Go.Sort

theorem ripB_all {c : Int} {es : List Ent} (hc : c = 1 ∨ c = 2) (hl : es.length ≤ 8) : ripB c es = es.all entB := by simp [ripB, hc, hl]
theorem ripB_long {c : Int} {es : List Ent} (hl : ¬ es.length ≤ 8) : ripB c es = false := by simp [ripB, hl]
theorem ripB_cmd {c : Int} {es : List Ent} (hc : ¬ (c = 1 ∨ c = 2)) : ripB c es = false := by unfold ripB; rw [decide_eq_false hc]; rfl
theorem rip_cell {w w1 : World} {x y : Value} {t : TypeId} (hb : Below (w.alloc (.cells #[x, y] t)).heap.size (w.alloc (.cells #[x, y] t)) w1) : w1.cell? ⟨w.heap.size, 0, none⟩ = some x ∧ w1.cell? ⟨w.heap.size, 1, none⟩ = some y := by
  obtain ⟨h0, h1, _⟩ := cell2_later rfl hb
  exact ⟨h0, h1⟩
set_option maxRecDepth 100000 in
theorem implRipRight_any (c : Int) (p : Option Addr) (cap : Nat) (es : List Ent) (w : World) (h : EntsIn w p es) (hn : es.length ≤ 100000000) :
    Calls Try.prog 12 #[ripV c p es.length cap] w fun e w' => e = .returned (.bool (ripB c es)) ∧ Below w.heap.size w w' := by
  have HE : Hid (∀ e w, Calls Try.prog 8 #[entV e] w fun r w' => r = .returned (.bool (entB e)) ∧ Below w.heap.size w w') := implEntryRight_any
  unfold ripV
  by_cases hl : es.length ≤ 8
  · by_cases hc : c = 1 ∨ c = 2
    · have HR : Hid (ripB c es = es.all entB) := ripB_all hc hl
      have HX : Hid (EntsIn w p es) := h
      have d8 : decide (8 < (es.length : Int)) = false := by simp; omega
      clear h
      generalize ripB c es = R at *
      rcases hc with rfl | rfl
      all_goals
        go_enter Try.func12, Try.ntmps12
        go_wp2_with fail
        go_loopw [22] (fun i wr => ∃ k : Nat, k ≤ es.length ∧ i = .int .i64 k ∧ (es.take k).all entB = true ∧ Below w.heap.size w wr) (fun i _ => es.length - (intOf i).toNat)
        case atStart => exact ⟨0, Nat.zero_le _, rfl, rfl, ent_new0 w _⟩
        case round =>
          obtain ⟨k, hk, rfl, ha, hb⟩ := hrel
          by_cases hlt : k < es.length
          · obtain ⟨g, a, l, n, m, t, rfl, hg, hek, c0, c1, c2, c3, c4⟩ := (HX.out.below hb).at k hlt
            have hall := all_next es k hlt ha
            have HBd : Hid (entB es[k] = false → R = false) := fun hf => by rw [HR.out]; exact all_bad es k hlt hf
            rw [hek] at hall HBd
            have HEk : Hid (∀ w, Calls Try.prog 8 #[.agg #[.int .i64 a, .int .i64 l, .int .i64 n, .int .i64 m, .int .i64 t]] w fun r w' => r = .returned (.bool (entB ⟨a, l, n, m, t⟩)) ∧ Below w.heap.size w w') := HE.out ⟨a, l, n, m, t⟩
            clear HE hek
            generalize entB ⟨a, l, n, m, t⟩ = B at *
            go_wp2_with fail
            refine (HEk.out _).mono ?_
            rintro e w1 ⟨rfl, hb1⟩
            have hB1 : Below w.heap.size w w1 := hb.trans (((ent_new0 wr _).trans (hb1.mono (by simp))).mono hb.size)
            clear hb1 HEk c0 c1 c2 c3 c4
            cases B
            · go_wp2
              go_ret
              exact ⟨ret_bool (HBd.out (by trivial)).symm, hB1⟩
            · go_wp2
              go_roundw
              case rel => exact ⟨k + 1, hlt, by go_num, hall, hB1⟩
              case measure => simp [intOf]; omega
          · obtain rfl : k = es.length := by omega
            rw [List.take_length] at ha
            go_wp2
            go_ret
            exact ⟨ret_bool (by rw [HR.out, ha]), hb⟩
    · rw [ripB_cmd hc]
      have b1 : (c != 1) = true := by simp; omega
      have b2 : (c != 2) = true := by simp; omega
      go_enter Try.func12, Try.ntmps12
      go_wp2
      go_ret
      exact ⟨rfl, ent_new0 w _⟩
  · rw [ripB_long hl]
    have d8 : decide (8 < (es.length : Int)) = true := by simp; omega
    by_cases h1 : c = 1
    · subst h1
      go_enter Try.func12, Try.ntmps12
      go_wp2
      go_ret
      exact ⟨rfl, ent_new0 w _⟩
    · have b1 : (c != 1) = true := by simpa using h1
      by_cases h2 : c = 2
      · subst h2
        go_enter Try.func12, Try.ntmps12
        go_wp2
        go_ret
        exact ⟨rfl, ent_new0 w _⟩
      · have b2 : (c != 2) = true := by simpa using h2
        go_enter Try.func12, Try.ntmps12
        go_wp2
        go_ret
        exact ⟨rfl, ent_new0 w _⟩
set_option maxRecDepth 100000 in
theorem specRipRight_any (c : Int) (p : Option Addr) (cap : Nat) (es : List Ent) (w : World) (h : EntsIn w p es) (hn : es.length ≤ 100000000) :
    Calls Try.prog 10 #[ripV c p es.length cap] w fun e w' => e = .returned (.bool (ripB c es)) ∧ Below w.heap.size w w' := by
  have HE : Hid (∀ e w, Calls Try.prog 6 #[entV e] w fun r w' => r = .returned (.bool (entB e)) ∧ Below w.heap.size w w') := specEntryRight_any
  have HC : Hid (∀ w, Calls Try.prog 18 #[.int .i64 c, .int .i64 1, .int .i64 2] w fun e w' => e = .returned (.bool (decide (1 ≤ c ∧ c ≤ 2))) ∧ w = w') := l03Is_any c 1 2
  have HBd : Hid (∀ k (hk : k < es.length), entB es[k] = false → ripB c es = false) := fun k hk hf => ripB_bad c es k hk hf
  have HYs : Hid (es.length ≤ 8 → es.all entB = true → ripB c es = decide (1 ≤ c ∧ c ≤ 2)) := fun h1 h2 => by
    unfold ripB
    rw [h2]
    by_cases hc : c = 1 ∨ c = 2
    · simp [h1, hc]; omega
    · have e1 : decide (1 ≤ c ∧ c ≤ 2) = false := by simp; omega
      rw [decide_eq_false hc, e1]; rfl
  have HNo : Hid (¬ es.length ≤ 8 → ripB c es = false) := fun h1 => ripB_long h1
  have HX : Hid (EntsIn w p es) := h
  unfold ripV
  generalize ripB c es = R at *
  generalize decide (1 ≤ c ∧ c ≤ 2) = D at *
  clear h
  go_enter Try.func10, Try.ntmps10
  go_wp2_with fail
  go_loopw [3] (fun i wr => ∃ k : Nat, k ≤ es.length ∧ k ≤ 9 ∧ i = .int .i64 k ∧ (es.take k).all entB = true ∧ Below (w.alloc (.cells #[.int .i64 c, .slice p es.length cap] 39)).heap.size (w.alloc (.cells #[.int .i64 c, .slice p es.length cap] 39)) wr) (fun i _ => es.length - (intOf i).toNat)
  case atStart => exact ⟨0, Nat.zero_le _, by omega, rfl, rfl, Below.refl _ _⟩
  case round =>
    obtain ⟨k, hk, hk9, rfl, ha, hb0⟩ := hrel
    obtain ⟨x0, x1⟩ := rip_cell hb0
    have hb : Below w.heap.size w wr := (ent_new0 w _).trans (hb0.mono (by simp))
    by_cases hlt : k < es.length
    · by_cases h8 : k ≤ 8
      · have d1 : decide ((k : Int) < (es.length : Int)) = true := by simpa using hlt
        have d2 : decide ((k : Int) ≤ 8) = true := by simp; omega
        obtain ⟨g, a, l, n, m, t, rfl, hg, hek, c0, c1, c2, c3, c4⟩ := (HX.out.below hb).at k hlt
        have hall := all_next es k hlt ha
        have HBk := HBd.out k hlt
        rw [hek] at hall HBk
        have HEk : Hid (∀ w, Calls Try.prog 6 #[.agg #[.int .i64 a, .int .i64 l, .int .i64 n, .int .i64 m, .int .i64 t]] w fun r w' => r = .returned (.bool (entB ⟨a, l, n, m, t⟩)) ∧ Below w.heap.size w w') := HE.out ⟨a, l, n, m, t⟩
        have HBk' : Hid (entB ⟨a, l, n, m, t⟩ = false → R = false) := HBk
        clear HE hek HBd HBk
        generalize entB ⟨a, l, n, m, t⟩ = B at *
        go_wp2_with fail
        refine (HEk.out _).mono ?_
        rintro e w1 ⟨rfl, hb1⟩
        have hB1 : Below (w.alloc (.cells #[.int .i64 c, .slice (some ⟨g, 0, none⟩) es.length cap] 39)).heap.size (w.alloc (.cells #[.int .i64 c, .slice (some ⟨g, 0, none⟩) es.length cap] 39)) w1 := hb0.trans (hb1.mono hb0.size)
        clear hb1 HEk c0 c1 c2 c3 c4
        cases B
        · go_wp2
          go_ret
          exact ⟨ret_bool (HBk'.out (by trivial)).symm, (ent_new0 w _).trans (hB1.mono (by simp))⟩
        · go_wp2
          go_roundw
          case rel => exact ⟨k + 1, hlt, by omega, by go_num, hall, hB1⟩
          case measure => simp [intOf]; omega
      · have d1 : decide ((k : Int) < (es.length : Int)) = true := by simpa using hlt
        have d2 : decide ((k : Int) ≤ 8) = false := by simp; omega
        have hR := HNo.out (by omega)
        have d3 : decide ((es.length : Int) ≤ 8) = false := by simp; omega
        go_wp2_with fail
        refine (HC.out _).mono ?_
        rintro e w1 ⟨rfl, rfl⟩
        cases D
        · go_wp2
          go_ret
          exact ⟨ret_bool hR.symm, hb⟩
        · go_wp2
          go_ret
          exact ⟨ret_bool hR.symm, hb⟩
    · obtain rfl : k = es.length := by omega
      rw [List.take_length] at ha
      have d1 : decide ((es.length : Int) < (es.length : Int)) = false := by simp
      by_cases h8 : es.length ≤ 8
      · have hR := HYs.out h8 ha
        have d3 : decide ((es.length : Int) ≤ 8) = true := by simp; omega
        clear hlt
        go_wp2_with fail
        refine (HC.out _).mono ?_
        rintro e w1 ⟨rfl, rfl⟩
        cases D
        · go_wp2
          go_ret
          exact ⟨ret_bool hR.symm, hb⟩
        · go_wp2
          go_ret
          exact ⟨ret_bool hR.symm, hb⟩
      · have hR := HNo.out h8
        have d3 : decide ((es.length : Int) ≤ 8) = false := by simp; omega
        clear hlt
        go_wp2_with fail
        refine (HC.out _).mono ?_
        rintro e w1 ⟨rfl, rfl⟩
        cases D
        · go_wp2
          go_ret
          exact ⟨ret_bool hR.symm, hb⟩
        · go_wp2
          go_ret
          exact ⟨ret_bool hR.symm, hb⟩
end Go.Proofs.Ytehiipddbgoajaa
