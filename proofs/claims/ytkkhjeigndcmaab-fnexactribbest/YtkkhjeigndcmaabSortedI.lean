/- slices.SortedFunc of the nets of a map. (Written by gen_sorted.py.) -/
import Derived.Test.YtkkhjeigndcmaabAppN
import Derived.Test.YtkkhjeigndcmaabInsI
import Derived.Test.YtkkhjeigndcmaabRibM
namespace Go.Proofs.Ytkkhjeigndcmaab
open Go.RowKit Go.Sort

set_option maxRecDepth 100000 in
theorem insertion_nil (w : World) : Calls Try.prog 97 #[.slice none 0 0, .int .i64 0, .int .i64 0, .func (.func 67) #[] #[]] w fun e w' => e = .returned (.tuple #[]) ∧ w = w' := by
  go_enter Try.func97, Try.ntmps97
  go_wp2_with fail
  refine wp_loop_once ?_
  go_wp2
  refine bodyPost_end (v := .tuple #[]) (by simp [results, Try.results97, go_sem]) rfl ⟨rfl, rfl⟩
set_option maxRecDepth 100000 in
theorem pdq_nil (r : Int) (w : World) : Calls Try.prog 95 #[.slice none 0 0, .int .i64 0, .int .i64 0, .int .i64 r, .func (.func 67) #[] #[]] w fun e w' => e = .returned (.tuple #[]) ∧ w = w' := by
  have HI : Hid (Calls Try.prog 97 #[.slice none 0 0, .int .i64 0, .int .i64 0, .func (.func 67) #[] #[]] w fun e w' => e = .returned (.tuple #[]) ∧ w = w') := insertion_nil w
  go_enter Try.func95, Try.ntmps95
  go_wp2_with fail
  refine wp_loop_once ?_
  go_wp2_with fail
  refine (HI.out).mono ?_
  rintro e w1 ⟨rfl, rfl⟩
  clear HI
  go_wp2
  refine bodyPost_ret (v := .tuple #[]) (by simp [results, Try.results95, go_sem]) rfl ⟨rfl, rfl⟩
set_option maxRecDepth 100000 in
theorem sortFunc_nil (w : World) : Calls Try.prog 88 #[.slice none 0 0, .func (.func 67) #[] #[]] w fun e w' => e = .returned (.tuple #[]) ∧ w = w' := by
  have HP : Hid (∀ r, Calls Try.prog 95 #[.slice none 0 0, .int .i64 0, .int .i64 0, .int .i64 r, .func (.func 67) #[] #[]] w fun e w' => e = .returned (.tuple #[]) ∧ w = w') := fun r => pdq_nil r w
  have HL : Hid (Calls Try.prog 96 #[.int .u64 0] w fun e w' => ∃ r, e = .returned (.int .i64 r) ∧ w = w') := bitsLen_small 0 (by omega) w
  go_enter Try.func88, Try.ntmps88
  go_wp2_with fail
  refine (HL.out).mono ?_
  rintro e w1 ⟨r, rfl, rfl⟩
  go_wp2_with fail
  refine (HP.out r).mono ?_
  rintro e w1 ⟨rfl, rfl⟩
  clear HP HL
  go_wp2
  refine bodyPost_end (v := .tuple #[]) (by simp [results, Try.results88, go_sem]) rfl ⟨rfl, rfl⟩
/-- The slice v holds the nets xs, in memory laid since block B. -/
def HoldsN (w : World) (B : Nat) (v : Value) (xs : List NP) : Prop := (xs = [] ∧ v = .slice none 0 0) ∨ ∃ g cap, v = .slice (some ⟨g, 0, none⟩) xs.length cap ∧ NetsAt w g xs ∧ B ≤ g
theorem holdsN_row {w : World} {B : Nat} {v : Value} {xs : List NP} (h : w.ownsRow B 28 2 v xs.length (flatN xs)) : HoldsN w B v xs := by
  rcases h.2 with ⟨rfl, h0⟩ | ⟨g, cap, cur, rfl, hb, hg, hnc, hcm, hcs, htake⟩
  · exact .inl ⟨List.length_eq_zero_iff.1 h0, rfl⟩
  · refine .inr ⟨g, cap, rfl, ⟨cur.toList, ?_, ?_⟩, hb⟩
    · show w.heap[g]? = _
      rw [hg]
    · rw [Nat.mul_comm]; exact htake
set_option maxRecDepth 100000 in
set_option maxHeartbeats 1000000 in
theorem sortedN (Bm b : Nat) (rs : List Rt) (w : World) (h8 : rs.length ≤ 12) (hm : w.cell? ⟨Bm, 0, none⟩ = some (.map (some b))) (hM : MapIs w b rs) :
    Calls Try.prog 70 #[.func (.func 89) #[] #[.pointer (some ⟨Bm, 0, none⟩)], .func (.func 67) #[] #[]] w fun e w' => ∃ v xs, e = .returned v ∧ xs.Perm (rs.map netOfR) ∧ Risen xs xs.length ∧ HoldsN w' w.heap.size v xs ∧ Below w.heap.size w w' := by
  have HA : Hid (Calls Try.prog 87 #[.func (.func 89) #[] #[.pointer (some ⟨Bm, 0, none⟩)]] w fun e w' => ∃ v xs, e = .returned v ∧ xs.Perm (rs.map netOfR) ∧ w'.ownsRow w.heap.size 28 2 v xs.length (flatN xs) ∧ Below w.heap.size w w') := collectN Bm b rs w (by omega) hm hM
  clear hm hM
  go_enter Try.func70, Try.ntmps70
  go_wp2_with fail
  refine (HA.out).mono ?_
  rintro e w1 ⟨v, xs, rfl, h1, h2, h3⟩
  have hl : xs.length ≤ 12 := by rw [h1.length_eq, List.length_map]; exact h8
  rcases holdsN_row h2 with ⟨rfl, rfl⟩ | ⟨g, cap, rfl, hN, hg⟩
  · have HS : Hid (Calls Try.prog 88 #[.slice none 0 0, .func (.func 67) #[] #[]] w1 fun e w' => e = .returned (.tuple #[]) ∧ w1 = w') := sortFunc_nil w1
    clear h2 HA
    go_wp2_with fail
    refine (HS.out).mono ?_
    rintro e w2 ⟨rfl, rfl⟩
    clear HS
    go_wp2
    go_ret
    exact ⟨_, [], rfl, h1, fun p hp => absurd hp (by simp), .inl ⟨rfl, rfl⟩, h3⟩
  · have HS : Hid (Calls Try.prog 88 #[.slice (some ⟨g, 0, none⟩) xs.length cap, .func (.func 67) #[] #[]] w1 fun e w' => e = .returned (.tuple #[]) ∧ InsSt g xs w1 xs.length w') := sortFunc_any g cap xs w1 hl hN
    clear h2 HA hN
    have HX : Hid _ := And.intro h1 (And.intro h3 hg)
    clear h1 h3 hg
    go_wp2_with fail
    refine (HS.out).mono ?_
    rintro e w2 ⟨rfl, cur, hN, hP, hR, hBt⟩
    have HLn : Hid (cur.length = xs.length) := hP.length_eq
    have HY : Hid _ := And.intro hN (And.intro hP (And.intro hR hBt))
    clear hN hP hR hBt HS
    go_wp2
    go_ret
    obtain ⟨hN, hP, hR, hBt⟩ := HY.out
    obtain ⟨h1, h3, hg⟩ := HX.out
    exact ⟨_, cur, rfl, hP.trans h1, by rw [HLn.out]; exact hR, .inr ⟨g, cap, by rw [HLn.out]; rfl, hN, hg⟩, hBt _ _ h3 hg⟩
def ltN (x y : NP) : Prop := x.1 < y.1 ∨ (x.1 = y.1 ∧ x.2 < y.2)
/-- The nets of a right table, in whatever order they came, sorted: they stand as in the table. -/
theorem risen_nets {rs : List Rt} (hr : ribB rs = true) {xs : List NP} (hp : xs.Perm (rs.map netOfR)) (hx : Risen xs xs.length) : xs = rs.map netOfR := by
  have hpw : (rs.map netOfR).Pairwise ltN := by
    rw [List.pairwise_map]
    exact (rib_rising hr).imp fun h => h
  have hright : ∀ x ∈ xs, rightB x.1 x.2 = true := by
    intro x hm
    obtain ⟨r, hrm, rfl⟩ := List.mem_map.1 (hp.mem_iff.1 hm)
    obtain ⟨j, hj, rfl⟩ := List.mem_iff_getElem.1 hrm
    have := okAt_route ((ribB_spec hr).2 j hj)
    rw [get_bang hj] at this
    exact routeB_right this
  have hnd : xs.Nodup := (hp.nodup_iff).2 (hpw.imp fun h e => by subst e; unfold ltN at h; omega)
  have step : ∀ p (h : p + 1 < xs.length), ltN (xs[p]'(by omega)) xs[p + 1] := by
    intro p h
    have h1 := hx p h
    rw [getElem!_pos xs (p + 1) h, getElem!_pos xs p (by omega), ahead_iff] at h1
    unfold lessB at h1
    rw [hright _ (List.getElem_mem _), hright _ (List.getElem_mem _)] at h1
    have hne : xs[p]'(by omega) ≠ xs[p + 1] := (List.pairwise_iff_getElem.1 hnd) p (p + 1) (by omega) h (by omega)
    have hne' : ¬ ((xs[p]'(by omega)).1 = xs[p + 1].1 ∧ (xs[p]'(by omega)).2 = xs[p + 1].2) := fun h => hne (Prod.ext h.1 h.2)
    simp only [Bool.true_and, Bool.or_eq_false_iff, Bool.and_eq_false_iff, decide_eq_false_iff_not, beq_eq_false_iff_ne, ne_eq] at h1
    unfold ltN
    omega
  have hxs : xs.Pairwise ltN := by
    rw [List.pairwise_iff_getElem]
    intro i j hi hj hij
    induction j with
    | zero => omega
    | succ j ih =>
      rcases Nat.lt_or_ge i j with h' | h'
      · have h1 := ih (by omega) h'
        have h2 := step j hj
        unfold ltN at *
        omega
      · obtain rfl : i = j := by omega
        exact step i hj
  exact hp.eq_of_pairwise (fun a b _ _ h1 h2 => by unfold ltN at h1 h2; omega) hxs hpw
end Go.Proofs.Ytkkhjeigndcmaab
