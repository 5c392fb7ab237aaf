/- The walk of the law on LeaksRight. (Written by gen_lksr.py.) -/
import Derived.Test.YtflmbkjnlgibnaaLksR
import Derived.Test.YtflmbkjnlgibnaaMakeLks
import Derived.Test.YtflmbkjnlgibnaaEqLks
namespace Go.Proofs.Ytflmbkjnlgibnaa
open Go.RowKit Go.Sort

set_option maxRecDepth 100000 in
set_option maxHeartbeats 2000000 in
theorem fnExactLeaksRight_walk (x : Option Addr) (len cap : Nat) (rs : List Lk) (w : World) (h : ArgL w x len rs) :
    Calls Try.prog 8 #[.slice x len cap] w fun r w' => r = .returned (.bool true) ∧ Below w.heap.size w w' := by
  obtain rfl : rs.length = len := h.1
  have hml := h.2.1
  have HZ : Hid (∀ w, Calls Try.prog 34 #[.slice x rs.length cap, .int .i64 1048576] w fun e w' => e = .returned (.int .i64 (if rs.length ≤ 1048576 then 1048576 - (rs.length : Int) else -1)) ∧ w = w') := fun w => szLeakS_any x rs.length cap w hml
  have HX : Hid (ArgL w x rs.length rs) := h
  clear h hml
  by_cases hn : rs.length ≤ 1048576
  · have d : decide (1048576 - (rs.length : Int) < 0) = false := by simp; omega
    have HT : Hid (∀ w, ArgL w x rs.length rs → Calls Try.prog 36 #[.slice x rs.length cap] w fun e w' => ∃ g, e = .returned (.slice (some ⟨g, 0, none⟩) rs.length rs.length) ∧ w.heap.size ≤ g ∧ Row w' g 64 (rowL rs) ∧ Below w.heap.size w w') := fun w h => toLeakS_any x cap rs w h hn
    have HS : Hid (∀ g w, Row w g 64 (rowL rs) → Calls Try.prog 35 #[.slice (some ⟨g, 0, none⟩) rs.length rs.length] w fun e w' => e = .returned (.bool (lksB rs)) ∧ Below w.heap.size w w') := fun g w h => specLeaks_any _ _ rs w (lksIn_row h) (by omega)
    have HI : Hid (∀ g w, Row w g 64 (rowL rs) → Calls Try.prog 37 #[.slice (some ⟨g, 0, none⟩) rs.length rs.length] w fun e w' => e = .returned (.bool (lksB rs)) ∧ Below w.heap.size w w') := fun g w h => implLeaks_any _ _ rs w (lksIn_row h) (by omega)
    have HQ : Hid (∀ p q a b w, LksIn w p rs → LksIn w q rs → Calls Try.prog 38 #[.slice p rs.length a, .slice q rs.length b] w fun r w' => r = .returned (.bool true) ∧ Below w.heap.size w w') := fun p q a b w h1 h2 => eqLeakS_any p q a b rs w h1 h2 (by omega)
    rw [if_pos hn] at HZ
    generalize lksB rs = R at *
    generalize rs.length = N at *
    have dR : (R != R) = false := by simp
    go_enter Try.func8, Try.ntmps8
    go_wp2_with fail
    refine (HZ.out _).mono ?_
    rintro e w1 ⟨rfl, rfl⟩
    go_wp2_with fail
    refine (HT.out _ HX.out).mono ?_
    rintro e w2 ⟨g2, rfl, _, rr, hb2⟩
    have hB := hb2
    clear hb2
    go_wp2_with fail
    refine (HS.out g2 _ rr).mono ?_
    rintro e w3 ⟨rfl, hb3⟩
    have hB := hB.trans (hb3.mono hB.size)
    clear hb3 rr
    go_wp2_with fail
    refine (HT.out _ (HX.out.below hB)).mono ?_
    rintro e w4 ⟨g4, rfl, _, r4, hb4⟩
    have hB := hB.trans (hb4.mono hB.size)
    clear hb4
    go_wp2_with fail
    refine (HI.out g4 _ r4).mono ?_
    rintro e w5 ⟨rfl, hb5⟩
    have hB := hB.trans (hb5.mono hB.size)
    have r4 := r4.below hb5 r4.lt
    clear hb5
    go_wp2_with fail
    refine (HT.out _ (HX.out.below hB)).mono ?_
    rintro e w6 ⟨g6, rfl, _, r6, hb6⟩
    have hB := hB.trans (hb6.mono hB.size)
    have r4 := r4.below hb6 r4.lt
    clear hb6
    go_wp2_with fail
    refine (HQ.out _ _ _ _ _ (lksIn_row r4) (lksIn_row r6)).mono ?_
    rintro e w7 ⟨rfl, hb7⟩
    have hB := hB.trans (hb7.mono hB.size)
    clear hb7
    go_wp2
    go_ret
    exact ⟨rfl, hB⟩
  · rw [if_neg hn] at HZ
    go_enter Try.func8, Try.ntmps8
    go_wp2_with fail
    refine (HZ.out _).mono ?_
    rintro e w1 ⟨rfl, rfl⟩
    go_wp2
    go_ret
    exact ⟨rfl, Below.refl _ _⟩
end Go.Proofs.Ytflmbkjnlgibnaa
