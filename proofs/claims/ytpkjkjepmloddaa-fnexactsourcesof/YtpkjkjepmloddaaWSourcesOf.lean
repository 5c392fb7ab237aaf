/- The walk of the law on SourcesOf. (Written by gen_wsrcs.py.) -/
import Derived.Test.YtpkjkjepmloddaaSrcsI
import Derived.Test.YtpkjkjepmloddaaSrcsS
import Derived.Test.YtpkjkjepmloddaaMarkLk
import Derived.Test.YtpkjkjepmloddaaMarkJ
import Derived.Test.YtpkjkjepmloddaaEqLks
namespace Go.Proofs.Ytpkjkjepmloddaa
open Go.RowKit Go.Sort

/-- A list of numbers in memory below B. -/
def LoJ (w : World) (B : Nat) (v : Value) (l : List Int) : Prop := ∃ p cap, v = .slice p l.length cap ∧ (l = [] ∨ ∃ g c, p = some ⟨g, 0, none⟩ ∧ g < B ∧ IntsAt w g c l)
theorem LoJ.below {w w' : World} {B : Nat} {v : Value} {l : List Int} (h : LoJ w B v l) (hb : Below B w w') : LoJ w' B v l := by
  obtain ⟨p, cap, e, h⟩ := h
  refine ⟨p, cap, e, ?_⟩
  rcases h with h | ⟨g, c, e2, h2, h3⟩
  · exact .inl h
  · exact .inr ⟨g, c, e2, h2, h3.below hb h2⟩
theorem LoJ.js {w : World} {B : Nat} {v : Value} {l : List Int} (h : LoJ w B v l) : JsIn w v l := by
  obtain ⟨p, cap, e, h⟩ := h
  refine ⟨p, cap, e, ?_⟩
  rcases h with h | ⟨g, c, e2, h2, h3⟩
  · exact .inl h
  · exact .inr ⟨g, c, e2, h3⟩
theorem ListJ.lo {w : World} {base : Nat} {v : Value} {l : List Int} (h : ListJ w base v l) : LoJ w w.heap.size v l := by
  obtain ⟨p, cap, e, h⟩ := h
  refine ⟨p, cap, e, ?_⟩
  rcases h with h | ⟨g, c, e2, h2, h3⟩
  · exact .inl h
  · exact .inr ⟨g, c, e2, h3.lt, h3⟩
theorem ListJ.js {w : World} {base : Nat} {v : Value} {l : List Int} (h : ListJ w base v l) : JsIn w v l := h.lo.js
theorem ListJ.kept {w w' : World} {base : Nat} {v : Value} {l : List Int} {b' : Nat} (h : ListJ w base v l) (hb : b' < base) (hk : ∀ b t l, b ≠ b' → Row w b t l → Row w' b t l) : ListJ w' base v l := by
  obtain ⟨p, cap, e, h⟩ := h
  refine ⟨p, cap, e, ?_⟩
  rcases h with h | ⟨g, c, e2, h2, cur, h3, h4⟩
  · exact .inl h
  · exact .inr ⟨g, c, e2, h2, cur, hk _ _ _ (by omega) h3, h4⟩
theorem srcsO_le (ls : List Lk) (to : Int) : (srcsO ls to).length ≤ 3 := by
  unfold srcsO
  split
  · exact srcK_le ls to 3
  · simp
set_option maxRecDepth 100000 in
set_option maxHeartbeats 4000000 in
theorem fnExactSourcesOf_walk (x : Option Addr) (len cap : Nat) (rs : List Lk) (to : Int) (w : World) (h : ArgL w x len rs) (_ht : (Lit.int .i64 to).wf = true) :
    Calls Try.prog 4 #[.slice x len cap, .int .i64 to] w fun r w' => r = .returned (.bool true) ∧ Below w.heap.size w w' := by
  obtain rfl : rs.length = len := h.1
  have hml := h.2.1
  have HZ : Hid (∀ w, Calls Try.prog 11 #[.slice x rs.length cap, .int .i64 1048576] w fun e w' => e = .returned (.int .i64 (if rs.length ≤ 1048576 then 1048576 - (rs.length : Int) else -1)) ∧ w = w') := fun w => szLeakS_any x rs.length cap w hml
  have HX : Hid (ArgL w x rs.length rs) := h
  clear h hml
  by_cases hn : rs.length ≤ 1048576
  · have d : decide (1048576 - (rs.length : Int) < 0) = false := by simp; omega
    have HT : Hid (∀ w, ArgL w x rs.length rs → Calls Try.prog 13 #[.slice x rs.length cap] w fun e w' => ∃ g, e = .returned (.slice (some ⟨g, 0, none⟩) rs.length rs.length) ∧ w.heap.size ≤ g ∧ Row w' g 76 (rowL rs) ∧ Below w.heap.size w w') := fun w h => toLeakS_any x cap rs w h hn
    have HS : Hid (∀ g w, Row w g 76 (rowL rs) → Calls Try.prog 12 #[.slice (some ⟨g, 0, none⟩) rs.length rs.length, .int .i64 to] w fun e w' => (∃ v, e = .returned v ∧ OwnJ w' w.heap.size v (srcsO rs to)) ∧ Below w.heap.size w w') := fun g w h => specSrcs_any _ _ rs to w (lksIn_row h) (by omega)
    have HI : Hid (∀ g w, Row w g 76 (rowL rs) → Calls Try.prog 14 #[.slice (some ⟨g, 0, none⟩) rs.length rs.length, .int .i64 to] w fun e w' => (∃ v, e = .returned v ∧ ListJ w' w.heap.size v (srcsO rs to)) ∧ Below w.heap.size w w') := fun g w h => implSrcs_any _ _ rs to w (lksIn_row h) (by omega)
    have HE : Hid (∀ p q a b w, LksIn w p rs → LksIn w q rs → Calls Try.prog 16 #[.slice p rs.length a, .slice q rs.length b] w fun r w' => r = .returned (.bool true) ∧ Below w.heap.size w w') := fun p q a b w h1 h2 => eqLeakS_any p q a b rs w h1 h2 (by omega)
    have HK : Hid (∀ g w, Row w g 76 (rowL rs) → Calls Try.prog 17 #[.slice (some ⟨g, 0, none⟩) rs.length rs.length, .int .i64 1] w fun e w' => e = .returned (.int .i64 (1 + 6 * (rs.length : Int))) ∧ Below g w w' ∧ w'.heap.size = w.heap.size ∧ ∀ b t l, b ≠ g → Row w b t l → Row w' b t l) := fun g w h => (markLeakS_in 1 g rs.length rs.length rs [] w rfl (by omega) (by omega) (by rw [List.append_nil]; exact h)).mono (by
      rintro e w' ⟨h1, -, h2, h3, h4⟩
      exact ⟨h1, h2, h3, h4⟩)
    have HL : Hid ((srcsO rs to).length ≤ 3) := srcsO_le rs to
    rw [if_pos hn] at HZ
    generalize srcsO rs to = os at *
    have HQ : Hid (∀ v u w, JsIn w v os → JsIn w u os → Calls Try.prog 15 #[v, u] w fun e w' => e = .returned (.bool true) ∧ Below w.heap.size w w') := fun v u w a b => eqInt64S_any v u os w (by have := HL.out; omega) a b
    have HM : Hid (∀ v base w, ListJ w base v os → Calls Try.prog 18 #[v, .int .i64 1] w fun e w' => e = .returned (.int .i64 (1 + (os.length : Int))) ∧ JsIn w' v (upJ os.length) ∧ Below base w w') := fun v base w h => markInt64S_any v os base w (by have := HL.out; omega) h
    have HH : Hid (∀ v w, JsIn w v (upJ os.length) → Calls Try.prog 19 #[v, .int .i64 1] w fun e w' => e = .returned (.int .i64 (1 + (os.length : Int))) ∧ w = w') := fun v w h => heldInt64S_any v os.length w (by have := HL.out; omega) h
    clear HL
    generalize rs.length = N at *
    generalize os.length = M at *
    go_enter Try.func4, Try.ntmps4
    go_wp2_with fail
    refine (HZ.out _).mono ?_
    rintro e w1 ⟨rfl, rfl⟩
    clear HZ
    go_wp2_with fail
    refine (HT.out _ HX.out).mono ?_
    rintro e w2 ⟨g2, rfl, _, rr, hB⟩
    go_wp2_with fail
    refine (HS.out g2 _ rr).mono ?_
    rintro e w3 ⟨⟨v0, rfl, o0⟩, hb3⟩
    have hB := hB.trans (hb3.mono hB.size)
    have o0 := (ListJ.of_own o0).lo
    have hw03 := hB.size
    clear hb3 rr HS
    go_wp2_with fail
    refine (HT.out _ (HX.out.below hB)).mono ?_
    rintro e w4 ⟨g4, rfl, hg4, r4, hb4⟩
    have o0 := o0.below hb4
    have hB := hB.trans (hb4.mono hB.size)
    clear hb4
    go_wp2_with fail
    refine (HI.out g4 _ r4).mono ?_
    rintro e w5 ⟨⟨v1, rfl, o1⟩, hb5⟩
    have hl4 := r4.lt
    have h34 : w3.heap.size ≤ w4.heap.size := by omega
    have o0 := o0.below (hb5.mono h34)
    have hB := hB.trans (hb5.mono hB.size)
    have r4 := r4.below hb5 r4.lt
    have h35 : w3.heap.size ≤ w5.heap.size := by have := hb5.size; omega
    clear hb5
    go_wp2_with fail
    refine (HQ.out _ _ _ o1.js o0.js).mono ?_
    rintro e w6 ⟨rfl, hb6⟩
    have o1 := o1.below hb6
    have o0 := o0.below (hb6.mono h35)
    have r4 := r4.below hb6 r4.lt
    have hB := hB.trans (hb6.mono hB.size)
    have h36 : w3.heap.size ≤ w6.heap.size := by have := hb6.size; omega
    clear hb6
    go_wp2_with fail
    refine (HT.out _ (HX.out.below hB)).mono ?_
    rintro e w7 ⟨g7, rfl, hg7, r7, hb7⟩
    have o1 := o1.below hb7
    have o0 := o0.below (hb7.mono h36)
    have r4 := r4.below hb7 r4.lt
    have hB := hB.trans (hb7.mono hB.size)
    have h37 : w3.heap.size ≤ w7.heap.size := by have := hb7.size; omega
    clear hb7
    go_wp2_with fail
    refine (HE.out _ _ _ _ _ (lksIn_row r4) (lksIn_row r7)).mono ?_
    rintro e w8 ⟨rfl, hb8⟩
    have o1 := o1.below hb8
    have o0 := o0.below (hb8.mono h37)
    have r4 := r4.below hb8 r4.lt
    have hB := hB.trans (hb8.mono hB.size)
    have h38 : w3.heap.size ≤ w8.heap.size := by have := hb8.size; omega
    clear hb8 r7 HE
    go_wp2_with fail
    refine (HK.out g4 _ r4).mono ?_
    rintro e w9 ⟨rfl, hb9, hs9, hk9⟩
    have o1 := o1.kept hl4 hk9
    have o0 := o0.below (hb9.mono hg4)
    have hB := hB.trans (hb9.mono (by omega))
    have h39 : w3.heap.size ≤ w9.heap.size := by omega
    clear hb9 hk9 r4 HK
    have dK : decide (1 + 6 * (N : Int) < 0) = false := by simp; omega
    go_wp2_with fail
    refine (HQ.out _ _ _ o1.js o0.js).mono ?_
    rintro e w10 ⟨rfl, hb10⟩
    have o1 := o1.below hb10
    have o0 := o0.below (hb10.mono h39)
    have hB := hB.trans (hb10.mono hB.size)
    have hA : w3.heap.size ≤ w10.heap.size := by have := hb10.size; omega
    clear hb10
    go_wp2_with fail
    refine (HM.out _ _ _ o1).mono ?_
    rintro e w11 ⟨rfl, m1, hb11⟩
    have o0 := o0.below (hb11.mono h34)
    have hB := hB.trans (hb11.mono (by omega))
    have hA : w3.heap.size ≤ w11.heap.size := by have := hb11.size; omega
    clear hb11 o1 HM
    go_wp2_with fail
    refine (HH.out _ _ m1).mono ?_
    rintro e w12 ⟨rfl, rfl⟩
    have dM : decide (1 + (M : Int) < 0) = false := by simp; omega
    have dE : ((1 + (M : Int)) != (1 + (M : Int))) = false := by simp
    go_wp2_with fail
    refine (HT.out _ (HX.out.below hB)).mono ?_
    rintro e w13 ⟨g13, rfl, hg13, r13, hb13⟩
    have o0 := o0.below (hb13.mono hA)
    have m1 := m1.below hb13
    have hB := hB.trans (hb13.mono hB.size)
    have hA : w3.heap.size ≤ w13.heap.size := by have := hb13.size; omega
    clear hb13
    go_wp2_with fail
    refine (HI.out g13 _ r13).mono ?_
    rintro e w14 ⟨⟨v2, rfl, o2⟩, hb14⟩
    have o0 := o0.below (hb14.mono hA)
    have m1 := m1.below hb14
    have hB := hB.trans (hb14.mono hB.size)
    clear hb14 r13
    go_wp2_with fail
    refine (HQ.out _ _ _ o2.js o0.js).mono ?_
    rintro e w15 ⟨rfl, hb15⟩
    have m1 := m1.below hb15
    have hB := hB.trans (hb15.mono hB.size)
    clear hb15 o2 o0
    go_wp2_with fail
    refine (HH.out _ _ m1).mono ?_
    rintro e w16 ⟨rfl, rfl⟩
    clear HH m1 HQ HT HI HX
    go_wp2
    go_ret
    exact ⟨rfl, hB⟩
  · rw [if_neg hn] at HZ
    go_enter Try.func4, Try.ntmps4
    go_wp2_with fail
    refine (HZ.out _).mono ?_
    rintro e w1 ⟨rfl, rfl⟩
    go_wp2
    go_ret
    exact ⟨rfl, Below.refl _ _⟩
end Go.Proofs.Ytpkjkjepmloddaa
