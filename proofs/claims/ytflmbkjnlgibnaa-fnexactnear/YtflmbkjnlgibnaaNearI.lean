/- Who is near: by the program. (Written by gen_near2.py.) -/
import Derived.Test.YtflmbkjnlgibnaaLookI
import Derived.Test.YtflmbkjnlgibnaaAtWork
namespace Go.Proofs.Ytflmbkjnlgibnaa
open Go.RowKit Go.Sort

def nearF (f : If) (x : Int) : Bool := coversB f.a f.l x && decide (x ≠ f.d)
def nearB (is : List If) (rs : List Rt) (now i x : Int) : Bool := instB is rs now && (match ifAt is i with
  | none => false
  | some f => nearF f x)
set_option maxRecDepth 100000 in
set_option maxHeartbeats 2000000 in
theorem isNear_any (f : If) (x : Int) (w : World) : Calls Try.prog 58 #[ifV f, .int .i64 x] w fun e w' => e = .returned (.bool (nearF f x)) ∧ Below w.heap.size w w' := by
  have HC : Hid (∀ w, Calls Try.prog 91 #[.agg #[.int .i64 f.a, .int .i64 f.l], .int .i64 x] w fun e w' => e = .returned (.bool (coversB f.a f.l x)) ∧ Below w.heap.size w w') := implCovers_any f.a f.l x
  obtain ⟨d, a, l, c, u⟩ := f
  unfold ifV ifA nearF
  simp only at HC ⊢
  generalize coversB a l x = B at *
  go_enter Try.func58, Try.ntmps58
  go_wp2_with fail
  refine (HC.out _).mono ?_
  rintro e w1 ⟨rfl, hb1⟩
  obtain ⟨c0, c1, c2, c3, c4, hB⟩ := box5i hb1
  clear hb1 HC
  cases B
  · go_wp2
    go_ret
    exact ⟨ret_bool (by simp), hB⟩
  · by_cases h1 : x = d
    · have z : (x != d) = false := by simpa using h1
      go_wp2
      go_ret
      exact ⟨ret_bool (by simp [h1]), hB⟩
    · have z : (x != d) = true := by simpa using h1
      go_wp2
      go_ret
      exact ⟨ret_bool (by simp [h1]), hB⟩
set_option maxRecDepth 100000 in
set_option maxHeartbeats 2000000 in
theorem implNear_any (x : Option Addr) (c1 : Nat) (y : Option Addr) (c2 : Nat) (is : List If) (rs : List Rt) (now i fr : Int) (w : World) (h1 : IfsIn w x is) (hc : is.length ≤ c1) (hc1 : x = none → c1 = 0) (h2 : RtsIn w y rs) (hc2 : y = none → c2 = 0) (hn1 : is.length ≤ 100000000) (hn2 : rs.length ≤ 100000000) :
    Calls Try.prog 24 #[instV x is.length c1 y rs.length c2 now, .int .i64 i, .int .i64 fr] w fun e w' => e = .returned (.bool (nearB is rs now i fr)) ∧ Below w.heap.size w w' := by
  have HR : Hid (∀ w, IfsIn w x is → RtsIn w y rs → Calls Try.prog 12 #[instV x is.length c1 y rs.length c2 now] w fun e w' => e = .returned (.bool (instB is rs now)) ∧ Below w.heap.size w w') := fun w p q => implInst_any x c1 y c2 is rs now w p hc q hn1 hn2
  have HA : Hid (∀ w, IfsIn w x is → RtsIn w y rs → Calls Try.prog 50 #[instV x is.length c1 y rs.length c2 now] w fun e w' => ∃ g, e = .returned (.pointer (some ⟨g, 0, none⟩)) ∧ AtW w.heap.size is rs now g w' ∧ Below w.heap.size w w') := fun w p q => atWork_any x c1 y c2 is rs now w p hc1 q hc2 hn1 hn2
  have HL : Hid (∀ g q2 n2 k2 q1 k1 w, Row w g 94 [.slice q2 n2 k2, .slice q1 is.length k1, .int .i64 now] → IfsIn w q1 is → Calls Try.prog 57 #[.pointer (some ⟨g, 0, none⟩), .int .i64 i, .bool true] w fun e w' => e = .returned (.int .i64 (lookC is i true)) ∧ Below w.heap.size w w') := fun g q2 n2 k2 q1 k1 w a b => look_any g q2 n2 k2 q1 k1 now is i true w a b hn1
  have HX : Hid (IfsIn w x is ∧ RtsIn w y rs) := ⟨h1, h2⟩
  have HNB : Hid (nearB is rs now i fr = (instB is rs now && (match ifAt is i with
    | none => false
    | some f => nearF f fr))) := rfl
  clear h1 h2 hc hc1 hc2 hn2
  generalize nearB is rs now i fr = NB at *
  generalize instB is rs now = IB at *
  unfold instV at *
  have HQ : Hid _ := And.intro (Row.new w 35 [.slice x is.length c1, .slice y rs.length c2, .int .i64 now]) (ent_new0 w (.cells #[.slice x is.length c1, .slice y rs.length c2, .int .i64 now] 35))
  go_enter Try.func24, Try.ntmps24
  go_wp2_with fail
  obtain ⟨r0, hB⟩ := HQ.out
  refine (HR.out _ (HX.out.1.below hB) (HX.out.2.below hB)).mono ?_
  rintro e w1 ⟨rfl, hb1⟩
  have r0 := r0.below hb1 r0.lt
  have hB := hB.trans (hb1.mono hB.size)
  clear hb1 HR HQ
  cases IB
  · have hR := HNB.out
    simp only [Bool.false_and] at hR
    go_wp2
    go_ret
    exact ⟨by rw [hR]; rfl, hB⟩
  · have y0 : w1.cell? ⟨w.heap.size, 0, none⟩ = some (.slice x is.length c1) := r0.cell 0
    have y1 : w1.cell? ⟨w.heap.size, 1, none⟩ = some (.slice y rs.length c2) := r0.cell 1
    have y2 : w1.cell? ⟨w.heap.size, 2, none⟩ = some (.int .i64 now) := r0.cell 2
    go_wp2_with fail
    refine (HA.out _ (HX.out.1.below hB) (HX.out.2.below hB)).mono ?_
    rintro e w2 ⟨g, rfl, ⟨q1, k1, q2, k2, hg, ra, oi, _⟩, hb2⟩
    have hB := hB.trans (hb2.mono hB.size)
    have hI := ownsI_in rfl oi
    clear hb2 HA y0 y1 y2 r0 oi hg
    go_wp2_with fail
    refine (HL.out g q2 _ k2 q1 k1 _ ra hI).mono ?_
    rintro e w3 ⟨rfl, hb3⟩
    have ra := ra.below hb3 ra.lt
    have hI := hI.below hb3
    have hB := hB.trans (hb3.mono hB.size)
    clear hb3 HL HX
    have hR := HNB.out
    clear HNB
    unfold lookC
    cases hat : ifAt is i with
    | none =>
      rw [hat] at hR
      simp only [Bool.and_false] at hR
      go_wp2
      go_ret
      exact ⟨by rw [hR]; rfl, hB⟩
    | some f =>
      rw [hat] at hR
      simp only [Bool.true_and] at hR
      obtain ⟨k, rfl, hk, e⟩ := ifAt_some hat
      obtain ⟨b, d, a, l, c, u, rfl, hbl, hek, c0, c1', c2', c3, c4⟩ := hI.at k hk
      rw [e] at hek
      subst hek
      have HF : Hid (∀ w, Calls Try.prog 58 #[.agg #[.int .i64 d, .int .i64 a, .int .i64 l, .int .i64 c, .bool u], .int .i64 fr] w fun e w' => e = .returned (.bool (nearF ⟨d, a, l, c, u⟩ fr)) ∧ Below w.heap.size w w') := isNear_any ⟨d, a, l, c, u⟩ fr
      have z1 : w3.cell? ⟨g, 1, none⟩ = some (.slice (some ⟨b, 0, none⟩) is.length k1) := ra.cell 1
      have zc : ((if u = true then (0 : Int) else 10) != 6) = true := by cases u <;> rfl
      have zk : (k : Int) < (is.length : Int) := by omega
      clear hat e ra hI
      generalize nearF ⟨d, a, l, c, u⟩ fr = NF at *
      simp only
      generalize (if u = true then (0 : Int) else 10) = CC at *
      go_wp2_with fail
      refine (HF.out _).mono ?_
      rintro e w4 ⟨rfl, hb4⟩
      have hB := hB.trans (hb4.mono hB.size)
      clear hb4
      go_wp2
      go_ret
      exact ⟨by rw [hR]; rfl, hB⟩
end Go.Proofs.Ytflmbkjnlgibnaa
