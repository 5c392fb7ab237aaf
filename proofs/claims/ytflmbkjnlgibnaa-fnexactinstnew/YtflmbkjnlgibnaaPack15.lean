/- Texts that stand on each other, in one file: InstOutL. -/
import Derived.Test.YtflmbkjnlgibnaaPack14
import Derived.Test.YtflmbkjnlgibnaaPack13
/- The laws' own looks at an Inst and an InstOut that are handed back: alike, marked, held. (Written by gen_iout.py.) -/
namespace Go.Proofs.Ytflmbkjnlgibnaa
open Go.RowKit Go.Sort

theorem ownsR_keptK {w w' : World} {base : Nat} {p : Option Addr} {n cv : Nat} {xs : List Value} (h : w.ownsRow base 101 9 (.slice p n cv) n xs) (hk : ∀ b t l, p = some ⟨b, 0, none⟩ → Row w b t l → Row w' b t l) : w'.ownsRow base 101 9 (.slice p n cv) n xs := by
  refine ⟨h.1, ?_⟩
  rcases h.2 with h2 | ⟨g, cap, cur, e1, e2, e3, e4⟩
  · exact .inl h2
  · simp only [Value.slice.injEq] at e1
    obtain ⟨rfl, _, rfl⟩ := e1
    have := hk g 101 cur.toList rfl (by unfold Row; simpa using e3)
    exact .inr ⟨g, _, cur, rfl, e2, by unfold Row at this; simpa using this, e4⟩
set_option maxRecDepth 100000 in
set_option maxHeartbeats 2000000 in
theorem markInst_any (K : Nat) (p : Option Addr) (n c : Nat) (q : Option Addr) (m d : Nat) (now : Int) (base : Nat) (is : List If) (rs : List Rt) (w : World) (hn : n = is.length) (hm : m = rs.length) (hK : K ≤ 1000) (h8 : n ≤ 10000000) (h9 : m ≤ 100000000) (hi : w.ownsRow base 82 5 (.slice p n c) n (rowI is)) (hr : w.ownsRow base 101 9 (.slice q m d) m (rowR rs)) (hbs : base ≤ w.heap.size) :
    Calls Try.prog 28 #[.agg #[.slice p n c, .slice q m d, .int .i64 now], .int .i64 K] w fun e w' => e = .returned (.int .i64 ((K : Int) + 5 * (n : Int) + 9 * (m : Int))) ∧ w'.ownsRow base 82 5 (.slice p n c) n (rowI (marksI K n)) ∧ w'.ownsRow base 101 9 (.slice q m d) m (rowR (marksR (K + 5 * n) m)) ∧ Below base w w' ∧ ∀ b t l, p ≠ some ⟨b, 0, none⟩ → q ≠ some ⟨b, 0, none⟩ → Row w b t l → Row w' b t l := by
  have HM : Hid (Calls Try.prog 20 #[.slice p n c, .int .i64 K] (w.alloc (.cells #[.slice p n c, .slice q m d, .int .i64 now] 35)) fun e w' => e = .returned (.int .i64 ((K : Int) + 5 * (n : Int))) ∧ w'.ownsRow base 82 5 (.slice p n c) n (rowI (marksI K n)) ∧ Below base (w.alloc (.cells #[.slice p n c, .slice q m d, .int .i64 now] 35)) w' ∧ ∀ b t l, p ≠ some ⟨b, 0, none⟩ → Row (w.alloc (.cells #[.slice p n c, .slice q m d, .int .i64 now] 35)) b t l → Row w' b t l) := markIfaceS_any K p n c base is _ hn (by omega) (by omega) (World.ownsRow.alloc hi _)
  have HR : Hid (∀ w1 : World, w1.ownsRow base 101 9 (.slice q m d) m (rowR rs) → base ≤ w1.heap.size → Calls Try.prog 62 #[.agg #[.slice q m d], .int .i64 ((K : Int) + 5 * (n : Int))] w1 fun e w' => e = .returned (.int .i64 ((K : Int) + 5 * (n : Int) + 9 * (m : Int))) ∧ w'.ownsRow base 101 9 (.slice q m d) m (rowR (marksR (K + 5 * n) m)) ∧ Below base w1 w' ∧ ∀ b t l, q ≠ some ⟨b, 0, none⟩ → Row w1 b t l → Row w' b t l) := fun w1 h1 h2 => by
    have := markRib_any (K + 5 * n) q m d base rs w1 hm (by omega) h9 h1 h2
    simpa using this
  have hr := World.ownsRow.alloc hr (.cells #[.slice p n c, .slice q m d, .int .i64 now] 35)
  have hi := World.ownsRow.alloc hi (.cells #[.slice p n c, .slice q m d, .int .i64 now] 35)
  have r0 := Row.new w 35 [.slice p n c, .slice q m d, .int .i64 now]
  have hB0 := (Below.refl base w).alloc hbs (.cells #[.slice p n c, .slice q m d, .int .i64 now] 35)
  have HK : Hid (∀ b t l, Row w b t l → Row (w.alloc (.cells #[.slice p n c, .slice q m d, .int .i64 now] 35)) b t l) := fun b t l h => h.alloc _
  have HA : Hid _ := And.intro hr (And.intro hi (And.intro r0 hB0))
  clear hr hi r0 hB0 hn hm hK h8 h9
  go_enter Try.func28, Try.ntmps28
  go_wp2_with fail
  obtain ⟨hr, hi, r0, hB⟩ := HA.out
  generalize w.alloc (.cells #[.slice p n c, .slice q m d, .int .i64 now] 35) = W at *
  refine (HM.out).mono ?_
  rintro e w1 ⟨rfl, oi, hb1, hk1⟩
  have hr := ownsR_keptK hr (fun b t l e h => hk1 b t l (ownsIR_ne hi hr e) h)
  have r0 := hk1 _ _ _ (ownsI_ne hi r0 (by decide)) r0
  have hB := hB.trans hb1
  have HK1 : Hid (∀ b t l, p ≠ some ⟨b, 0, none⟩ → Row w b t l → Row w1 b t l) := fun b t l hp h => hk1 b t l hp (HK.out b t l h)
  have hs1 := hb1.size
  have hsB := hB.size
  clear hb1 hk1 HM HA HK hi
  have y1 : w1.cell? ⟨w.heap.size, 1, none⟩ = some (.slice q m d) := r0.cell 1
  go_wp2_with fail
  refine (HR.out w1 hr (by omega)).mono ?_
  rintro e w2 ⟨rfl, or2, hb2, hk2⟩
  have oi := ownsI_kept oi (fun b t l e h => hk2 b t l (ownsRI_ne oi hr e) h)
  have hB := hB.trans hb2
  have HK2 : Hid (∀ b t l, p ≠ some ⟨b, 0, none⟩ → q ≠ some ⟨b, 0, none⟩ → Row w b t l → Row w2 b t l) := fun b t l hp hq h => hk2 b t l hq (HK1.out b t l hp h)
  clear hb2 hk2 HR HK1 y1 r0 hr
  go_wp2
  go_ret
  exact ⟨rfl, oi, or2, hB, HK2.out⟩
set_option maxRecDepth 100000 in
set_option maxHeartbeats 2000000 in
theorem markInstOut_any (K : Nat) (cc : Int) (p : Option Addr) (n c : Nat) (q : Option Addr) (m d : Nat) (now : Int) (base : Nat) (is : List If) (rs : List Rt) (w : World) (hn : n = is.length) (hm : m = rs.length) (hK : K ≤ 1000) (h8 : n ≤ 10000000) (h9 : m ≤ 100000000) (hi : w.ownsRow base 82 5 (.slice p n c) n (rowI is)) (hr : w.ownsRow base 101 9 (.slice q m d) m (rowR rs)) (hbs : base ≤ w.heap.size) :
    Calls Try.prog 21 #[.agg #[.slice p n c, .slice q m d, .int .i64 now, .int .i64 cc], .int .i64 K] w fun e w' => e = .returned (.int .i64 ((K : Int) + 5 * (n : Int) + 9 * (m : Int))) ∧ w'.ownsRow base 82 5 (.slice p n c) n (rowI (marksI K n)) ∧ w'.ownsRow base 101 9 (.slice q m d) m (rowR (marksR (K + 5 * n) m)) ∧ Below base w w' ∧ ∀ b t l, p ≠ some ⟨b, 0, none⟩ → q ≠ some ⟨b, 0, none⟩ → Row w b t l → Row w' b t l := by
  have HM : Hid (Calls Try.prog 28 #[.agg #[.slice p n c, .slice q m d, .int .i64 now], .int .i64 K] (w.alloc (.cells #[.slice p n c, .slice q m d, .int .i64 now, .int .i64 cc] 41)) fun e w' => e = .returned (.int .i64 ((K : Int) + 5 * (n : Int) + 9 * (m : Int))) ∧ w'.ownsRow base 82 5 (.slice p n c) n (rowI (marksI K n)) ∧ w'.ownsRow base 101 9 (.slice q m d) m (rowR (marksR (K + 5 * n) m)) ∧ Below base (w.alloc (.cells #[.slice p n c, .slice q m d, .int .i64 now, .int .i64 cc] 41)) w' ∧ ∀ b t l, p ≠ some ⟨b, 0, none⟩ → q ≠ some ⟨b, 0, none⟩ → Row (w.alloc (.cells #[.slice p n c, .slice q m d, .int .i64 now, .int .i64 cc] 41)) b t l → Row w' b t l) := markInst_any K p n c q m d now base is rs _ hn hm hK h8 h9 (World.ownsRow.alloc hi _) (World.ownsRow.alloc hr _) (by simp; omega)
  have hB0 := (Below.refl base w).alloc hbs (.cells #[.slice p n c, .slice q m d, .int .i64 now, .int .i64 cc] 41)
  have HK : Hid (∀ b t l, Row w b t l → Row (w.alloc (.cells #[.slice p n c, .slice q m d, .int .i64 now, .int .i64 cc] 41)) b t l) := fun b t l h => h.alloc _
  clear hi hr hn hm hK h8 h9
  go_enter Try.func21, Try.ntmps21
  go_wp2_with fail
  refine (HM.out).mono ?_
  rintro e w1 ⟨rfl, oi, orr, hb1, hk1⟩
  have hB := hB0.trans hb1
  have HK1 : Hid (∀ b t l, p ≠ some ⟨b, 0, none⟩ → q ≠ some ⟨b, 0, none⟩ → Row w b t l → Row w1 b t l) := fun b t l hp hq h => hk1 b t l hp hq (HK.out b t l h)
  clear hb1 hk1 HM HK hB0
  go_wp2
  go_ret
  exact ⟨rfl, oi, orr, hB, HK1.out⟩
set_option maxRecDepth 100000 in
set_option maxHeartbeats 2000000 in
theorem heldInst_any (K : Nat) (p : Option Addr) (n c : Nat) (q : Option Addr) (m d : Nat) (now : Int) (w : World) (hK : K ≤ 1000) (h8 : n ≤ 10000000) (h9 : m ≤ 100000000) (hi : IfsIn w p (marksI K n)) (hr : RtsIn w q (marksR (K + 5 * n) m)) :
    Calls Try.prog 54 #[.agg #[.slice p n c, .slice q m d, .int .i64 now], .int .i64 K] w fun e w' => e = .returned (.int .i64 ((K : Int) + 5 * (n : Int) + 9 * (m : Int))) ∧ Below w.heap.size w w' := by
  have HM : Hid (Calls Try.prog 87 #[.slice p n c, .int .i64 K] (w.alloc (.cells #[.slice p n c, .slice q m d, .int .i64 now] 35)) fun e w' => e = .returned (.int .i64 ((K : Int) + 5 * (n : Int))) ∧ (w.alloc (.cells #[.slice p n c, .slice q m d, .int .i64 now] 35)) = w') := heldIfaceS_in K p n c _ (by omega) (by omega) (hi.alloc _)
  have HR : Hid (Calls Try.prog 88 #[.agg #[.slice q m d], .int .i64 ((K : Int) + 5 * (n : Int))] (w.alloc (.cells #[.slice p n c, .slice q m d, .int .i64 now] 35)) fun e w' => e = .returned (.int .i64 ((K : Int) + 5 * (n : Int) + 9 * (m : Int))) ∧ Below (w.alloc (.cells #[.slice p n c, .slice q m d, .int .i64 now] 35)).heap.size (w.alloc (.cells #[.slice p n c, .slice q m d, .int .i64 now] 35)) w') := by
    have := heldRib_any (K + 5 * n) q m d (w.alloc (.cells #[.slice p n c, .slice q m d, .int .i64 now] 35)) (by omega) h9 (hr.alloc _)
    unfold Hid
    simpa using this
  have r0 := Row.new w 35 [.slice p n c, .slice q m d, .int .i64 now]
  have y1 : (w.alloc (.cells #[.slice p n c, .slice q m d, .int .i64 now] 35)).cell? ⟨w.heap.size, 1, none⟩ = some (.slice q m d) := r0.cell 1
  have hB0 := ent_new0 w (.cells #[.slice p n c, .slice q m d, .int .i64 now] 35)
  have d1 : decide ((K : Int) + 5 * (n : Int) < 0) = false := by simp; omega
  have d2 : decide (((K : Int) + 5 * (n : Int) + 9 * (m : Int)) < 0) = false := by simp; omega
  clear hi hr hK h8 h9 r0
  go_enter Try.func54, Try.ntmps54
  go_wp2_with fail
  refine (HM.out).mono ?_
  rintro e w1 ⟨rfl, rfl⟩
  go_wp2_with fail
  refine (HR.out).mono ?_
  rintro e w2 ⟨rfl, hb2⟩
  have hB := hB0.trans (hb2.mono (by simp))
  clear hb2
  go_wp2
  go_ret
  exact ⟨rfl, hB⟩
set_option maxRecDepth 100000 in
set_option maxHeartbeats 2000000 in
theorem heldInstOut_any (K : Nat) (cc : Int) (p : Option Addr) (n c : Nat) (q : Option Addr) (m d : Nat) (now : Int) (w : World) (hK : K ≤ 1000) (h8 : n ≤ 10000000) (h9 : m ≤ 100000000) (hi : IfsIn w p (marksI K n)) (hr : RtsIn w q (marksR (K + 5 * n) m)) :
    Calls Try.prog 22 #[.agg #[.slice p n c, .slice q m d, .int .i64 now, .int .i64 cc], .int .i64 K] w fun e w' => e = .returned (.int .i64 ((K : Int) + 5 * (n : Int) + 9 * (m : Int))) ∧ Below w.heap.size w w' := by
  have HM : Hid (Calls Try.prog 54 #[.agg #[.slice p n c, .slice q m d, .int .i64 now], .int .i64 K] (w.alloc (.cells #[.slice p n c, .slice q m d, .int .i64 now, .int .i64 cc] 41)) fun e w' => e = .returned (.int .i64 ((K : Int) + 5 * (n : Int) + 9 * (m : Int))) ∧ Below (w.alloc (.cells #[.slice p n c, .slice q m d, .int .i64 now, .int .i64 cc] 41)).heap.size (w.alloc (.cells #[.slice p n c, .slice q m d, .int .i64 now, .int .i64 cc] 41)) w') := heldInst_any K p n c q m d now _ hK h8 h9 (hi.alloc _) (hr.alloc _)
  have hB0 := ent_new0 w (.cells #[.slice p n c, .slice q m d, .int .i64 now, .int .i64 cc] 41)
  have d2 : decide (((K : Int) + 5 * (n : Int) + 9 * (m : Int)) < 0) = false := by simp; omega
  clear hi hr hK h8 h9
  go_enter Try.func22, Try.ntmps22
  go_wp2_with fail
  refine (HM.out).mono ?_
  rintro e w2 ⟨rfl, hb2⟩
  have hB := hB0.trans (hb2.mono (by simp))
  clear hb2
  go_wp2
  go_ret
  exact ⟨rfl, hB⟩
set_option maxRecDepth 100000 in
set_option maxHeartbeats 2000000 in
theorem eqInstOut_any (cc : Int) (p p' : Option Addr) (n c c' : Nat) (q q' : Option Addr) (m d d' : Nat) (now : Int) (is : List If) (rs : List Rt) (w : World) (hn : n = is.length) (hm : m = rs.length) (h8 : n ≤ 100000000) (h9 : m ≤ 100000000) (h1 : IfsIn w p is) (h2 : IfsIn w p' is) (h3 : RtsIn w q rs) (h4 : RtsIn w q' rs) :
    Calls Try.prog 18 #[.agg #[.slice p n c, .slice q m d, .int .i64 now, .int .i64 cc], .agg #[.slice p' n c', .slice q' m d', .int .i64 now, .int .i64 cc]] w fun e w' => e = .returned (.bool true) ∧ Below w.heap.size w w' := by
  subst hn hm
  have HE : Hid (∀ w, IfsIn w p is → IfsIn w p' is → RtsIn w q rs → RtsIn w q' rs → Calls Try.prog 13 #[.agg #[.slice p is.length c, .slice q rs.length d, .int .i64 now], .agg #[.slice p' is.length c', .slice q' rs.length d', .int .i64 now]] w fun e w' => e = .returned (.bool true) ∧ Below w.heap.size w w') := fun w a b e f => eqInst_any p p' c c' q q' d d' is rs now w a b e f h8 h9
  have HX : Hid _ := And.intro h1 (And.intro h2 (And.intro h3 h4))
  have q0 := (Row.new w 41 [.slice p is.length c, .slice q rs.length d, .int .i64 now, .int .i64 cc]).alloc (.cells #[.slice p' is.length c', .slice q' rs.length d', .int .i64 now, .int .i64 cc] 41)
  have q1 := Row.new (w.alloc (.cells #[.slice p is.length c, .slice q rs.length d, .int .i64 now, .int .i64 cc] 41)) 41 [.slice p' is.length c', .slice q' rs.length d', .int .i64 now, .int .i64 cc]
  clear h1 h2 h3 h4 h8 h9
  go_enter Try.func18, Try.ntmps18
  go_wp2_with fail
  refine (HE.out _ ((HX.out.1.alloc _).alloc _) ((HX.out.2.1.alloc _).alloc _) ((HX.out.2.2.1.alloc _).alloc _) ((HX.out.2.2.2.alloc _).alloc _)).mono ?_
  rintro e w1 ⟨rfl, hb1⟩
  have p0 := q0.below hb1 q0.lt
  have p1 := q1.below hb1 q1.lt
  rw [show (w.alloc (.cells #[.slice p is.length c, .slice q rs.length d, .int .i64 now, .int .i64 cc] 41)).heap.size = w.heap.size + 1 by simp] at p1
  have hB : Below w.heap.size w w1 := ((ent_new0 w _).alloc (by simp) _).trans (hb1.mono (by simp; omega))
  have c1 : w1.cell? ⟨w.heap.size, 3, none⟩ = some (.int .i64 cc) := p0.cell 3
  have d1 : w1.cell? ⟨w.heap.size + 1, 3, none⟩ = some (.int .i64 cc) := p1.cell 3
  clear hb1 HE HX q0 q1 p0 p1
  go_wp2
  go_ret
  exact ⟨rfl, hB⟩
end Go.Proofs.Ytflmbkjnlgibnaa
