/- Texts that stand on each other, in one file: InstOutL, ToInst2, StabInst. -/
import Derived.Test.YtifckpncpjijiaaGreatPack16
import Derived.Test.YtifckpncpjijiaaGreatPack15
import Derived.Test.YtifckpncpjijiaaGreatPack3
/- The laws' own looks at an Inst and an InstOut that are handed back: alike, marked, held. (Written by gen_iout.py.) -/
namespace Go.Proofs.YtifckpncpjijiaaGreat
open Go.RowKit Go.Sort

theorem ownsR_keptK {w w' : World} {base : Nat} {p : Option Addr} {n cv : Nat} {xs : List Value} (h : w.ownsRow base 98 9 (.slice p n cv) n xs) (hk : ∀ b t l, p = some ⟨b, 0, none⟩ → Row w b t l → Row w' b t l) : w'.ownsRow base 98 9 (.slice p n cv) n xs := by
  refine ⟨h.1, ?_⟩
  rcases h.2 with h2 | ⟨g, cap, cur, e1, e2, e3, e4⟩
  · exact .inl h2
  · simp only [Value.slice.injEq] at e1
    obtain ⟨rfl, _, rfl⟩ := e1
    have := hk g 98 cur.toList rfl (by unfold Row; simpa using e3)
    exact .inr ⟨g, _, cur, rfl, e2, by unfold Row at this; simpa using this, e4⟩
set_option maxRecDepth 100000 in
set_option maxHeartbeats 2000000 in
theorem markInst_any (K : Nat) (p : Option Addr) (n c : Nat) (q : Option Addr) (m d : Nat) (now : Int) (base : Nat) (is : List If) (rs : List Rt) (w : World) (hn : n = is.length) (hm : m = rs.length) (hK : K ≤ 1000) (h8 : n ≤ 10000000) (h9 : m ≤ 100000000) (hi : w.ownsRow base 89 5 (.slice p n c) n (rowI is)) (hr : w.ownsRow base 98 9 (.slice q m d) m (rowR rs)) (hbs : base ≤ w.heap.size) :
    Calls Tryz.prog 18 #[.agg #[.slice p n c, .slice q m d, .int .i64 now], .int .i64 K] w fun e w' => e = .returned (.int .i64 ((K : Int) + 5 * (n : Int) + 9 * (m : Int))) ∧ w'.ownsRow base 89 5 (.slice p n c) n (rowI (marksI K n)) ∧ w'.ownsRow base 98 9 (.slice q m d) m (rowR (marksR (K + 5 * n) m)) ∧ Below base w w' ∧ ∀ b t l, p ≠ some ⟨b, 0, none⟩ → q ≠ some ⟨b, 0, none⟩ → Row w b t l → Row w' b t l := by
  have HM : Hid (Calls Tryz.prog 63 #[.slice p n c, .int .i64 K] (w.alloc (.cells #[.slice p n c, .slice q m d, .int .i64 now] 38)) fun e w' => e = .returned (.int .i64 ((K : Int) + 5 * (n : Int))) ∧ w'.ownsRow base 89 5 (.slice p n c) n (rowI (marksI K n)) ∧ Below base (w.alloc (.cells #[.slice p n c, .slice q m d, .int .i64 now] 38)) w' ∧ ∀ b t l, p ≠ some ⟨b, 0, none⟩ → Row (w.alloc (.cells #[.slice p n c, .slice q m d, .int .i64 now] 38)) b t l → Row w' b t l) := markIfaceS_any K p n c base is _ hn (by omega) (by omega) (World.ownsRow.alloc hi _)
  have HR : Hid (∀ w1 : World, w1.ownsRow base 98 9 (.slice q m d) m (rowR rs) → base ≤ w1.heap.size → Calls Tryz.prog 64 #[.agg #[.slice q m d], .int .i64 ((K : Int) + 5 * (n : Int))] w1 fun e w' => e = .returned (.int .i64 ((K : Int) + 5 * (n : Int) + 9 * (m : Int))) ∧ w'.ownsRow base 98 9 (.slice q m d) m (rowR (marksR (K + 5 * n) m)) ∧ Below base w1 w' ∧ ∀ b t l, q ≠ some ⟨b, 0, none⟩ → Row w1 b t l → Row w' b t l) := fun w1 h1 h2 => by
    have := markRib_any (K + 5 * n) q m d base rs w1 hm (by omega) h9 h1 h2
    simpa using this
  have hr := World.ownsRow.alloc hr (.cells #[.slice p n c, .slice q m d, .int .i64 now] 38)
  have hi := World.ownsRow.alloc hi (.cells #[.slice p n c, .slice q m d, .int .i64 now] 38)
  have r0 := Row.new w 38 [.slice p n c, .slice q m d, .int .i64 now]
  have hB0 := (Below.refl base w).alloc hbs (.cells #[.slice p n c, .slice q m d, .int .i64 now] 38)
  have HK : Hid (∀ b t l, Row w b t l → Row (w.alloc (.cells #[.slice p n c, .slice q m d, .int .i64 now] 38)) b t l) := fun b t l h => h.alloc _
  have HA : Hid _ := And.intro hr (And.intro hi (And.intro r0 hB0))
  clear hr hi r0 hB0 hn hm hK h8 h9
  go_enter Tryz.func18, Tryz.ntmps18
  go_wp2_with fail
  obtain ⟨hr, hi, r0, hB⟩ := HA.out
  generalize w.alloc (.cells #[.slice p n c, .slice q m d, .int .i64 now] 38) = W at *
  refine (HM.out).mono ?_
  rintro e w1 ⟨rfl, oi, hb1, hk1⟩
  have hr := ownsR_keptK hr (fun b t l e h => hk1 b t l (ownsIR_ne hi hr e) h)
  have r0 := hk1 _ _ _ (ownsI_ne hi r0 (by decide)) r0
  have hB := hB.trans hb1
  have HK1 : Hid (∀ b t l, p ≠ some ⟨b, 0, none⟩ → Row w b t l → Row w1 b t l) := fun b t l hp h => hk1 b t l hp (HK.out b t l h)
  have hs1 := hb1.size
  have hsB := hB.size
  clear hb1 hk1 HM HA HK hi
  have y1 : w1.cell? ⟨w.heap.size, 1, none⟩ = some (.slice q m d) := r0.cell 1
  go_wp2_with fail
  refine (HR.out w1 hr (by omega)).mono ?_
  rintro e w2 ⟨rfl, or2, hb2, hk2⟩
  have oi := ownsI_kept oi (fun b t l e h => hk2 b t l (ownsRI_ne oi hr e) h)
  have hB := hB.trans hb2
  have HK2 : Hid (∀ b t l, p ≠ some ⟨b, 0, none⟩ → q ≠ some ⟨b, 0, none⟩ → Row w b t l → Row w2 b t l) := fun b t l hp hq h => hk2 b t l hq (HK1.out b t l hp h)
  clear hb2 hk2 HR HK1 y1 r0 hr
  go_wp2
  go_ret
  exact ⟨rfl, oi, or2, hB, HK2.out⟩
set_option maxRecDepth 100000 in
set_option maxHeartbeats 2000000 in
theorem markInstOut_any (K : Nat) (cc : Int) (p : Option Addr) (n c : Nat) (q : Option Addr) (m d : Nat) (now : Int) (base : Nat) (is : List If) (rs : List Rt) (w : World) (hn : n = is.length) (hm : m = rs.length) (hK : K ≤ 1000) (h8 : n ≤ 10000000) (h9 : m ≤ 100000000) (hi : w.ownsRow base 89 5 (.slice p n c) n (rowI is)) (hr : w.ownsRow base 98 9 (.slice q m d) m (rowR rs)) (hbs : base ≤ w.heap.size) :
    Calls Tryz.prog 20 #[.agg #[.slice p n c, .slice q m d, .int .i64 now, .int .i64 cc], .int .i64 K] w fun e w' => e = .returned (.int .i64 ((K : Int) + 5 * (n : Int) + 9 * (m : Int))) ∧ w'.ownsRow base 89 5 (.slice p n c) n (rowI (marksI K n)) ∧ w'.ownsRow base 98 9 (.slice q m d) m (rowR (marksR (K + 5 * n) m)) ∧ Below base w w' ∧ ∀ b t l, p ≠ some ⟨b, 0, none⟩ → q ≠ some ⟨b, 0, none⟩ → Row w b t l → Row w' b t l := by
  have HM : Hid (Calls Tryz.prog 18 #[.agg #[.slice p n c, .slice q m d, .int .i64 now], .int .i64 K] (w.alloc (.cells #[.slice p n c, .slice q m d, .int .i64 now, .int .i64 cc] 40)) fun e w' => e = .returned (.int .i64 ((K : Int) + 5 * (n : Int) + 9 * (m : Int))) ∧ w'.ownsRow base 89 5 (.slice p n c) n (rowI (marksI K n)) ∧ w'.ownsRow base 98 9 (.slice q m d) m (rowR (marksR (K + 5 * n) m)) ∧ Below base (w.alloc (.cells #[.slice p n c, .slice q m d, .int .i64 now, .int .i64 cc] 40)) w' ∧ ∀ b t l, p ≠ some ⟨b, 0, none⟩ → q ≠ some ⟨b, 0, none⟩ → Row (w.alloc (.cells #[.slice p n c, .slice q m d, .int .i64 now, .int .i64 cc] 40)) b t l → Row w' b t l) := markInst_any K p n c q m d now base is rs _ hn hm hK h8 h9 (World.ownsRow.alloc hi _) (World.ownsRow.alloc hr _) (by simp; omega)
  have hB0 := (Below.refl base w).alloc hbs (.cells #[.slice p n c, .slice q m d, .int .i64 now, .int .i64 cc] 40)
  have HK : Hid (∀ b t l, Row w b t l → Row (w.alloc (.cells #[.slice p n c, .slice q m d, .int .i64 now, .int .i64 cc] 40)) b t l) := fun b t l h => h.alloc _
  clear hi hr hn hm hK h8 h9
  go_enter Tryz.func20, Tryz.ntmps20
  go_wp2_with fail
  refine (HM.out).mono ?_
  rintro e w1 ⟨rfl, oi, orr, hb1, hk1⟩
  have hB := hB0.trans hb1
  have HK1 : Hid (∀ b t l, p ≠ some ⟨b, 0, none⟩ → q ≠ some ⟨b, 0, none⟩ → Row w b t l → Row w1 b t l) := fun b t l hp hq h => hk1 b t l hp hq (HK.out b t l h)
  clear hb1 hk1 HM HK hB0
  go_wp2
  go_ret
  exact ⟨rfl, oi, orr, hB, HK1.out⟩
set_option maxRecDepth 100000 in
set_option maxHeartbeats 2000000 in
theorem heldInst_any (K : Nat) (p : Option Addr) (n c : Nat) (q : Option Addr) (m d : Nat) (now : Int) (w : World) (hK : K ≤ 1000) (h8 : n ≤ 10000000) (h9 : m ≤ 100000000) (hi : IfsIn w p (marksI K n)) (hr : RtsIn w q (marksR (K + 5 * n) m)) :
    Calls Tryz.prog 66 #[.agg #[.slice p n c, .slice q m d, .int .i64 now], .int .i64 K] w fun e w' => e = .returned (.int .i64 ((K : Int) + 5 * (n : Int) + 9 * (m : Int))) ∧ Below w.heap.size w w' := by
  have HM : Hid (Calls Tryz.prog 113 #[.slice p n c, .int .i64 K] (w.alloc (.cells #[.slice p n c, .slice q m d, .int .i64 now] 38)) fun e w' => e = .returned (.int .i64 ((K : Int) + 5 * (n : Int))) ∧ (w.alloc (.cells #[.slice p n c, .slice q m d, .int .i64 now] 38)) = w') := heldIfaceS_in K p n c _ (by omega) (by omega) (hi.alloc _)
  have HR : Hid (Calls Tryz.prog 114 #[.agg #[.slice q m d], .int .i64 ((K : Int) + 5 * (n : Int))] (w.alloc (.cells #[.slice p n c, .slice q m d, .int .i64 now] 38)) fun e w' => e = .returned (.int .i64 ((K : Int) + 5 * (n : Int) + 9 * (m : Int))) ∧ Below (w.alloc (.cells #[.slice p n c, .slice q m d, .int .i64 now] 38)).heap.size (w.alloc (.cells #[.slice p n c, .slice q m d, .int .i64 now] 38)) w') := by
    have := heldRib_any (K + 5 * n) q m d (w.alloc (.cells #[.slice p n c, .slice q m d, .int .i64 now] 38)) (by omega) h9 (hr.alloc _)
    unfold Hid
    simpa using this
  have r0 := Row.new w 38 [.slice p n c, .slice q m d, .int .i64 now]
  have y1 : (w.alloc (.cells #[.slice p n c, .slice q m d, .int .i64 now] 38)).cell? ⟨w.heap.size, 1, none⟩ = some (.slice q m d) := r0.cell 1
  have hB0 := ent_new0 w (.cells #[.slice p n c, .slice q m d, .int .i64 now] 38)
  have d1 : decide ((K : Int) + 5 * (n : Int) < 0) = false := by simp; omega
  have d2 : decide (((K : Int) + 5 * (n : Int) + 9 * (m : Int)) < 0) = false := by simp; omega
  clear hi hr hK h8 h9 r0
  go_enter Tryz.func66, Tryz.ntmps66
  go_wp2_with fail
  refine (HM.out).mono ?_
  rintro e w1 ⟨rfl, rfl⟩
  go_wp2_with fail
  refine (HR.out).mono ?_
  rintro e w2 ⟨rfl, hb2⟩
  have hB := hB0.trans (hb2.mono (by simp))
  clear hb2
  go_wp2
  go_ret
  exact ⟨rfl, hB⟩
set_option maxRecDepth 100000 in
set_option maxHeartbeats 2000000 in
theorem heldInstOut_any (K : Nat) (cc : Int) (p : Option Addr) (n c : Nat) (q : Option Addr) (m d : Nat) (now : Int) (w : World) (hK : K ≤ 1000) (h8 : n ≤ 10000000) (h9 : m ≤ 100000000) (hi : IfsIn w p (marksI K n)) (hr : RtsIn w q (marksR (K + 5 * n) m)) :
    Calls Tryz.prog 21 #[.agg #[.slice p n c, .slice q m d, .int .i64 now, .int .i64 cc], .int .i64 K] w fun e w' => e = .returned (.int .i64 ((K : Int) + 5 * (n : Int) + 9 * (m : Int))) ∧ Below w.heap.size w w' := by
  have HM : Hid (Calls Tryz.prog 66 #[.agg #[.slice p n c, .slice q m d, .int .i64 now], .int .i64 K] (w.alloc (.cells #[.slice p n c, .slice q m d, .int .i64 now, .int .i64 cc] 40)) fun e w' => e = .returned (.int .i64 ((K : Int) + 5 * (n : Int) + 9 * (m : Int))) ∧ Below (w.alloc (.cells #[.slice p n c, .slice q m d, .int .i64 now, .int .i64 cc] 40)).heap.size (w.alloc (.cells #[.slice p n c, .slice q m d, .int .i64 now, .int .i64 cc] 40)) w') := heldInst_any K p n c q m d now _ hK h8 h9 (hi.alloc _) (hr.alloc _)
  have hB0 := ent_new0 w (.cells #[.slice p n c, .slice q m d, .int .i64 now, .int .i64 cc] 40)
  have d2 : decide (((K : Int) + 5 * (n : Int) + 9 * (m : Int)) < 0) = false := by simp; omega
  clear hi hr hK h8 h9
  go_enter Tryz.func21, Tryz.ntmps21
  go_wp2_with fail
  refine (HM.out).mono ?_
  rintro e w2 ⟨rfl, hb2⟩
  have hB := hB0.trans (hb2.mono (by simp))
  clear hb2
  go_wp2
  go_ret
  exact ⟨rfl, hB⟩
set_option maxRecDepth 100000 in
set_option maxHeartbeats 2000000 in
theorem eqInstOut_any (cc : Int) (p p' : Option Addr) (n c c' : Nat) (q q' : Option Addr) (m d d' : Nat) (now : Int) (is : List If) (rs : List Rt) (w : World) (hn : n = is.length) (hm : m = rs.length) (h8 : n ≤ 100000000) (h9 : m ≤ 100000000) (h1 : IfsIn w p is) (h2 : IfsIn w p' is) (h3 : RtsIn w q rs) (h4 : RtsIn w q' rs) :
    Calls Tryz.prog 15 #[.agg #[.slice p n c, .slice q m d, .int .i64 now, .int .i64 cc], .agg #[.slice p' n c', .slice q' m d', .int .i64 now, .int .i64 cc]] w fun e w' => e = .returned (.bool true) ∧ Below w.heap.size w w' := by
  subst hn hm
  have HE : Hid (∀ w, IfsIn w p is → IfsIn w p' is → RtsIn w q rs → RtsIn w q' rs → Calls Tryz.prog 16 #[.agg #[.slice p is.length c, .slice q rs.length d, .int .i64 now], .agg #[.slice p' is.length c', .slice q' rs.length d', .int .i64 now]] w fun e w' => e = .returned (.bool true) ∧ Below w.heap.size w w') := fun w a b e f => eqInst_any p p' c c' q q' d d' is rs now w a b e f h8 h9
  have HX : Hid _ := And.intro h1 (And.intro h2 (And.intro h3 h4))
  have q0 := (Row.new w 40 [.slice p is.length c, .slice q rs.length d, .int .i64 now, .int .i64 cc]).alloc (.cells #[.slice p' is.length c', .slice q' rs.length d', .int .i64 now, .int .i64 cc] 40)
  have q1 := Row.new (w.alloc (.cells #[.slice p is.length c, .slice q rs.length d, .int .i64 now, .int .i64 cc] 40)) 40 [.slice p' is.length c', .slice q' rs.length d', .int .i64 now, .int .i64 cc]
  clear h1 h2 h3 h4 h8 h9
  go_enter Tryz.func15, Tryz.ntmps15
  go_wp2_with fail
  refine (HE.out _ ((HX.out.1.alloc _).alloc _) ((HX.out.2.1.alloc _).alloc _) ((HX.out.2.2.1.alloc _).alloc _) ((HX.out.2.2.2.alloc _).alloc _)).mono ?_
  rintro e w1 ⟨rfl, hb1⟩
  have p0 := q0.below hb1 q0.lt
  have p1 := q1.below hb1 q1.lt
  rw [show (w.alloc (.cells #[.slice p is.length c, .slice q rs.length d, .int .i64 now, .int .i64 cc] 40)).heap.size = w.heap.size + 1 by simp] at p1
  have hB : Below w.heap.size w w1 := ((ent_new0 w _).alloc (by simp) _).trans (hb1.mono (by simp; omega))
  have c1 : w1.cell? ⟨w.heap.size, 3, none⟩ = some (.int .i64 cc) := p0.cell 3
  have d1 : w1.cell? ⟨w.heap.size + 1, 3, none⟩ = some (.int .i64 cc) := p1.cell 3
  clear hb1 HE HX q0 q1 p0 p1
  go_wp2
  go_ret
  exact ⟨rfl, hB⟩
end Go.Proofs.YtifckpncpjijiaaGreat
/- An Inst handed over: its lists are new. (Written by gen_iout.py.) -/
namespace Go.Proofs.YtifckpncpjijiaaGreat
open Go.RowKit Go.Sort

set_option maxRecDepth 100000 in
set_option maxHeartbeats 4000000 in
theorem toInst_new (x : Option Addr) (c1 : Nat) (y : Option Addr) (c2 : Nat) (is : List If) (rs : List Rt) (now : Int) (w : World) (h1 : ArgI w x is.length is) (h2 : ArgR w y rs.length rs) (hn1 : is.length ≤ 1048576) (hn2 : rs.length ≤ 1048576) :
    Calls Tryz.prog 12 #[instV x is.length c1 y rs.length c2 now] w fun e w' => ∃ g h, e = .returned (instV (some ⟨g, 0, none⟩) is.length is.length (some ⟨h, 0, none⟩) rs.length rs.length now) ∧ w.heap.size ≤ g ∧ w.heap.size ≤ h ∧ Row w' g 89 (rowI is) ∧ Row w' h 98 (rowR rs) ∧ Below w.heap.size w w' := by
  have HI : Hid (∀ w, ArgI w x is.length is → Calls Tryz.prog 49 #[.slice x is.length c1] w fun e w' => ∃ g, e = .returned (.slice (some ⟨g, 0, none⟩) is.length is.length) ∧ w.heap.size ≤ g ∧ Row w' g 89 (rowI is) ∧ Below w.heap.size w w') := fun w h => toIfaceS_any x c1 is w h hn1
  have HR : Hid (∀ w, ArgR w y rs.length rs → Calls Tryz.prog 50 #[.agg #[.slice y rs.length c2]] w fun e w' => ∃ g, e = .returned (.agg #[.slice (some ⟨g, 0, none⟩) rs.length rs.length]) ∧ w.heap.size ≤ g ∧ Row w' g 98 (rowR rs) ∧ Below w.heap.size w w') := fun w h => toRib_any y c2 rs w h hn2
  have HX : Hid (ArgI w x is.length is ∧ ArgR w y rs.length rs) := ⟨h1, h2⟩
  clear h1 h2 hn1 hn2
  unfold instV
  generalize is.length = n1 at *
  generalize rs.length = n2 at *
  obtain ⟨W, hW, q0, q1, q2, hB, hS⟩ := three_new w [.slice x n1 c1, .slice y n2 c2, .int .i64 now] [.slice none 0 0, .slice none 0 0, .int .i64 0] [.slice none 0 0, .slice none 0 0, .int .i64 0] 27 38 38
  have HW : Hid _ := hW
  have HQ : Hid _ := And.intro q0 (And.intro q1 (And.intro q2 hB))
  clear hW q0 q1 q2 hB
  go_enter Tryz.func12, Tryz.ntmps12
  go_wp2_with fail
  rw [← HW.out]
  obtain ⟨q0, q1, q2, hB⟩ := HQ.out
  refine (HI.out _ (HX.out.1.below hB)).mono ?_
  rintro e w1 ⟨g, rfl, hg, rg, hb1⟩
  have q0 := q0.below hb1 q0.lt
  have q1 := q1.below hb1 q1.lt
  have q2 := q2.below hb1 q2.lt
  have hB := hB.trans (hb1.mono (by omega))
  have hs1 := hb1.size
  clear hb1 HI HW HQ
  have x1 : w1.cell? ⟨w.heap.size, 1, none⟩ = some (.slice y n2 c2) := q0.cell 1
  have f0 : w1.frozen? ⟨w.heap.size + 1 + 1, 0, none⟩ = false := q2.frozen 0
  have z0 : w1.cell? ⟨w.heap.size + 1 + 1, 0, none⟩ = some (.slice none 0 0) := q2.cell 0
  have HE : Hid _ := And.intro (q0.other 0 (.slice (some ⟨g, 0, none⟩) n1 n1) (show w.heap.size ≠ w.heap.size + 1 + 1 by omega)) (And.intro (q1.other 0 (.slice (some ⟨g, 0, none⟩) n1 n1) (show w.heap.size + 1 ≠ w.heap.size + 1 + 1 by omega)) (And.intro (q2.set 0 (.slice (some ⟨g, 0, none⟩) n1 n1)) (And.intro (rg.other 0 (.slice (some ⟨g, 0, none⟩) n1 n1) (show g ≠ w.heap.size + 1 + 1 by omega)) (hB.setCell (p := ⟨w.heap.size + 1 + 1, 0, none⟩) (by show w.heap.size ≤ w.heap.size + 1 + 1; omega) (.slice (some ⟨g, 0, none⟩) n1 n1)))))
  clear q0 q1 q2 rg hB
  go_wp2_with fail
  clear x1 f0 z0
  have hsz : (w1.setCell ⟨w.heap.size + 1 + 1, 0, none⟩ (.slice (some ⟨g, 0, none⟩) n1 n1)).heap.size = w1.heap.size := by simp
  generalize w1.setCell ⟨w.heap.size + 1 + 1, 0, none⟩ (.slice (some ⟨g, 0, none⟩) n1 n1) = W1 at *
  obtain ⟨q0, q1, q2, rg, hB⟩ := HE.out
  clear HE
  refine (HR.out _ (HX.out.2.below hB)).mono ?_
  rintro e w2 ⟨h, rfl, hh, rh, hb2⟩
  have q0 := q0.below hb2 q0.lt
  have q1 := q1.below hb2 q1.lt
  have q2 := q2.below hb2 q2.lt
  have rg := rg.below hb2 rg.lt
  have hB := hB.trans (hb2.mono hB.size)
  clear hb2 HR
  have x2 : w2.cell? ⟨w.heap.size, 2, none⟩ = some (.int .i64 now) := q0.cell 2
  have a0 : w2.cell? ⟨w.heap.size + 1 + 1, 0, none⟩ = some (.slice (some ⟨g, 0, none⟩) n1 n1) := q2.cell 0
  have f0 : w2.frozen? ⟨w.heap.size + 1 + 1, 0, none⟩ = false := q2.frozen 0
  have a1 : w2.cell? ⟨w.heap.size + 1 + 1, 1, none⟩ = some (.slice none 0 0) := q2.cell 1
  have f1 : w2.frozen? ⟨w.heap.size + 1 + 1, 1, none⟩ = false := q2.frozen 1
  have a2 : w2.cell? ⟨w.heap.size + 1 + 1, 2, none⟩ = some (.int .i64 0) := q2.cell 2
  have f2 : w2.frozen? ⟨w.heap.size + 1 + 1, 2, none⟩ = false := q2.frozen 2
  have b0 : w2.cell? ⟨w.heap.size + 1, 0, none⟩ = some (.slice none 0 0) := q1.cell 0
  have e0 : w2.frozen? ⟨w.heap.size + 1, 0, none⟩ = false := q1.frozen 0
  have b1 : w2.cell? ⟨w.heap.size + 1, 1, none⟩ = some (.slice none 0 0) := q1.cell 1
  have e1 : w2.frozen? ⟨w.heap.size + 1, 1, none⟩ = false := q1.frozen 1
  have b2 : w2.cell? ⟨w.heap.size + 1, 2, none⟩ = some (.int .i64 0) := q1.cell 2
  have e2 : w2.frozen? ⟨w.heap.size + 1, 2, none⟩ = false := q1.frozen 2
  have hGG : w.heap.size ≤ g := by omega
  have hHH : w.heap.size ≤ h := by omega
  have ng2 : g ≠ w.heap.size + 1 + 1 := by omega
  have ng1 : g ≠ w.heap.size + 1 := by omega
  have nh2 : h ≠ w.heap.size + 1 + 1 := by omega
  have nh1 : h ≠ w.heap.size + 1 := by omega
  have n12 : w.heap.size + 1 ≠ w.heap.size + 1 + 1 := by omega
  have HF : Hid (Row (((((w2.setCell ⟨w.heap.size + 1 + 1, 1, none⟩ (.slice (some ⟨h, 0, none⟩) n2 n2)).setCell ⟨w.heap.size + 1 + 1, 2, none⟩ (.int .i64 now)).setCell ⟨w.heap.size + 1, 0, none⟩ (.slice (some ⟨g, 0, none⟩) n1 n1)).setCell ⟨w.heap.size + 1, 1, none⟩ (.slice (some ⟨h, 0, none⟩) n2 n2)).setCell ⟨w.heap.size + 1, 2, none⟩ (.int .i64 now)) (w.heap.size + 1) 38 [.slice (some ⟨g, 0, none⟩) n1 n1, .slice (some ⟨h, 0, none⟩) n2 n2, .int .i64 now] ∧ Row (((((w2.setCell ⟨w.heap.size + 1 + 1, 1, none⟩ (.slice (some ⟨h, 0, none⟩) n2 n2)).setCell ⟨w.heap.size + 1 + 1, 2, none⟩ (.int .i64 now)).setCell ⟨w.heap.size + 1, 0, none⟩ (.slice (some ⟨g, 0, none⟩) n1 n1)).setCell ⟨w.heap.size + 1, 1, none⟩ (.slice (some ⟨h, 0, none⟩) n2 n2)).setCell ⟨w.heap.size + 1, 2, none⟩ (.int .i64 now)) g 89 (rowI is) ∧ Row (((((w2.setCell ⟨w.heap.size + 1 + 1, 1, none⟩ (.slice (some ⟨h, 0, none⟩) n2 n2)).setCell ⟨w.heap.size + 1 + 1, 2, none⟩ (.int .i64 now)).setCell ⟨w.heap.size + 1, 0, none⟩ (.slice (some ⟨g, 0, none⟩) n1 n1)).setCell ⟨w.heap.size + 1, 1, none⟩ (.slice (some ⟨h, 0, none⟩) n2 n2)).setCell ⟨w.heap.size + 1, 2, none⟩ (.int .i64 now)) h 98 (rowR rs) ∧ Below w.heap.size w (((((w2.setCell ⟨w.heap.size + 1 + 1, 1, none⟩ (.slice (some ⟨h, 0, none⟩) n2 n2)).setCell ⟨w.heap.size + 1 + 1, 2, none⟩ (.int .i64 now)).setCell ⟨w.heap.size + 1, 0, none⟩ (.slice (some ⟨g, 0, none⟩) n1 n1)).setCell ⟨w.heap.size + 1, 1, none⟩ (.slice (some ⟨h, 0, none⟩) n2 n2)).setCell ⟨w.heap.size + 1, 2, none⟩ (.int .i64 now))) := ⟨((((((q1.other 1 (.slice (some ⟨h, 0, none⟩) n2 n2) n12).other 2 (.int .i64 now) n12).set 0 (.slice (some ⟨g, 0, none⟩) n1 n1)).set 1 (.slice (some ⟨h, 0, none⟩) n2 n2)).set 2 (.int .i64 now))), ((((((rg).other 1 (.slice (some ⟨h, 0, none⟩) n2 n2) ng2).other 2 (.int .i64 now) ng2).other 0 (.slice (some ⟨g, 0, none⟩) n1 n1) ng1).other 1 (.slice (some ⟨h, 0, none⟩) n2 n2) ng1).other 2 (.int .i64 now) ng1), ((((((rh).other 1 (.slice (some ⟨h, 0, none⟩) n2 n2) nh2).other 2 (.int .i64 now) nh2).other 0 (.slice (some ⟨g, 0, none⟩) n1 n1) nh1).other 1 (.slice (some ⟨h, 0, none⟩) n2 n2) nh1).other 2 (.int .i64 now) nh1), (((((hB.setCell (p := ⟨w.heap.size + 1 + 1, 1, none⟩) (by show w.heap.size ≤ w.heap.size + 1 + 1; omega) (.slice (some ⟨h, 0, none⟩) n2 n2)).setCell (p := ⟨w.heap.size + 1 + 1, 2, none⟩) (by show w.heap.size ≤ w.heap.size + 1 + 1; omega) (.int .i64 now)).setCell (p := ⟨w.heap.size + 1, 0, none⟩) (by show w.heap.size ≤ w.heap.size + 1; omega) (.slice (some ⟨g, 0, none⟩) n1 n1)).setCell (p := ⟨w.heap.size + 1, 1, none⟩) (by show w.heap.size ≤ w.heap.size + 1; omega) (.slice (some ⟨h, 0, none⟩) n2 n2)).setCell (p := ⟨w.heap.size + 1, 2, none⟩) (by show w.heap.size ≤ w.heap.size + 1; omega) (.int .i64 now))⟩
  clear q0 q1 q2 rg rh hB
  go_wp2_with fail
  have hF := HF.out
  clear HF x2 a0 f0 b0 e0 a1 f1 b1 e1 a2 f2 b2 e2
  generalize (((((w2.setCell ⟨w.heap.size + 1 + 1, 1, none⟩ (.slice (some ⟨h, 0, none⟩) n2 n2)).setCell ⟨w.heap.size + 1 + 1, 2, none⟩ (.int .i64 now)).setCell ⟨w.heap.size + 1, 0, none⟩ (.slice (some ⟨g, 0, none⟩) n1 n1)).setCell ⟨w.heap.size + 1, 1, none⟩ (.slice (some ⟨h, 0, none⟩) n2 n2)).setCell ⟨w.heap.size + 1, 2, none⟩ (.int .i64 now)) = Z at *
  obtain ⟨k1, k2, k3, k4⟩ := hF
  have e0 : Z.cell? ⟨w.heap.size + 1, 0, none⟩ = some (.slice (some ⟨g, 0, none⟩) n1 n1) := k1.cell 0
  have e1 : Z.cell? ⟨w.heap.size + 1, 1, none⟩ = some (.slice (some ⟨h, 0, none⟩) n2 n2) := k1.cell 1
  have e2 : Z.cell? ⟨w.heap.size + 1, 2, none⟩ = some (.int .i64 now) := k1.cell 2
  exact bodyPost_ret (v := .agg #[.slice (some ⟨g, 0, none⟩) n1 n1, .slice (some ⟨h, 0, none⟩) n2 n2, .int .i64 now]) (by simp [results, Tryz.results12, go_sem, e0, e1, e2]) rfl ⟨g, h, rfl, hGG, hHH, k2, k3, k4⟩
end Go.Proofs.YtifckpncpjijiaaGreat
/- An Inst handed over is kept. (Written by gen_near2.py.) -/
namespace Go.Proofs.YtifckpncpjijiaaGreat
open Go.RowKit Go.Sort

theorem stab_inst (n1 n2 : Nat) (now : Int) (is : List If) (rs : List Rt) : ∀ (v : Value) (w1 w2 : World), (∃ g h, v = .agg #[.slice (some ⟨g, 0, none⟩) n1 n1, .slice (some ⟨h, 0, none⟩) n2 n2, .int .i64 now] ∧ Row w1 g 89 (rowI is) ∧ Row w1 h 98 (rowR rs)) → Below w1.heap.size w1 w2 → ∃ g h, v = .agg #[.slice (some ⟨g, 0, none⟩) n1 n1, .slice (some ⟨h, 0, none⟩) n2 n2, .int .i64 now] ∧ Row w2 g 89 (rowI is) ∧ Row w2 h 98 (rowR rs) := by
  rintro v w1 w2 ⟨g, h, e, a, b⟩ hb
  exact ⟨g, h, e, a.below hb a.lt, b.below hb b.lt⟩
end Go.Proofs.YtifckpncpjijiaaGreat
