/- The walk of the law on MeshJoin. (Written by gen_lawout.py.) -/
import Derived.Test.YtcnadobnihbldaaGreatPack42
import Derived.Test.YtcnadobnihbldaaGreatPack41
import Derived.Test.YtcnadobnihbldaaGreatPack45
namespace Go.Proofs.YtcnadobnihbldaaGreat
open Go.RowKit Go.Sort

set_option maxRecDepth 100000 in
set_option maxHeartbeats 8000000 in
theorem fnExactMeshJoin_walk (p : Option Addr) (c1 : Nat) (q : Option Addr) (c2 : Nat) (ps : List IvP) (ls : List Li) (n : Int) (w : World) (hA : ArgM w p ps q ls) (_hn : (Lit.int .i64 n).wf = true) :
    Calls Tryz.prog 6 #[meshV p c1 q c2 ps ls, .int .i64 n] w fun r w' => r = .returned (.bool true) ∧ Below w.heap.size w w' := by
  obtain ⟨⟨RC, RL, RS⟩, HR⟩ : ∃ r : Int × (List Iv × List Li), r = turnMO (ps.map (·.2)) ls n true := ⟨_, rfl⟩
  have HSm : Hid (SmA ps ls → SmM RL RS) := fun hs => smM_turn HR
  obtain ⟨KK, HKKe⟩ : ∃ K : Int, K = ((kAt 1 RL RL.length : Nat) : Int) + 4 * (RS.length : Int) := ⟨_, rfl⟩
  have HKK : Hid (0 ≤ KK) := by show 0 ≤ KK; rw [HKKe]; omega
  have HZ : Hid (∀ w1, Below w.heap.size w w1 → Calls Tryz.prog 15 #[.agg #[.slice p ps.length c1, .slice q ls.length c2], .int .i64 1048576] w1 fun e w' => (∃ v : Int, e = .returned (.int .i64 v) ∧ (v < 0 ∨ 0 ≤ v ∧ SmA ps ls)) ∧ Below w1.heap.size w1 w') := fun w1 hb => (szMeshU_any p c1 q c2 ps ls 1048576 w1 (hA.below hb) (by omega) (by omega)).mono (by
    rintro e w' ⟨⟨v, rfl, -, hv⟩, hb⟩
    exact ⟨⟨v, rfl, hv.imp id fun h => ⟨h.1, smA_of (Int.le_refl _) h.1 h.2⟩⟩, hb⟩)
  have HT0 : Hid (SmA ps ls → ∀ w, ArgM w p ps q ls → Calls Tryz.prog 17 #[.agg #[.slice p ps.length c1, .slice q ls.length c2]] w fun e w' => (∃ gg hg, e = .returned (.agg #[.slice (some ⟨gg, 0, none⟩) ps.length ps.length, .slice (some ⟨hg, 0, none⟩) ls.length ls.length]) ∧ HandM ps ls w.heap.size w'.heap.size w' gg hg) ∧ Below w.heap.size w w') := fun hs w h => toMeshH_any p c1 q c2 ps ls w h hs
  have HS0 : Hid (SmA ps ls → ∀ lo hi W (gg : Nat) (hg : Nat), HandM ps ls lo hi W gg hg → Calls Tryz.prog 23 #[.agg #[.slice (some ⟨gg, 0, none⟩) ps.length ps.length, .slice (some ⟨hg, 0, none⟩) ls.length ls.length], .int .i64 n] W fun e w' => (∃ p_ c_ q_ d_, e = .returned (.agg #[.slice p_ RL.length c_, .slice q_ RS.length d_, .int .i64 RC]) ∧ AnsM RL RS W.heap.size w'.heap.size w' p_ c_ q_ d_) ∧ Below W.heap.size W w') := fun hs lo hi W g h a => by
    obtain ⟨qs, k1, k2, k3, k4, k5, k6, k7⟩ := a
    have hl := len_sndI k1
    have n1 := hs.1
    have n2 := hs.2.1
    have hS : ∀ e ∈ qs, IvS e.2 := same_sndI (P := IvS) k1 hs.2.2.1
    have := specJoin_any (some ⟨g, 0, none⟩) ps.length qs (some ⟨h, 0, none⟩) ls.length ls n W (ivsIn_row k4 fun e he => (k6 e he).1.inIv) (lisAt_row k5).lisIn (fun e => by cases e) (by omega) (by omega) (fun e he => (k6 e he).1.m (hS e he))
    rw [k1, hl, ← HR] at this
    exact this.mono fun e w' x => ⟨ansM_of x.1, x.2⟩
  have HI0 : Hid (SmA ps ls → ∀ lo hi W (gg : Nat) (hg : Nat), HandM ps ls lo hi W gg hg → Calls Tryz.prog 24 #[.agg #[.slice (some ⟨gg, 0, none⟩) ps.length ps.length, .slice (some ⟨hg, 0, none⟩) ls.length ls.length], .int .i64 n] W fun e w' => (∃ p_ c_ q_ d_, e = .returned (.agg #[.slice p_ RL.length c_, .slice q_ RS.length d_, .int .i64 RC]) ∧ AnsM RL RS W.heap.size w'.heap.size w' p_ c_ q_ d_) ∧ Below W.heap.size W w') := fun hs lo hi W g h a => by
    obtain ⟨qs, k1, k2, k3, k4, k5, k6, k7⟩ := a
    have hl := len_sndI k1
    have n1 := hs.1
    have n2 := hs.2.1
    have hS : ∀ e ∈ qs, IvS e.2 := same_sndI (P := IvS) k1 hs.2.2.1
    have := implJoin_any (some ⟨g, 0, none⟩) ps.length qs (some ⟨h, 0, none⟩) ls.length ls n W (ivsIn_row k4 fun e he => (k6 e he).1.inIv) (lisAt_row k5) (fun e => by cases e) (by omega) (by omega) (fun e he => ⟨((k6 e he).1.m (hS e he)).1, ((k6 e he).1.m (hS e he)).2.1, ((k6 e he).1.m (hS e he)).2.2.1⟩)
    rw [k1, hl, ← HR] at this
    exact this.mono fun e w' x => ⟨ansM_of x.1, x.2⟩
  have HE0 : Hid (SmA ps ls → ∀ lo hi lo' hi' W (gg : Nat) (hg : Nat) (gk : Nat) (hk : Nat), HandM ps ls lo hi W gg hg → HandM ps ls lo' hi' W gk hk → Calls Tryz.prog 19 #[.agg #[.slice (some ⟨gg, 0, none⟩) ps.length ps.length, .slice (some ⟨hg, 0, none⟩) ls.length ls.length], .agg #[.slice (some ⟨gk, 0, none⟩) ps.length ps.length, .slice (some ⟨hk, 0, none⟩) ls.length ls.length]] W fun e w' => e = .returned (.bool true) ∧ Below W.heap.size W w') := fun hs lo hi lo' hi' W g h g' h' a b => eqMeshH_any hs a b
  have HQ0 : Hid (SmA ps ls → ∀ lo hi lo' hi' W (p0_ : Option Addr) (c0_ : Nat) (q0_ : Option Addr) (d0_ : Nat) (p1_ : Option Addr) (c1_ : Nat) (q1_ : Option Addr) (d1_ : Nat), AnsM RL RS lo hi W p0_ c0_ q0_ d0_ → AnsM RL RS lo' hi' W p1_ c1_ q1_ d1_ → Calls Tryz.prog 10 #[.agg #[.slice p0_ RL.length c0_, .slice q0_ RS.length d0_, .int .i64 RC], .agg #[.slice p1_ RL.length c1_, .slice q1_ RS.length d1_, .int .i64 RC]] W fun e w' => e = .returned (.bool true) ∧ Below W.heap.size W w') := fun hs lo hi lo' hi' W p c q d p' c' q' d' a b => eqMeshOutA_any (HSm.out hs) a b
  have HM0 : Hid (SmA ps ls → ∀ lo hi W (gg : Nat) (hg : Nat), HandM ps ls lo hi W gg hg → lo ≤ W.heap.size → Calls Tryz.prog 20 #[.agg #[.slice (some ⟨gg, 0, none⟩) ps.length ps.length, .slice (some ⟨hg, 0, none⟩) ls.length ls.length], .int .i64 1] W fun e w' => (∃ v : Int, e = .returned (.int .i64 v) ∧ 0 ≤ v) ∧ Chg lo hi W w') := fun hs lo hi W g h a b => markMeshH_any hs a b
  have HMO0 : Hid (SmA ps ls → ∀ lo hi W (p0_ : Option Addr) (c0_ : Nat) (q0_ : Option Addr) (d0_ : Nat), AnsM RL RS lo hi W p0_ c0_ q0_ d0_ → lo ≤ W.heap.size → Calls Tryz.prog 13 #[.agg #[.slice p0_ RL.length c0_, .slice q0_ RS.length d0_, .int .i64 RC], .int .i64 1] W fun e w' => e = .returned (.int .i64 KK) ∧ MrkM RL RS lo hi w' p0_ c0_ q0_ d0_ ∧ Chg lo hi W w') := fun hs lo hi W p c q d a b => by rw [HKKe]; exact markMeshOutA_any (HSm.out hs) a b
  have HH0 : Hid (SmA ps ls → ∀ lo hi W (p0_ : Option Addr) (c0_ : Nat) (q0_ : Option Addr) (d0_ : Nat), MrkM RL RS lo hi W p0_ c0_ q0_ d0_ → Calls Tryz.prog 14 #[.agg #[.slice p0_ RL.length c0_, .slice q0_ RS.length d0_, .int .i64 RC], .int .i64 1] W fun e w' => e = .returned (.int .i64 KK) ∧ Below W.heap.size W w') := fun hs lo hi W p c q d a => by rw [HKKe]; exact heldMeshOutA_any (HSm.out hs) a
  have HX : Hid (ArgM w p ps q ls) := hA
  have r0 := Row.new w 39 [.slice p ps.length c1, .slice q ls.length c2]
  have hB := ent_new0 w (.cells #[.slice p ps.length c1, .slice q ls.length c2] 39)
  have HQ_ : Hid _ := And.intro r0 hB
  clear r0 hB hA HKKe HR HSm
  unfold meshV
  go_enter Tryz.func6, Tryz.ntmps6
  go_wp2_with fail
  obtain ⟨r0, hB⟩ := HQ_.out
  clear HQ_
  refine (HZ.out _ hB).mono ?_
  rintro e_ w1 ⟨⟨v, rfl, hv⟩, hb1⟩
  replace r0 := r0.below hb1 r0.lt
  replace hB := hB.trans (hb1.mono hB.size)
  clear hb1 HZ
  rcases hv with hv | ⟨hv, hsm⟩
  · have d : decide (v < 0) = true := by simpa using hv
    clear hv
    go_wp2
    go_ret
    exact ⟨rfl, hB⟩
  have d : decide (v < 0) = false := by simp; omega
  have HT : Hid _ := HT0.out hsm
  have HS : Hid _ := HS0.out hsm
  have HI : Hid _ := HI0.out hsm
  have HE : Hid _ := HE0.out hsm
  have HQ : Hid _ := HQ0.out hsm
  have HM : Hid _ := HM0.out hsm
  have HMO : Hid _ := HMO0.out hsm
  have HH : Hid _ := HH0.out hsm
  clear HT0 HS0 HI0 HE0 HQ0 HM0 HMO0 HH0 hv hsm
  have y0 : w1.cell? ⟨w.heap.size, 0, none⟩ = some (.slice p ps.length c1) := r0.cell 0
  have y1 : w1.cell? ⟨w.heap.size, 1, none⟩ = some (.slice q ls.length c2) := r0.cell 1
  go_wp2_with fail
  refine (HT.out _ (HX.out.below hB)).mono ?_
  rintro e_ w2 ⟨⟨ga, ha, rfl, Xa⟩, hbt⟩
  have hst := hbt.size
  replace r0 := r0.below hbt r0.lt
  replace hB := hB.trans (hbt.mono hB.size)
  clear hbt
  clear y0 y1
  clear hst
  go_wp2_with fail
  refine (HS.out _ _ _ ga ha Xa).mono ?_
  rintro e_ w3 ⟨⟨p0_, c0_, q0_, d0_, rfl, A0⟩, hbs⟩
  have hn0 : w.heap.size ≤ w2.heap.size := hB.size
  have hn1 := hbs.size
  replace r0 := r0.below hbs r0.lt
  replace hB := hB.trans (hbs.mono hB.size)
  clear hbs
  clear Xa HS
  generalize w2.heap.size = n0 at *
  replace r0 := r0.alloc (.cells #[.slice p0_ RL.length c0_, .slice q0_ RS.length d0_, .int .i64 RC] 28)
  replace A0 := A0.below (ent_new0 w3 (.cells #[.slice p0_ RL.length c0_, .slice q0_ RS.length d0_, .int .i64 RC] 28))
  have r6 := Row.new w3 28 [.slice p0_ RL.length c0_, .slice q0_ RS.length d0_, .int .i64 RC]
  replace hB := hB.alloc (by have := hB.size; omega) (.cells #[.slice p0_ RL.length c0_, .slice q0_ RS.length d0_, .int .i64 RC] 28)
  have hZ : w3.heap.size < (w3.alloc (.cells #[.slice p0_ RL.length c0_, .slice q0_ RS.length d0_, .int .i64 RC] 28)).heap.size := by simp
  have y0 : (w3.alloc (.cells #[.slice p0_ RL.length c0_, .slice q0_ RS.length d0_, .int .i64 RC] 28)).cell? ⟨w.heap.size, 0, none⟩ = some (.slice p ps.length c1) := r0.cell 0
  have y1 : (w3.alloc (.cells #[.slice p0_ RL.length c0_, .slice q0_ RS.length d0_, .int .i64 RC] 28)).cell? ⟨w.heap.size, 1, none⟩ = some (.slice q ls.length c2) := r0.cell 1
  have HA : Hid _ := And.intro r0 (And.intro A0 (And.intro r6 (And.intro hB (hZ))))
  clear r0 A0 r6 hB hZ
  go_wp2_with fail
  generalize w3.heap.size = b6 at *
  generalize w3.alloc (.cells #[.slice p0_ RL.length c0_, .slice q0_ RS.length d0_, .int .i64 RC] 28) = Z6 at *
  obtain ⟨r0, A0, r6, hB, hZ⟩ := HA.out
  clear HA y0 y1
  have hZb6 := hZ
  clear hZ
  refine (HT.out _ (HX.out.below hB)).mono ?_
  rintro e_ w5 ⟨⟨g5, h5, rfl, X5⟩, hbt⟩
  have hst := hbt.size
  replace r0 := r0.below hbt r0.lt
  replace r6 := r6.below hbt r6.lt
  replace A0 := A0.below hbt
  replace hB := hB.trans (hbt.mono hB.size)
  clear hbt
  generalize Z6.heap.size = n5 at *
  replace r0 := r0.alloc (.cells #[.slice (some ⟨g5, 0, none⟩) ps.length ps.length, .slice (some ⟨h5, 0, none⟩) ls.length ls.length] 26)
  replace r6 := r6.alloc (.cells #[.slice (some ⟨g5, 0, none⟩) ps.length ps.length, .slice (some ⟨h5, 0, none⟩) ls.length ls.length] 26)
  replace A0 := A0.below (ent_new0 w5 (.cells #[.slice (some ⟨g5, 0, none⟩) ps.length ps.length, .slice (some ⟨h5, 0, none⟩) ls.length ls.length] 26))
  replace X5 := X5.below (ent_new0 w5 (.cells #[.slice (some ⟨g5, 0, none⟩) ps.length ps.length, .slice (some ⟨h5, 0, none⟩) ls.length ls.length] 26))
  have r7 := Row.new w5 26 [.slice (some ⟨g5, 0, none⟩) ps.length ps.length, .slice (some ⟨h5, 0, none⟩) ls.length ls.length]
  replace hB := hB.alloc (by have := hB.size; omega) (.cells #[.slice (some ⟨g5, 0, none⟩) ps.length ps.length, .slice (some ⟨h5, 0, none⟩) ls.length ls.length] 26)
  have hZ : w5.heap.size < (w5.alloc (.cells #[.slice (some ⟨g5, 0, none⟩) ps.length ps.length, .slice (some ⟨h5, 0, none⟩) ls.length ls.length] 26)).heap.size := by simp
  have y0 : (w5.alloc (.cells #[.slice (some ⟨g5, 0, none⟩) ps.length ps.length, .slice (some ⟨h5, 0, none⟩) ls.length ls.length] 26)).cell? ⟨w5.heap.size, 0, none⟩ = some (.slice (some ⟨g5, 0, none⟩) ps.length ps.length) := r7.cell 0
  have y1 : (w5.alloc (.cells #[.slice (some ⟨g5, 0, none⟩) ps.length ps.length, .slice (some ⟨h5, 0, none⟩) ls.length ls.length] 26)).cell? ⟨w5.heap.size, 1, none⟩ = some (.slice (some ⟨h5, 0, none⟩) ls.length ls.length) := r7.cell 1
  have HA : Hid _ := And.intro r0 (And.intro r6 (And.intro A0 (And.intro X5 (And.intro r7 (And.intro hB (hZ))))))
  clear r0 r6 A0 X5 r7 hB hZ
  go_wp2_with fail
  generalize w5.heap.size = b7 at *
  generalize w5.alloc (.cells #[.slice (some ⟨g5, 0, none⟩) ps.length ps.length, .slice (some ⟨h5, 0, none⟩) ls.length ls.length] 26) = Z7 at *
  obtain ⟨r0, r6, A0, X5, r7, hB, hZ⟩ := HA.out
  clear HA y0 y1
  have hZb7 := hZ
  clear hZ
  refine (HI.out _ _ _ g5 h5 X5).mono ?_
  rintro e_ w7 ⟨⟨p1_, c1_, q1_, d1_, rfl, A1⟩, hbs⟩
  have hn7 := hbs.size
  replace r0 := r0.below hbs r0.lt
  replace r6 := r6.below hbs r6.lt
  replace r7 := r7.below hbs r7.lt
  replace A0 := A0.below hbs
  replace X5 := X5.below hbs
  replace hB := hB.trans (hbs.mono hB.size)
  clear hbs
  generalize Z7.heap.size = n7 at *
  replace r0 := r0.alloc (.cells #[.slice p1_ RL.length c1_, .slice q1_ RS.length d1_, .int .i64 RC] 28)
  replace r6 := r6.alloc (.cells #[.slice p1_ RL.length c1_, .slice q1_ RS.length d1_, .int .i64 RC] 28)
  replace r7 := r7.alloc (.cells #[.slice p1_ RL.length c1_, .slice q1_ RS.length d1_, .int .i64 RC] 28)
  replace A0 := A0.below (ent_new0 w7 (.cells #[.slice p1_ RL.length c1_, .slice q1_ RS.length d1_, .int .i64 RC] 28))
  replace X5 := X5.below (ent_new0 w7 (.cells #[.slice p1_ RL.length c1_, .slice q1_ RS.length d1_, .int .i64 RC] 28))
  replace A1 := A1.below (ent_new0 w7 (.cells #[.slice p1_ RL.length c1_, .slice q1_ RS.length d1_, .int .i64 RC] 28))
  have r8 := Row.new w7 28 [.slice p1_ RL.length c1_, .slice q1_ RS.length d1_, .int .i64 RC]
  replace hB := hB.alloc (by have := hB.size; omega) (.cells #[.slice p1_ RL.length c1_, .slice q1_ RS.length d1_, .int .i64 RC] 28)
  have hZ : w7.heap.size < (w7.alloc (.cells #[.slice p1_ RL.length c1_, .slice q1_ RS.length d1_, .int .i64 RC] 28)).heap.size := by simp
  have s0 : (w7.alloc (.cells #[.slice p1_ RL.length c1_, .slice q1_ RS.length d1_, .int .i64 RC] 28)).cell? ⟨w7.heap.size, 0, none⟩ = some (.slice p1_ RL.length c1_) := r8.cell 0
  have s1 : (w7.alloc (.cells #[.slice p1_ RL.length c1_, .slice q1_ RS.length d1_, .int .i64 RC] 28)).cell? ⟨w7.heap.size, 1, none⟩ = some (.slice q1_ RS.length d1_) := r8.cell 1
  have s2 : (w7.alloc (.cells #[.slice p1_ RL.length c1_, .slice q1_ RS.length d1_, .int .i64 RC] 28)).cell? ⟨w7.heap.size, 2, none⟩ = some (.int .i64 RC) := r8.cell 2
  have t0 : (w7.alloc (.cells #[.slice p1_ RL.length c1_, .slice q1_ RS.length d1_, .int .i64 RC] 28)).cell? ⟨b6, 0, none⟩ = some (.slice p0_ RL.length c0_) := r6.cell 0
  have t1 : (w7.alloc (.cells #[.slice p1_ RL.length c1_, .slice q1_ RS.length d1_, .int .i64 RC] 28)).cell? ⟨b6, 1, none⟩ = some (.slice q0_ RS.length d0_) := r6.cell 1
  have t2 : (w7.alloc (.cells #[.slice p1_ RL.length c1_, .slice q1_ RS.length d1_, .int .i64 RC] 28)).cell? ⟨b6, 2, none⟩ = some (.int .i64 RC) := r6.cell 2
  have HA : Hid _ := And.intro r0 (And.intro r6 (And.intro r7 (And.intro A0 (And.intro X5 (And.intro A1 (And.intro r8 (And.intro hB (hZ))))))))
  clear r0 r6 r7 A0 X5 A1 r8 hB hZ
  go_wp2_with fail
  generalize w7.heap.size = b8 at *
  generalize w7.alloc (.cells #[.slice p1_ RL.length c1_, .slice q1_ RS.length d1_, .int .i64 RC] 28) = Z8 at *
  obtain ⟨r0, r6, r7, A0, X5, A1, r8, hB, hZ⟩ := HA.out
  clear HA s0 s1 s2 t0 t1 t2
  have hZb8 := hZ
  clear hZ
  refine (HQ.out _ _ _ _ _ p1_ c1_ q1_ d1_ p0_ c0_ q0_ d0_ A1 A0).mono ?_
  rintro e_ w9 ⟨rfl, hbe⟩
  replace r0 := r0.below hbe r0.lt
  replace r6 := r6.below hbe r6.lt
  replace r7 := r7.below hbe r7.lt
  replace r8 := r8.below hbe r8.lt
  replace A0 := A0.below hbe
  replace X5 := X5.below hbe
  replace A1 := A1.below hbe
  replace hB := hB.trans (hbe.mono hB.size)
  clear hbe
  have hZ9 : b8 < w9.heap.size := r8.lt
  go_wp2_with fail
  have hGN : (([(31, Is (.agg #[.slice (some ⟨g5, 0, none⟩) ps.length ps.length, .slice (some ⟨h5, 0, none⟩) ls.length ls.length])), (32, Is (.agg #[.slice p ps.length c1, .slice q ls.length c2])), (33, HandedMV ps ls), (34, Is (.bool true)), (35, Is (.bool false))] : List (Nat × (Value → World → Prop))).map (·.1)).Nodup := by simp
  refine wp_region_steady 5 (SlotG [(31, Is (.agg #[.slice (some ⟨g5, 0, none⟩) ps.length ps.length, .slice (some ⟨h5, 0, none⟩) ls.length ls.length])), (32, Is (.agg #[.slice p ps.length c1, .slice q ls.length c2])), (33, HandedMV ps ls), (34, Is (.bool true)), (35, Is (.bool false))]) (by kernel_rfl) (by kernel_rfl) (Stabs.all ⟨stab_is _, stab_is _, stab_MV ps ls, stab_is _, stab_is _, trivial⟩) ?_ ?_
  · intro o ho
    simp only [List.take_succ_cons, List.take_zero, List.mem_cons, List.not_mem_nil, or_false] at ho
    rcases ho with rfl | rfl | rfl | rfl | rfl
    · intro a' w' hb ha hdep
      have d7 : a'.tmps.getD 7 undef = .pointer (some ⟨b7, 0, none⟩) := ha.at 7 (by kernel_rfl)
      have hmk := fun (x : Value) (W : World) => SlotG.mk (x := x) (w := W) 0 rfl hGN
      clear hGN ha hdep
      have y0 : w'.cell? ⟨b7, 0, none⟩ = some (.slice (some ⟨g5, 0, none⟩) ps.length ps.length) := (r7.below hb r7.lt).cell 0
      have y1 : w'.cell? ⟨b7, 1, none⟩ = some (.slice (some ⟨h5, 0, none⟩) ls.length ls.length) := (r7.below hb r7.lt).cell 1
      go_simp
      exact ⟨_, rfl, Below.refl _ _, hmk _ _ rfl⟩
    · intro a' w' hb ha hdep
      have d2 : a'.tmps.getD 2 undef = .pointer (some ⟨w.heap.size, 0, none⟩) := ha.at 2 (by kernel_rfl)
      have hmk := fun (x : Value) (W : World) => SlotG.mk (x := x) (w := W) 1 rfl hGN
      clear hGN ha hdep
      have y0 : w'.cell? ⟨w.heap.size, 0, none⟩ = some (.slice p ps.length c1) := (r0.below hb r0.lt).cell 0
      have y1 : w'.cell? ⟨w.heap.size, 1, none⟩ = some (.slice q ls.length c2) := (r0.below hb r0.lt).cell 1
      go_simp
      exact ⟨_, rfl, Below.refl _ _, hmk _ _ rfl⟩
    · intro a' w' hb ha hdep
      have d32 : a'.tmps.getD 32 undef = .agg #[.slice p ps.length c1, .slice q ls.length c2] := (hdep 32 (of_decide_eq_true (by kernel_rfl))).is 1 rfl
      have hmk := fun (x : Value) (W : World) => SlotG.mk (x := x) (w := W) 2 rfl hGN
      clear hGN ha hdep
      go_simp
      refine (HT.out _ (HX.out.below (hB.trans (hb.mono hB.size)))).mono ?_
      rintro e w2 ⟨⟨gy, hy, rfl, Xy⟩, hb2⟩
      exact ⟨_, rfl, hb2, hmk _ _ ⟨gy, hy, _, _, rfl, Xy⟩⟩
    · intro a' w' hb ha hdep
      have d31 : a'.tmps.getD 31 undef = .agg #[.slice (some ⟨g5, 0, none⟩) ps.length ps.length, .slice (some ⟨h5, 0, none⟩) ls.length ls.length] := (hdep 31 (of_decide_eq_true (by kernel_rfl))).is 0 rfl
      have D33 := (hdep 33 (of_decide_eq_true (by kernel_rfl))).get 2 rfl
      have hmk := fun (x : Value) (W : World) => SlotG.mk (x := x) (w := W) 3 rfl hGN
      clear hGN ha hdep
      obtain ⟨gy, hy, lo, hi, d33, Xy⟩ := D33
      go_simp
      refine (HE.out _ _ _ _ _ g5 h5 gy hy (X5.below hb) Xy).mono ?_
      rintro e w2 ⟨rfl, hb2⟩
      exact ⟨_, rfl, hb2, hmk _ _ rfl⟩
    · intro a' w' hb ha hdep
      have d34 : a'.tmps.getD 34 undef = .bool true := (hdep 34 (of_decide_eq_true (by kernel_rfl))).is 3 rfl
      have hmk := fun (x : Value) (W : World) => SlotG.mk (x := x) (w := W) 4 rfl hGN
      clear hGN ha hdep
      go_simp
      exact ⟨_, rfl, Below.refl _ _, hmk _ _ rfl⟩
  · intro a' w' hb ha hG
    clear hGN
    have d35 : a'.tmps.getD 35 undef = .bool false := (hG _ (List.mem_of_getElem? (i := 4) rfl) 35 rfl).is 4 rfl
    have d2 : a'.tmps.getD 2 undef = .pointer (some ⟨w.heap.size, 0, none⟩) := ha.at 2 (by kernel_rfl)
    have d6 : a'.tmps.getD 6 undef = .pointer (some ⟨b6, 0, none⟩) := ha.at 6 (by kernel_rfl)
    have d7 : a'.tmps.getD 7 undef = .pointer (some ⟨b7, 0, none⟩) := ha.at 7 (by kernel_rfl)
    have d8 : a'.tmps.getD 8 undef = .pointer (some ⟨b8, 0, none⟩) := ha.at 8 (by kernel_rfl)
    have d1 : a'.tmps.getD 1 undef = .int .i64 n := ha.at 1 (by kernel_rfl)
    have e2 : a' = ⟨#[a'.tmps.getD 0 undef, a'.tmps.getD 1 undef, a'.tmps.getD 2 undef, a'.tmps.getD 3 undef, a'.tmps.getD 4 undef, a'.tmps.getD 5 undef, a'.tmps.getD 6 undef, a'.tmps.getD 7 undef, a'.tmps.getD 8 undef, a'.tmps.getD 9 undef, a'.tmps.getD 10 undef, a'.tmps.getD 11 undef, a'.tmps.getD 12 undef, a'.tmps.getD 13 undef, a'.tmps.getD 14 undef, a'.tmps.getD 15 undef, a'.tmps.getD 16 undef, a'.tmps.getD 17 undef, a'.tmps.getD 18 undef, a'.tmps.getD 19 undef, a'.tmps.getD 20 undef, a'.tmps.getD 21 undef, a'.tmps.getD 22 undef, a'.tmps.getD 23 undef, a'.tmps.getD 24 undef, a'.tmps.getD 25 undef, a'.tmps.getD 26 undef, a'.tmps.getD 27 undef, a'.tmps.getD 28 undef, a'.tmps.getD 29 undef, a'.tmps.getD 30 undef, a'.tmps.getD 31 undef, a'.tmps.getD 32 undef, a'.tmps.getD 33 undef, a'.tmps.getD 34 undef, a'.tmps.getD 35 undef, a'.tmps.getD 36 undef, a'.tmps.getD 37 undef, a'.tmps.getD 38 undef, a'.tmps.getD 39 undef, a'.tmps.getD 40 undef, a'.tmps.getD 41 undef, a'.tmps.getD 42 undef, a'.tmps.getD 43 undef, a'.tmps.getD 44 undef, a'.tmps.getD 45 undef, a'.tmps.getD 46 undef, a'.tmps.getD 47 undef, a'.tmps.getD 48 undef, a'.tmps.getD 49 undef, a'.tmps.getD 50 undef, a'.tmps.getD 51 undef, a'.tmps.getD 52 undef, a'.tmps.getD 53 undef, a'.tmps.getD 54 undef, a'.tmps.getD 55 undef, a'.tmps.getD 56 undef, a'.tmps.getD 57 undef, a'.tmps.getD 58 undef, a'.tmps.getD 59 undef, a'.tmps.getD 60 undef, a'.tmps.getD 61 undef, a'.tmps.getD 62 undef, a'.tmps.getD 63 undef, a'.tmps.getD 64 undef, a'.tmps.getD 65 undef, a'.tmps.getD 66 undef, a'.tmps.getD 67 undef, a'.tmps.getD 68 undef, a'.tmps.getD 69 undef, a'.tmps.getD 70 undef, a'.tmps.getD 71 undef, a'.tmps.getD 72 undef, a'.tmps.getD 73 undef], []⟩ := by rw [← (show a'.defers = [] from ha.2.1)]; exact act_eq a' 74 ha.1
    rw [d35, d2, d6, d7, d8, d1] at e2
    clear hG ha d35 d2 d6 d7 d8 d1
    generalize a'.tmps.getD 0 undef = x0 at *
    generalize a'.tmps.getD 3 undef = x3 at *
    generalize a'.tmps.getD 4 undef = x4 at *
    generalize a'.tmps.getD 5 undef = x5 at *
    generalize a'.tmps.getD 9 undef = x9 at *
    generalize a'.tmps.getD 10 undef = x10 at *
    generalize a'.tmps.getD 11 undef = x11 at *
    generalize a'.tmps.getD 12 undef = x12 at *
    generalize a'.tmps.getD 13 undef = x13 at *
    generalize a'.tmps.getD 14 undef = x14 at *
    generalize a'.tmps.getD 15 undef = x15 at *
    generalize a'.tmps.getD 16 undef = x16 at *
    generalize a'.tmps.getD 17 undef = x17 at *
    generalize a'.tmps.getD 18 undef = x18 at *
    generalize a'.tmps.getD 19 undef = x19 at *
    generalize a'.tmps.getD 20 undef = x20 at *
    generalize a'.tmps.getD 21 undef = x21 at *
    generalize a'.tmps.getD 22 undef = x22 at *
    generalize a'.tmps.getD 23 undef = x23 at *
    generalize a'.tmps.getD 24 undef = x24 at *
    generalize a'.tmps.getD 25 undef = x25 at *
    generalize a'.tmps.getD 26 undef = x26 at *
    generalize a'.tmps.getD 27 undef = x27 at *
    generalize a'.tmps.getD 28 undef = x28 at *
    generalize a'.tmps.getD 29 undef = x29 at *
    generalize a'.tmps.getD 30 undef = x30 at *
    generalize a'.tmps.getD 31 undef = x31 at *
    generalize a'.tmps.getD 32 undef = x32 at *
    generalize a'.tmps.getD 33 undef = x33 at *
    generalize a'.tmps.getD 34 undef = x34 at *
    generalize a'.tmps.getD 36 undef = x36 at *
    generalize a'.tmps.getD 37 undef = x37 at *
    generalize a'.tmps.getD 38 undef = x38 at *
    generalize a'.tmps.getD 39 undef = x39 at *
    generalize a'.tmps.getD 40 undef = x40 at *
    generalize a'.tmps.getD 41 undef = x41 at *
    generalize a'.tmps.getD 42 undef = x42 at *
    generalize a'.tmps.getD 43 undef = x43 at *
    generalize a'.tmps.getD 44 undef = x44 at *
    generalize a'.tmps.getD 45 undef = x45 at *
    generalize a'.tmps.getD 46 undef = x46 at *
    generalize a'.tmps.getD 47 undef = x47 at *
    generalize a'.tmps.getD 48 undef = x48 at *
    generalize a'.tmps.getD 49 undef = x49 at *
    generalize a'.tmps.getD 50 undef = x50 at *
    generalize a'.tmps.getD 51 undef = x51 at *
    generalize a'.tmps.getD 52 undef = x52 at *
    generalize a'.tmps.getD 53 undef = x53 at *
    generalize a'.tmps.getD 54 undef = x54 at *
    generalize a'.tmps.getD 55 undef = x55 at *
    generalize a'.tmps.getD 56 undef = x56 at *
    generalize a'.tmps.getD 57 undef = x57 at *
    generalize a'.tmps.getD 58 undef = x58 at *
    generalize a'.tmps.getD 59 undef = x59 at *
    generalize a'.tmps.getD 60 undef = x60 at *
    generalize a'.tmps.getD 61 undef = x61 at *
    generalize a'.tmps.getD 62 undef = x62 at *
    generalize a'.tmps.getD 63 undef = x63 at *
    generalize a'.tmps.getD 64 undef = x64 at *
    generalize a'.tmps.getD 65 undef = x65 at *
    generalize a'.tmps.getD 66 undef = x66 at *
    generalize a'.tmps.getD 67 undef = x67 at *
    generalize a'.tmps.getD 68 undef = x68 at *
    generalize a'.tmps.getD 69 undef = x69 at *
    generalize a'.tmps.getD 70 undef = x70 at *
    generalize a'.tmps.getD 71 undef = x71 at *
    generalize a'.tmps.getD 72 undef = x72 at *
    generalize a'.tmps.getD 73 undef = x73 at *
    subst e2
    simp only [List.drop_succ_cons, List.drop_zero]
    replace r0 := r0.below hb r0.lt
    replace r6 := r6.below hb r6.lt
    replace r7 := r7.below hb r7.lt
    replace r8 := r8.below hb r8.lt
    replace A0 := A0.below hb
    replace X5 := X5.below hb
    replace A1 := A1.below hb
    replace hB := hB.trans (hb.mono hB.size)
    clear hb
    have x0 : w'.cell? ⟨b7, 0, none⟩ = some (.slice (some ⟨g5, 0, none⟩) ps.length ps.length) := r7.cell 0
    have x1 : w'.cell? ⟨b7, 1, none⟩ = some (.slice (some ⟨h5, 0, none⟩) ls.length ls.length) := r7.cell 1
    clear HE r7
    go_wp2_with fail
    clear x0 x1
    refine (HM.out n5 b7 w' g5 h5 X5 (by have := r8.lt; omega)).mono ?_
    rintro e_ w11 ⟨⟨v11, rfl, hv11⟩, hc⟩
    clear HM X5
    replace r0 := hc.row r0 (.inl (by omega))
    replace r6 := hc.row r6 (.inl (by omega))
    replace r8 := hc.row r8 (.inr (by omega))
    replace A0 := A0.chg hc (.inl (by omega))
    replace A1 := A1.chg hc (.inr (by omega))
    replace hB := hB.trans (hc.1.mono (by omega))
    clear hc
    have dK : decide (v11 < 0) = false := by simpa using hv11
    clear hv11
    have s0 : w11.cell? ⟨b8, 0, none⟩ = some (.slice p1_ RL.length c1_) := r8.cell 0
    have s1 : w11.cell? ⟨b8, 1, none⟩ = some (.slice q1_ RS.length d1_) := r8.cell 1
    have s2 : w11.cell? ⟨b8, 2, none⟩ = some (.int .i64 RC) := r8.cell 2
    have t0 : w11.cell? ⟨b6, 0, none⟩ = some (.slice p0_ RL.length c0_) := r6.cell 0
    have t1 : w11.cell? ⟨b6, 1, none⟩ = some (.slice q0_ RS.length d0_) := r6.cell 1
    have t2 : w11.cell? ⟨b6, 2, none⟩ = some (.int .i64 RC) := r6.cell 2
    go_wp2_with fail
    refine (HQ.out _ _ _ _ _ p1_ c1_ q1_ d1_ p0_ c0_ q0_ d0_ A1 A0).mono ?_
    rintro e_ w12 ⟨rfl, hbe⟩
    replace r0 := r0.below hbe r0.lt
    replace r6 := r6.below hbe r6.lt
    replace r8 := r8.below hbe r8.lt
    replace A0 := A0.below hbe
    replace A1 := A1.below hbe
    replace hB := hB.trans (hbe.mono hB.size)
    clear hbe
    clear s0 s1 s2 t0 t1 t2 dK
    have s0 : w12.cell? ⟨b8, 0, none⟩ = some (.slice p1_ RL.length c1_) := r8.cell 0
    have s1 : w12.cell? ⟨b8, 1, none⟩ = some (.slice q1_ RS.length d1_) := r8.cell 1
    have s2 : w12.cell? ⟨b8, 2, none⟩ = some (.int .i64 RC) := r8.cell 2
    go_wp2_with fail
    refine (HMO.out _ _ _ p1_ c1_ q1_ d1_ A1 (by have := r8.lt; omega)).mono ?_
    rintro e_ w13 ⟨rfl, M1, hc⟩
    clear HMO A1
    replace r0 := hc.row r0 (.inl (by omega))
    replace r6 := hc.row r6 (.inl (by omega))
    replace r8 := hc.row r8 (.inr (by omega))
    replace A0 := A0.chg hc (.inl (by omega))
    replace hB := hB.trans (hc.1.mono (by omega))
    clear hc
    clear s0 s1 s2
    have s0 : w13.cell? ⟨b8, 0, none⟩ = some (.slice p1_ RL.length c1_) := r8.cell 0
    have s1 : w13.cell? ⟨b8, 1, none⟩ = some (.slice q1_ RS.length d1_) := r8.cell 1
    have s2 : w13.cell? ⟨b8, 2, none⟩ = some (.int .i64 RC) := r8.cell 2
    go_wp2_with fail
    refine (HH.out _ _ _ p1_ c1_ q1_ d1_ M1).mono ?_
    rintro e_ w14 ⟨rfl, hbe⟩
    replace r0 := r0.below hbe r0.lt
    replace r6 := r6.below hbe r6.lt
    replace r8 := r8.below hbe r8.lt
    replace A0 := A0.below hbe
    replace M1 := M1.below hbe
    replace hB := hB.trans (hbe.mono hB.size)
    clear hbe
    clear s0 s1 s2
    have dN : decide (KK < 0) = false := by simpa using HKK.out
    have dM : (KK != KK) = false := by simp
    have y0 : w14.cell? ⟨w.heap.size, 0, none⟩ = some (.slice p ps.length c1) := r0.cell 0
    have y1 : w14.cell? ⟨w.heap.size, 1, none⟩ = some (.slice q ls.length c2) := r0.cell 1
    go_wp2_with fail
    refine (HT.out _ (HX.out.below hB)).mono ?_
    rintro e_ w20 ⟨⟨gz, hz, rfl, Xz⟩, hbt⟩
    have hst := hbt.size
    replace r6 := r6.below hbt r6.lt
    replace r8 := r8.below hbt r8.lt
    replace A0 := A0.below hbt
    replace M1 := M1.below hbt
    replace hB := hB.trans (hbt.mono hB.size)
    clear hbt
    clear y0 y1 r0
    go_wp2_with fail
    refine (HI.out _ _ _ gz hz Xz).mono ?_
    rintro e_ w21 ⟨⟨p2_, c2_, q2_, d2_, rfl, A2⟩, hbs⟩
    replace r6 := r6.below hbs r6.lt
    replace r8 := r8.below hbs r8.lt
    replace A0 := A0.below hbs
    replace M1 := M1.below hbs
    replace hB := hB.trans (hbs.mono hB.size)
    clear hbs
    clear Xz HI HT HX hst
    replace r6 := r6.alloc (.cells #[.slice p2_ RL.length c2_, .slice q2_ RS.length d2_, .int .i64 RC] 28)
    replace r8 := r8.alloc (.cells #[.slice p2_ RL.length c2_, .slice q2_ RS.length d2_, .int .i64 RC] 28)
    replace A0 := A0.below (ent_new0 w21 (.cells #[.slice p2_ RL.length c2_, .slice q2_ RS.length d2_, .int .i64 RC] 28))
    replace M1 := M1.below (ent_new0 w21 (.cells #[.slice p2_ RL.length c2_, .slice q2_ RS.length d2_, .int .i64 RC] 28))
    replace A2 := A2.below (ent_new0 w21 (.cells #[.slice p2_ RL.length c2_, .slice q2_ RS.length d2_, .int .i64 RC] 28))
    have r12 := Row.new w21 28 [.slice p2_ RL.length c2_, .slice q2_ RS.length d2_, .int .i64 RC]
    replace hB := hB.alloc (by have := hB.size; omega) (.cells #[.slice p2_ RL.length c2_, .slice q2_ RS.length d2_, .int .i64 RC] 28)
    have hZ : w21.heap.size < (w21.alloc (.cells #[.slice p2_ RL.length c2_, .slice q2_ RS.length d2_, .int .i64 RC] 28)).heap.size := by simp
    have s0 : (w21.alloc (.cells #[.slice p2_ RL.length c2_, .slice q2_ RS.length d2_, .int .i64 RC] 28)).cell? ⟨w21.heap.size, 0, none⟩ = some (.slice p2_ RL.length c2_) := r12.cell 0
    have s1 : (w21.alloc (.cells #[.slice p2_ RL.length c2_, .slice q2_ RS.length d2_, .int .i64 RC] 28)).cell? ⟨w21.heap.size, 1, none⟩ = some (.slice q2_ RS.length d2_) := r12.cell 1
    have s2 : (w21.alloc (.cells #[.slice p2_ RL.length c2_, .slice q2_ RS.length d2_, .int .i64 RC] 28)).cell? ⟨w21.heap.size, 2, none⟩ = some (.int .i64 RC) := r12.cell 2
    have t0 : (w21.alloc (.cells #[.slice p2_ RL.length c2_, .slice q2_ RS.length d2_, .int .i64 RC] 28)).cell? ⟨b6, 0, none⟩ = some (.slice p0_ RL.length c0_) := r6.cell 0
    have t1 : (w21.alloc (.cells #[.slice p2_ RL.length c2_, .slice q2_ RS.length d2_, .int .i64 RC] 28)).cell? ⟨b6, 1, none⟩ = some (.slice q0_ RS.length d0_) := r6.cell 1
    have t2 : (w21.alloc (.cells #[.slice p2_ RL.length c2_, .slice q2_ RS.length d2_, .int .i64 RC] 28)).cell? ⟨b6, 2, none⟩ = some (.int .i64 RC) := r6.cell 2
    have HA : Hid _ := And.intro r6 (And.intro r8 (And.intro A0 (And.intro M1 (And.intro A2 (And.intro r12 (And.intro hB (hZ)))))))
    clear r6 r8 A0 M1 A2 r12 hB hZ
    go_wp2_with fail
    generalize w21.heap.size = b12 at *
    generalize w21.alloc (.cells #[.slice p2_ RL.length c2_, .slice q2_ RS.length d2_, .int .i64 RC] 28) = Z12 at *
    obtain ⟨r6, r8, A0, M1, A2, r12, hB, hZ⟩ := HA.out
    clear HA s0 s1 s2 t0 t1 t2
    have hZb12 := hZ
    clear hZ
    refine (HQ.out _ _ _ _ _ p2_ c2_ q2_ d2_ p0_ c0_ q0_ d0_ A2 A0).mono ?_
    rintro e_ w22 ⟨rfl, hbe⟩
    replace r8 := r8.below hbe r8.lt
    replace M1 := M1.below hbe
    replace hB := hB.trans (hbe.mono hB.size)
    clear hbe
    clear A0 A2 r6 r12 HQ
    have s0 : w22.cell? ⟨b8, 0, none⟩ = some (.slice p1_ RL.length c1_) := r8.cell 0
    have s1 : w22.cell? ⟨b8, 1, none⟩ = some (.slice q1_ RS.length d1_) := r8.cell 1
    have s2 : w22.cell? ⟨b8, 2, none⟩ = some (.int .i64 RC) := r8.cell 2
    go_wp2_with fail
    refine (HH.out _ _ _ p1_ c1_ q1_ d1_ M1).mono ?_
    rintro e_ w23 ⟨rfl, hbe⟩
    replace hB := hB.trans (hbe.mono hB.size)
    clear hbe
    clear s0 s1 s2
    go_wp2
    go_ret
    exact ⟨rfl, hB⟩
end Go.Proofs.YtcnadobnihbldaaGreat
