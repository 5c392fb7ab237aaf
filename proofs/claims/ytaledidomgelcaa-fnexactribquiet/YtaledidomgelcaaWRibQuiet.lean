/- The walk of the law on RibQuiet. (Written by gen_wout.py.) -/
import Derived.Test.YtaledidomgelcaaPack4
namespace Go.Proofs.Ytaledidomgelcaa
open Go.RowKit Go.Sort

set_option maxRecDepth 100000 in
set_option maxHeartbeats 8000000 in
theorem fnExactRibQuiet_walk (x : Option Addr) (len cap : Nat) (rs : List Rt)  (w : World) (h : ArgR w x len rs)  :
    Calls Try.prog 6 #[ribV x len cap] w fun r w' => r = .returned (.bool true) ∧ Below w.heap.size w w' := by
  obtain rfl : rs.length = len := h.1
  have hml := h.2.1
  have HZ : Hid (∀ w, Calls Try.prog 9 #[ribV x rs.length cap, .int .i64 1048576] w fun e w' => e = .returned (.int .i64 (if rs.length ≤ 1048576 then 1048576 - (rs.length : Int) else -1)) ∧ Below w.heap.size w w') := fun w => szRib_any x rs.length cap w hml
  have HX : Hid (ArgR w x rs.length rs) := h
  clear h hml
  by_cases hn : rs.length ≤ 1048576
  · have d : decide (1048576 - (rs.length : Int) < 0) = false := by simp; omega
    have HT : Hid (∀ w, ArgR w x rs.length rs → Calls Try.prog 11 #[ribV x rs.length cap] w fun e w' => ∃ g, e = .returned (ribV (some ⟨g, 0, none⟩) rs.length rs.length) ∧ w.heap.size ≤ g ∧ Row w' g 46 (rowR rs) ∧ Below w.heap.size w w') := fun w h => toRib_any x cap rs w h hn
    have HS : Hid (∀ g w, Row w g 46 (rowR rs) → Calls Try.prog 24 #[ribV (some ⟨g, 0, none⟩) rs.length rs.length] w fun e w' => (∃ q c, e = .returned (ribV q (quietO rs).length c) ∧ w'.ownsRow w.heap.size 46 9 (.slice q (quietO rs).length c) (quietO rs).length (rowR (quietO rs))) ∧ Below w.heap.size w w') := fun g w h => specQuiet_any (some ⟨g, 0, none⟩) rs.length rs w (rtsIn_row h) (fun e => by cases e) (Nat.le_refl _) (by omega)
    have HI : Hid (∀ g w, Row w g 46 (rowR rs) → Calls Try.prog 25 #[ribV (some ⟨g, 0, none⟩) rs.length rs.length] w fun e w' => (∃ q c, e = .returned (ribV q (quietO rs).length c) ∧ w'.ownsRow w.heap.size 46 9 (.slice q (quietO rs).length c) (quietO rs).length (rowR (quietO rs))) ∧ Below w.heap.size w w') := fun g w h => implQuiet_any (some ⟨g, 0, none⟩) rs.length rs w (rtsIn_row h) (by omega)
    have HQ : Hid (∀ p q a b w, RtsIn w p rs → RtsIn w q rs → Calls Try.prog 15 #[ribV p rs.length a, ribV q rs.length b] w fun r w' => r = .returned (.bool true) ∧ Below w.heap.size w w') := fun p q a b w h1 h2 => eqRib_any p q a b rs w h1 h2 (by omega)
    have HL : Hid ((quietO rs).length ≤ 8) := quietO_len rs
    rw [if_pos hn] at HZ
    generalize (quietO rs) = qs at *
    have HQ2 : Hid (∀ p q a b w, RtsIn w p qs → RtsIn w q qs → Calls Try.prog 15 #[ribV p qs.length a, ribV q qs.length b] w fun r w' => r = .returned (.bool true) ∧ Below w.heap.size w w') := fun p q a b w h1 h2 => eqRib_any p q a b qs w h1 h2 (by have := HL.out; omega)
    generalize hM : qs.length = M at *
    have HM : Hid (M = qs.length) := hM.symm
    generalize hNN : rs.length = N at *
    have HNN : Hid (N = rs.length) := hNN.symm
    have hN1 : N ≤ 100000000 := by omega
    clear hM hNN hn
    unfold ribV at *
    go_enter Try.func6, Try.ntmps6
    go_wp2_with fail
    refine (HZ.out _).mono ?_
    rintro e w1 ⟨rfl, hb1⟩
    obtain ⟨r0, hB⟩ := one_box w [.slice x N cap] 24 hb1
    clear hb1 HZ
    have x0 : w1.cell? ⟨w.heap.size, 0, none⟩ = some (.slice x N cap) := r0.cell 0
    go_wp2_with fail
    refine (HT.out _ (HX.out.below hB)).mono ?_
    rintro e w2 ⟨g2, rfl, _, rr, hb2⟩
    have r0 := r0.below hb2 r0.lt
    have hB := hB.trans (hb2.mono hB.size)
    clear hb2 x0
    go_wp2_with fail
    refine (HS.out g2 _ rr).mono ?_
    rintro e w3 ⟨⟨q0, c0, rfl, o0⟩, hb3⟩
    have r0 := r0.below hb3 r0.lt
    have hB := hB.trans (hb3.mono hB.size)
    clear hb3 rr HS
    have r0 := r0.alloc (.cells #[.slice q0 M c0] 30)
    have o0 := World.ownsRow.alloc o0 (.cells #[.slice q0 M c0] 30)
    have r8 := Row.new w3 30 [.slice q0 M c0]
    have hB := hB.alloc hB.size (.cells #[.slice q0 M c0] 30)
    have x0 : (w3.alloc (.cells #[.slice q0 M c0] 30)).cell? ⟨w.heap.size, 0, none⟩ = some (.slice x N cap) := r0.cell 0
    have HA : Hid _ := And.intro r0 (And.intro o0 (And.intro r8 (hB)))
    clear r0 o0 r8 hB
    go_wp2_with fail
    generalize hbx : w3.heap.size = b8 at *
    generalize w3.alloc (.cells #[.slice q0 M c0] 30) = Z8 at *
    clear hbx
    obtain ⟨r0, o0, r8, hB⟩ := HA.out
    clear HA x0
    refine (HT.out _ (HX.out.below hB)).mono ?_
    rintro e w5 ⟨g5, rfl, hg5, r5, hb5⟩
    have G5 : w.heap.size ≤ g5 := Nat.le_trans hB.size hg5
    have L05 := ownsR_lt' o0
    have r0 := (r0.below hb5 r0.lt).alloc (.cells #[.slice (some ⟨g5, 0, none⟩) N N] 30)
    have r8 := (r8.below hb5 r8.lt).alloc (.cells #[.slice (some ⟨g5, 0, none⟩) N N] 30)
    have o0 := World.ownsRow.alloc (ownsR_below o0 hb5) (.cells #[.slice (some ⟨g5, 0, none⟩) N N] 30)
    have r5 := r5.alloc (.cells #[.slice (some ⟨g5, 0, none⟩) N N] 30)
    have r9 := Row.new w5 30 [.slice (some ⟨g5, 0, none⟩) N N]
    have hB := (hB.trans (hb5.mono hB.size)).alloc (by have := hb5.size; have := hB.size; omega) (.cells #[.slice (some ⟨g5, 0, none⟩) N N] 30)
    have L05 := fun b e => Nat.lt_of_lt_of_le (L05 b e) hg5
    have y9 : (w5.alloc (.cells #[.slice (some ⟨g5, 0, none⟩) N N] 30)).cell? ⟨w5.heap.size, 0, none⟩ = some (.slice (some ⟨g5, 0, none⟩) N N) := r9.cell 0
    have HI7 : Hid _ := And.intro r8 (And.intro o0 (And.intro r5 (And.intro r9 (And.intro hB r0))))
    clear r8 o0 r5 r9 hB hb5 hg5 r0
    go_wp2_with fail
    generalize hb9 : w5.heap.size = b9 at *
    generalize w5.alloc (.cells #[.slice (some ⟨g5, 0, none⟩) N N] 30) = W7 at *
    clear hb9 y9
    obtain ⟨r8, o0, r5, r9, hB, r0⟩ := HI7.out
    clear HI7
    refine (HI.out g5 _ r5).mono ?_
    rintro e w7 ⟨⟨q1, c1, rfl, o1⟩, hb7⟩
    have L07 := (ownsR_lt' o0)
    have Lr5 := r5.lt
    have Lr8 := r8.lt
    have Lr9 := r9.lt
    have Lr0 := r0.lt
    have r0 := r0.below hb7 r0.lt
    have r8 := r8.below hb7 r8.lt
    have r5 := r5.below hb7 r5.lt
    have r9 := r9.below hb7 r9.lt
    have o0 := ownsR_below o0 hb7
    have hB := hB.trans (hb7.mono hB.size)
    have hb7s := hb7.size
    generalize hn7 : W7.heap.size = n7 at *
    clear hb7 hn7
    have r0 := r0.alloc (.cells #[.slice q1 M c1] 30)
    have r8 := r8.alloc (.cells #[.slice q1 M c1] 30)
    have r5 := r5.alloc (.cells #[.slice q1 M c1] 30)
    have r9 := r9.alloc (.cells #[.slice q1 M c1] 30)
    have o0 := World.ownsRow.alloc o0 (.cells #[.slice q1 M c1] 30)
    have o1 := World.ownsRow.alloc o1 (.cells #[.slice q1 M c1] 30)
    have r10 := Row.new w7 30 [.slice q1 M c1]
    have hB := hB.alloc hB.size (.cells #[.slice q1 M c1] 30)
    have s0 : (w7.alloc (.cells #[.slice q1 M c1] 30)).cell? ⟨w7.heap.size, 0, none⟩ = some (.slice q1 M c1) := r10.cell 0
    have t0 : (w7.alloc (.cells #[.slice q1 M c1] 30)).cell? ⟨b8, 0, none⟩ = some (.slice q0 M c0) := r8.cell 0
    have HA : Hid _ := And.intro r0 (And.intro r8 (And.intro r5 (And.intro r9 (And.intro o0 (And.intro o1 (And.intro r10 (hB)))))))
    clear r0 r8 r5 r9 o0 o1 r10 hB
    go_wp2_with fail
    generalize hbx : w7.heap.size = b10 at *
    generalize w7.alloc (.cells #[.slice q1 M c1] 30) = Z10 at *
    clear hbx
    obtain ⟨r0, r8, r5, r9, o0, o1, r10, hB⟩ := HA.out
    clear HA s0 t0
    refine (HQ2.out q1 q0 c1 c0 Z10 (ownsR_in HM.out o1) (ownsR_in HM.out o0)).mono ?_
    rintro e w10 ⟨rfl, hbe⟩
    have r0 := r0.below hbe r0.lt
    have r8 := r8.below hbe r8.lt
    have r5 := r5.below hbe r5.lt
    have r9 := r9.below hbe r9.lt
    have r10 := r10.below hbe r10.lt
    have o0 := ownsR_below o0 hbe
    have o1 := ownsR_below o1 hbe
    have hB := hB.trans (hbe.mono hB.size)
    clear hbe
    go_wp2_with fail
    have hGN : (([(27, Is (.agg #[.slice (some ⟨g5, 0, none⟩) N N])), (28, Is (.agg #[.slice x N cap])), (29, fun v W => ∃ g, v = .agg #[.slice (some ⟨g, 0, none⟩) N N] ∧ Row W g 46 (rowR rs)), (30, Is (.bool true)), (31, Is (.bool false))] : List (Nat × (Value → World → Prop))).map (·.1)).Nodup := by simp
    refine wp_region_steady 5 (SlotG [(27, Is (.agg #[.slice (some ⟨g5, 0, none⟩) N N])), (28, Is (.agg #[.slice x N cap])), (29, fun v W => ∃ g, v = .agg #[.slice (some ⟨g, 0, none⟩) N N] ∧ Row W g 46 (rowR rs)), (30, Is (.bool true)), (31, Is (.bool false))]) (by kernel_rfl) (by kernel_rfl) (Stabs.all ⟨stab_is _, stab_is _, stab_ribRow _, stab_is _, stab_is _, trivial⟩) ?_ ?_
    · intro o ho
      simp only [List.take_succ_cons, List.take_zero, List.mem_cons, List.not_mem_nil, or_false] at ho
      rcases ho with rfl | rfl | rfl | rfl | rfl
      · intro a' w' hb ha hdep
        have d5 : a'.tmps.getD 5 undef = .pointer (some ⟨b9, 0, none⟩) := ha.at 5 (by kernel_rfl)
        have hmk := fun (x : Value) (W : World) => SlotG.mk (x := x) (w := W) 0 rfl hGN
        clear hGN ha hdep
        have y0 : w'.cell? ⟨b9, 0, none⟩ = some (.slice (some ⟨g5, 0, none⟩) N N) := (r9.below hb r9.lt).cell 0
        go_simp
        exact ⟨_, rfl, Below.refl _ _, hmk _ _ rfl⟩
      · intro a' w' hb ha hdep
        have d1 : a'.tmps.getD 1 undef = .pointer (some ⟨w.heap.size, 0, none⟩) := ha.at 1 (by kernel_rfl)
        have hmk := fun (x : Value) (W : World) => SlotG.mk (x := x) (w := W) 1 rfl hGN
        clear hGN ha hdep
        have y0 : w'.cell? ⟨w.heap.size, 0, none⟩ = some (.slice x N cap) := (r0.below hb r0.lt).cell 0
        go_simp
        exact ⟨_, rfl, Below.refl _ _, hmk _ _ rfl⟩
      · intro a' w' hb ha hdep
        have d28 : a'.tmps.getD 28 undef = .agg #[.slice x N cap] := (hdep 28 (of_decide_eq_true (by kernel_rfl))).is 1 rfl
        have hmk := fun (x : Value) (W : World) => SlotG.mk (x := x) (w := W) 2 rfl hGN
        clear hGN ha hdep
        go_simp
        refine (HT.out _ (HX.out.below (hB.trans (hb.mono hB.size)))).mono ?_
        rintro e w2 ⟨g, rfl, _, r7, hb2⟩
        exact ⟨_, rfl, hb2, hmk _ _ ⟨g, rfl, r7⟩⟩
      · intro a' w' hb ha hdep
        have d27 : a'.tmps.getD 27 undef = .agg #[.slice (some ⟨g5, 0, none⟩) N N] := (hdep 27 (of_decide_eq_true (by kernel_rfl))).is 0 rfl
        have D29 := (hdep 29 (of_decide_eq_true (by kernel_rfl))).get 2 rfl
        have hmk := fun (x : Value) (W : World) => SlotG.mk (x := x) (w := W) 3 rfl hGN
        clear hGN ha hdep
        obtain ⟨g, d29, rr⟩ := D29
        go_simp
        refine (HQ.out _ _ _ _ _ (rtsIn_row (r5.below hb r5.lt)) (rtsIn_row rr)).mono ?_
        rintro e w2 ⟨rfl, hb2⟩
        exact ⟨_, rfl, hb2, hmk _ _ rfl⟩
      · intro a' w' hb ha hdep
        have d30 : a'.tmps.getD 30 undef = .bool true := (hdep 30 (of_decide_eq_true (by kernel_rfl))).is 3 rfl
        have hmk := fun (x : Value) (W : World) => SlotG.mk (x := x) (w := W) 4 rfl hGN
        clear hGN ha hdep
        go_simp
        exact ⟨_, rfl, Below.refl _ _, hmk _ _ rfl⟩
    · intro a' w' hb ha hG
      clear hGN
      have d31 : a'.tmps.getD 31 undef = .bool false := (hG _ (List.mem_of_getElem? (i := 4) rfl) 31 rfl).is 4 rfl
      have d1 : a'.tmps.getD 1 undef = .pointer (some ⟨w.heap.size, 0, none⟩) := ha.at 1 (by kernel_rfl)
      have d4 : a'.tmps.getD 4 undef = .pointer (some ⟨b8, 0, none⟩) := ha.at 4 (by kernel_rfl)
      have d5 : a'.tmps.getD 5 undef = .pointer (some ⟨b9, 0, none⟩) := ha.at 5 (by kernel_rfl)
      have d6 : a'.tmps.getD 6 undef = .pointer (some ⟨b10, 0, none⟩) := ha.at 6 (by kernel_rfl)
      have e2 : a' = ⟨#[a'.tmps.getD 0 undef, a'.tmps.getD 1 undef, a'.tmps.getD 2 undef, a'.tmps.getD 3 undef, a'.tmps.getD 4 undef, a'.tmps.getD 5 undef, a'.tmps.getD 6 undef, a'.tmps.getD 7 undef, a'.tmps.getD 8 undef, a'.tmps.getD 9 undef, a'.tmps.getD 10 undef, a'.tmps.getD 11 undef, a'.tmps.getD 12 undef, a'.tmps.getD 13 undef, a'.tmps.getD 14 undef, a'.tmps.getD 15 undef, a'.tmps.getD 16 undef, a'.tmps.getD 17 undef, a'.tmps.getD 18 undef, a'.tmps.getD 19 undef, a'.tmps.getD 20 undef, a'.tmps.getD 21 undef, a'.tmps.getD 22 undef, a'.tmps.getD 23 undef, a'.tmps.getD 24 undef, a'.tmps.getD 25 undef, a'.tmps.getD 26 undef, a'.tmps.getD 27 undef, a'.tmps.getD 28 undef, a'.tmps.getD 29 undef, a'.tmps.getD 30 undef, a'.tmps.getD 31 undef, a'.tmps.getD 32 undef, a'.tmps.getD 33 undef, a'.tmps.getD 34 undef, a'.tmps.getD 35 undef, a'.tmps.getD 36 undef, a'.tmps.getD 37 undef, a'.tmps.getD 38 undef, a'.tmps.getD 39 undef, a'.tmps.getD 40 undef, a'.tmps.getD 41 undef, a'.tmps.getD 42 undef, a'.tmps.getD 43 undef, a'.tmps.getD 44 undef, a'.tmps.getD 45 undef, a'.tmps.getD 46 undef, a'.tmps.getD 47 undef, a'.tmps.getD 48 undef, a'.tmps.getD 49 undef, a'.tmps.getD 50 undef, a'.tmps.getD 51 undef, a'.tmps.getD 52 undef, a'.tmps.getD 53 undef, a'.tmps.getD 54 undef, a'.tmps.getD 55 undef, a'.tmps.getD 56 undef, a'.tmps.getD 57 undef, a'.tmps.getD 58 undef, a'.tmps.getD 59 undef, a'.tmps.getD 60 undef, a'.tmps.getD 61 undef, a'.tmps.getD 62 undef, a'.tmps.getD 63 undef, a'.tmps.getD 64 undef, a'.tmps.getD 65 undef, a'.tmps.getD 66 undef, a'.tmps.getD 67 undef, a'.tmps.getD 68 undef], []⟩ := by rw [← (show a'.defers = [] from ha.2.1)]; exact act_eq a' 69 ha.1
      rw [d31, d1, d4, d5, d6] at e2
      clear hG ha d31 d1 d4 d5 d6
      generalize a'.tmps.getD 0 undef = x0 at *
      generalize a'.tmps.getD 2 undef = x2 at *
      generalize a'.tmps.getD 3 undef = x3 at *
      generalize a'.tmps.getD 7 undef = x7 at *
      generalize a'.tmps.getD 8 undef = x8 at *
      generalize a'.tmps.getD 9 undef = x9 at *
      generalize a'.tmps.getD 10 undef = x10 at *
      generalize a'.tmps.getD 11 undef = x11 at *
      generalize a'.tmps.getD 12 undef = x12 at *
      generalize a'.tmps.getD 13 undef = x13 at *
      generalize a'.tmps.getD 14 undef = x14 at *
      generalize a'.tmps.getD 15 undef = x15 at *
      generalize a'.tmps.getD 16 undef = x16 at *
      generalize a'.tmps.getD 17 undef = x17 at *
      generalize a'.tmps.getD 18 undef = x18 at *
      generalize a'.tmps.getD 19 undef = x19 at *
      generalize a'.tmps.getD 20 undef = x20 at *
      generalize a'.tmps.getD 21 undef = x21 at *
      generalize a'.tmps.getD 22 undef = x22 at *
      generalize a'.tmps.getD 23 undef = x23 at *
      generalize a'.tmps.getD 24 undef = x24 at *
      generalize a'.tmps.getD 25 undef = x25 at *
      generalize a'.tmps.getD 26 undef = x26 at *
      generalize a'.tmps.getD 27 undef = x27 at *
      generalize a'.tmps.getD 28 undef = x28 at *
      generalize a'.tmps.getD 29 undef = x29 at *
      generalize a'.tmps.getD 30 undef = x30 at *
      generalize a'.tmps.getD 32 undef = x32 at *
      generalize a'.tmps.getD 33 undef = x33 at *
      generalize a'.tmps.getD 34 undef = x34 at *
      generalize a'.tmps.getD 35 undef = x35 at *
      generalize a'.tmps.getD 36 undef = x36 at *
      generalize a'.tmps.getD 37 undef = x37 at *
      generalize a'.tmps.getD 38 undef = x38 at *
      generalize a'.tmps.getD 39 undef = x39 at *
      generalize a'.tmps.getD 40 undef = x40 at *
      generalize a'.tmps.getD 41 undef = x41 at *
      generalize a'.tmps.getD 42 undef = x42 at *
      generalize a'.tmps.getD 43 undef = x43 at *
      generalize a'.tmps.getD 44 undef = x44 at *
      generalize a'.tmps.getD 45 undef = x45 at *
      generalize a'.tmps.getD 46 undef = x46 at *
      generalize a'.tmps.getD 47 undef = x47 at *
      generalize a'.tmps.getD 48 undef = x48 at *
      generalize a'.tmps.getD 49 undef = x49 at *
      generalize a'.tmps.getD 50 undef = x50 at *
      generalize a'.tmps.getD 51 undef = x51 at *
      generalize a'.tmps.getD 52 undef = x52 at *
      generalize a'.tmps.getD 53 undef = x53 at *
      generalize a'.tmps.getD 54 undef = x54 at *
      generalize a'.tmps.getD 55 undef = x55 at *
      generalize a'.tmps.getD 56 undef = x56 at *
      generalize a'.tmps.getD 57 undef = x57 at *
      generalize a'.tmps.getD 58 undef = x58 at *
      generalize a'.tmps.getD 59 undef = x59 at *
      generalize a'.tmps.getD 60 undef = x60 at *
      generalize a'.tmps.getD 61 undef = x61 at *
      generalize a'.tmps.getD 62 undef = x62 at *
      generalize a'.tmps.getD 63 undef = x63 at *
      generalize a'.tmps.getD 64 undef = x64 at *
      generalize a'.tmps.getD 65 undef = x65 at *
      generalize a'.tmps.getD 66 undef = x66 at *
      generalize a'.tmps.getD 67 undef = x67 at *
      generalize a'.tmps.getD 68 undef = x68 at *
      subst e2
      simp only [List.drop_succ_cons, List.drop_zero]
      have r0 := r0.below hb r0.lt
      have r8 := r8.below hb r8.lt
      have r5 := r5.below hb r5.lt
      have r9 := r9.below hb r9.lt
      have r10 := r10.below hb r10.lt
      have o0 := ownsR_below o0 hb
      have o1 := ownsR_below o1 hb
      have hB := hB.trans (hb.mono hB.size)
      have hb10s := hB.size
      clear hb HQ
      have x9 : w'.cell? ⟨b9, 0, none⟩ = some (.slice (some ⟨g5, 0, none⟩) N N) := r9.cell 0
      have HR : Hid _ := And.intro r0 (And.intro r8 (And.intro r10 (And.intro o0 (And.intro o1 (And.intro r5 hB)))))
      clear r0 r8 r10 o0 o1 r5 hB r9
      go_wp2_with fail
      obtain ⟨r0, r8, r10, o0, o1, r5, hB⟩ := HR.out
      clear HR x9
      have L5 := r5.lt
      have o5 := ownsR_row HNN.out hN1 r5
      refine (markRib_any 1 (some ⟨g5, 0, none⟩) N N g5 rs w' HNN.out (by omega) hN1 o5 (by omega)).mono ?_
      rintro e w11 ⟨rfl, -, hb11, hkp⟩
      have r0 := hkp _ _ _ (ownsR_ne o5 r0 (by decide)) r0
      have r8 := hkp _ _ _ (ownsR_ne o5 r8 (by decide)) r8
      have r10 := hkp _ _ _ (ownsR_ne o5 r10 (by decide)) r10
      have o0 := ownsR_kept HM.out o0 (fun b t l e hr => hkp b t l (fun e' => ownsR_base5 o0 L05 (by rw [e, ← e'])) hr)
      have o1 := ownsR_kept HM.out o1 (fun b t l e hr => hkp b t l (fun e' => ownsR_base o1 (show g5 < n7 by omega) (by rw [e, ← e'])) hr)
      have hB := hB.trans (hb11.mono (by omega))
      clear hb11 hkp o5 r5
      have dK : decide (((1 : Nat) : Int) + 9 * (N : Int) < 0) = false := by simp; omega
      have s0 : w11.cell? ⟨b10, 0, none⟩ = some (.slice q1 M c1) := r10.cell 0
      have t0 : w11.cell? ⟨b8, 0, none⟩ = some (.slice q0 M c0) := r8.cell 0
      go_wp2_with fail
      refine (HQ2.out q1 q0 c1 c0 w11 (ownsR_in HM.out o1) (ownsR_in HM.out o0)).mono ?_
      rintro e w12 ⟨rfl, hbe⟩
      have r0 := r0.below hbe r0.lt
      have r8 := r8.below hbe r8.lt
      have r10 := r10.below hbe r10.lt
      have o0 := ownsR_below o0 hbe
      have o1 := ownsR_below o1 hbe
      have hB := hB.trans (hbe.mono hB.size)
      clear hbe
      clear s0 t0 dK
      have s0 : w12.cell? ⟨b10, 0, none⟩ = some (.slice q1 M c1) := r10.cell 0
      go_wp2_with fail
      refine (markRib_any 1 q1 M c1 n7 qs w12 HM.out (by omega) (by have := HL.out; omega) o1 (by have := r10.lt; have := r8.lt; omega)).mono ?_
      rintro e w13' ⟨rfl, o1m, hb13, hkp⟩
      have r0 := hkp _ _ _ (ownsR_ne o1 r0 (by decide)) r0
      have r8 := hkp _ _ _ (ownsR_ne o1 r8 (by decide)) r8
      have r10 := hkp _ _ _ (ownsR_ne o1 r10 (by decide)) r10
      have o0 := ownsR_kept HM.out o0 (fun b t l e hr => hkp b t l (fun e' => ownsR_lt0 o0 o1 L07 (by rw [e]) e') hr)
      have hB := hB.trans (hb13.mono (by omega))
      clear hb13 hkp o1 s0
      have o1 := o1m
      clear o1m
      have s0 : w13'.cell? ⟨b10, 0, none⟩ = some (.slice q1 M c1) := r10.cell 0
      go_wp2_with fail
      refine (heldRib_any 1 q1 M c1 w13' (by omega) (by have := HL.out; omega) (ownsR_in (marksR_length 1 M).symm o1)).mono ?_
      rintro e w13 ⟨rfl, hbe⟩
      have r0 := r0.below hbe r0.lt
      have r8 := r8.below hbe r8.lt
      have r10 := r10.below hbe r10.lt
      have o0 := ownsR_below o0 hbe
      have o1 := ownsR_below o1 hbe
      have hB := hB.trans (hbe.mono hB.size)
      clear hbe s0
      have dN : decide (((1 : Nat) : Int) + 9 * (M : Int) < 0) = false := by simp; omega
      have dM : ((((1 : Nat) : Int) + 9 * (M : Int)) != (((1 : Nat) : Int) + 9 * (M : Int))) = false := by simp
      have x0 : w13.cell? ⟨w.heap.size, 0, none⟩ = some (.slice x N cap) := r0.cell 0
      go_wp2_with fail
      refine (HT.out _ (HX.out.below hB)).mono ?_
      rintro e w20 ⟨g20, rfl, _, rr, hb20⟩
      have r0 := r0.below hb20 r0.lt
      have r8 := r8.below hb20 r8.lt
      have r10 := r10.below hb20 r10.lt
      have o0 := ownsR_below o0 hb20
      have o1 := ownsR_below o1 hb20
      have hB := hB.trans (hb20.mono hB.size)
      clear hb20 x0
      go_wp2_with fail
      refine (HI.out g20 _ rr).mono ?_
      rintro e w21 ⟨⟨q2, c2, rfl, o2⟩, hb21⟩
      have r8 := r8.below hb21 r8.lt
      have r10 := r10.below hb21 r10.lt
      have o0 := ownsR_below o0 hb21
      have o1 := ownsR_below o1 hb21
      have hB := hB.trans (hb21.mono hB.size)
      clear hb21 rr r0
      have r8 := r8.alloc (.cells #[.slice q2 M c2] 30)
      have r10 := r10.alloc (.cells #[.slice q2 M c2] 30)
      have o0 := World.ownsRow.alloc o0 (.cells #[.slice q2 M c2] 30)
      have o1 := World.ownsRow.alloc o1 (.cells #[.slice q2 M c2] 30)
      have o2 := World.ownsRow.alloc o2 (.cells #[.slice q2 M c2] 30)
      have r14 := Row.new w21 30 [.slice q2 M c2]
      have hB := hB.alloc hB.size (.cells #[.slice q2 M c2] 30)
      have s0 : (w21.alloc (.cells #[.slice q2 M c2] 30)).cell? ⟨w21.heap.size, 0, none⟩ = some (.slice q2 M c2) := r14.cell 0
      have t0 : (w21.alloc (.cells #[.slice q2 M c2] 30)).cell? ⟨b8, 0, none⟩ = some (.slice q0 M c0) := r8.cell 0
      have HA : Hid _ := And.intro r8 (And.intro r10 (And.intro o0 (And.intro o1 (And.intro o2 (And.intro r14 (hB))))))
      clear r8 r10 o0 o1 o2 r14 hB
      go_wp2_with fail
      generalize hbx : w21.heap.size = b14 at *
      generalize w21.alloc (.cells #[.slice q2 M c2] 30) = Z14 at *
      clear hbx
      obtain ⟨r8, r10, o0, o1, o2, r14, hB⟩ := HA.out
      clear HA s0 t0
      refine (HQ2.out q2 q0 c2 c0 Z14 (ownsR_in HM.out o2) (ownsR_in HM.out o0)).mono ?_
      rintro e w15 ⟨rfl, hbe⟩
      have r10 := r10.below hbe r10.lt
      have o1 := ownsR_below o1 hbe
      have hB := hB.trans (hbe.mono hB.size)
      clear hbe
      have s0 : w15.cell? ⟨b10, 0, none⟩ = some (.slice q1 M c1) := r10.cell 0
      go_wp2_with fail
      refine (heldRib_any 1 q1 M c1 w15 (by omega) (by have := HL.out; omega) (ownsR_in (marksR_length 1 M).symm o1)).mono ?_
      rintro e w16 ⟨rfl, hb16⟩
      have hB := hB.trans (hb16.mono hB.size)
      clear hb16 s0
      go_wp2
      go_ret
      exact ⟨rfl, hB⟩
  · rw [if_neg hn] at HZ
    unfold ribV at *
    go_enter Try.func6, Try.ntmps6
    go_wp2_with fail
    refine (HZ.out _).mono ?_
    rintro e w1 ⟨rfl, hb1⟩
    obtain ⟨r0, hB⟩ := one_box w [.slice x rs.length cap] 24 hb1
    clear hb1
    go_wp2
    go_ret
    exact ⟨rfl, hB⟩
end Go.Proofs.Ytaledidomgelcaa
