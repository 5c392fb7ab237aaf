/- RibBest of the model. (Written by gen_bests.py.) -/
import Derived.Test.YtkkhjeigndcmaabBestM
import Derived.Test.YtkkhjeigndcmaabCoverL
namespace Go.Proofs.Ytkkhjeigndcmaab
open Go.RowKit Go.Sort

theorem take_nextR {rs : List Rt} {k : Nat} (hk : k < rs.length) : rs.take (k + 1) = rs.take k ++ [rs[k]] := by simp
set_option maxRecDepth 100000 in
set_option maxHeartbeats 2000000 in
theorem specBest_any (p : Option Addr) (cap : Nat) (rs : List Rt) (x : Int) (w : World) (h : RtsIn w p rs) (hn : rs.length ≤ 100000000) :
    Calls Try.prog 15 #[ribV p rs.length cap, .int .i64 x] w fun e w' => e = .returned (rtV (bestR rs x)) ∧ Below w.heap.size w w' := by
  have HB : Hid (∀ w, RtsIn w p rs → Calls Try.prog 30 #[.agg #[.slice p rs.length cap]] w fun e w' => e = .returned (.bool (ribB rs)) ∧ Below w.heap.size w w') := fun w h => specRib_any p cap rs w h hn
  have HA : Hid (∀ w, Calls Try.prog 37 #[.int .i64 x] w fun e w' => e = .returned (.bool (inAddr x)) ∧ w = w') := fun w => l03Addr_any x w
  have HX : Hid (RtsIn w p rs) := h
  clear h
  obtain ⟨W, hW, q1, q2, q3, hB, hS, -⟩ := rows3 w [.slice p rs.length cap] [.int .i64 0, .int .i64 0, .int .i64 0, .int .i64 0, .int .i64 0, .int .i64 0, .int .i64 0, .int .i64 0, .bool false] [.int .i64 0, .int .i64 0, .int .i64 0, .int .i64 0, .int .i64 0, .int .i64 0, .int .i64 0, .int .i64 0, .bool false] 34 30 30
  unfold ribV
  have HW : Hid _ := hW
  have HQ : Hid _ := And.intro q1 (And.intro q2 (And.intro q3 (And.intro hB hS)))
  clear q1 q2 q3 hB hS hW
  go_enter Try.func15, Try.ntmps15
  go_wp2_with fail
  rw [← HW.out]
  refine (HB.out _ ((HX.out).below (HQ.out).2.2.2.1)).mono ?_
  rintro e w1 ⟨rfl, hb1⟩
  clear HB HW
  obtain ⟨q1, q2, q3, hB, hS⟩ := HQ.out
  have q1 := q1.below hb1 q1.lt
  have q2 := q2.below hb1 q2.lt
  have q3 := q3.below hb1 q3.lt
  have hB := hB.trans (hb1.mono hB.size)
  clear HQ hb1 hS
  by_cases hr : ribB rs = true
  · rw [hr]
    by_cases hx : inAddr x = true
    · rw [hx] at HA
      have HE : Hid _ := And.intro q1 (And.intro q2 (And.intro q3 hB))
      clear q1 q2 q3 hB
      go_wp2_with fail
      refine (HA.out _).mono ?_
      rintro e w2 ⟨rfl, rfl⟩
      clear HA
      go_wp2_with fail
      have hN : ∀ k (hk : k < rs.length), foundU x (rs.take k) = true → useB x rs[k] = true → (lastU x (rs.take k)).l < (rs[k]).l := fun k hk => best_next (rib_rising hr) hk
      have HN : Hid _ := hN
      have HV : Hid (∀ k (hk : k < rs.length), useB x rs[k] = (decide ((rs[k]).m < 16) && (cutV x (rs[k]).l == (rs[k]).a))) := fun k hk => useB_right hr hx hk
      have HL : Hid (∀ k (hk : k < rs.length), 0 ≤ (rs[k]).l ∧ (rs[k]).l ≤ 32) := fun k hk => right_len hr hk
      have HR : Hid (bestR rs x = lastU x rs) := by show _ = _; unfold bestR; rw [if_pos hr]
      have HC : Hid (∀ a l w, 0 ≤ l → l ≤ 32 → Calls Try.prog 38 #[.agg #[.int .i64 a, .int .i64 l], .int .i64 x] w fun e w' => e = .returned (.bool (cutV x l == a)) ∧ Below w.heap.size w w') := fun a l w h0 h1 => by
        have hx2 : 0 ≤ x ∧ x ≤ 4294967295 := by simpa [inAddr] using hx
        exact l03Covers_any a l x w hx2.1 hx2.2 h0 h1
      clear hN hr hx
      go_loopw [6, 7] (fun f i wr => ∃ k : Nat, k ≤ rs.length ∧ f = .bool (foundU x (rs.take k)) ∧ i = .int .i64 k ∧ Row wr w.heap.size 34 [.slice p rs.length cap] ∧ Row wr (w.heap.size + 1) 30 (rtL zeroR) ∧ Row wr (w.heap.size + 1 + 1) 30 (rtL (lastU x (rs.take k))) ∧ Below w.heap.size w wr) (fun _ i _ => rs.length - (intOf i).toNat)
      case atStart => exact ⟨0, Nat.zero_le _, rfl, rfl, (HE.out).1, (HE.out).2.1, (HE.out).2.2.1, (HE.out).2.2.2⟩
      case round =>
        clear HE
        obtain ⟨k, hk, rfl, rfl, q1, q2, q3, hB⟩ := hrel
        have x0 : wr.cell? ⟨w.heap.size, 0, none⟩ = some (.slice p rs.length cap) := q1.cell 0
        by_cases hlt : k < rs.length
        · have d1 : decide ((k : Int) < (rs.length : Int)) = true := by simpa using hlt
          obtain ⟨g, A, L, M, O, I, T, U, E, C, rfl, hg, hek, c0, c1, c2, c3, c4, c5, c6, c7, c8⟩ := (HX.out.below hB).at k hlt
          have HS : Hid (foundU x (rs.take (k + 1)) = (foundU x (rs.take k) || useB x ⟨A, L, M, O, I, T, U, E, C⟩) ∧ lastU x (rs.take (k + 1)) = if useB x ⟨A, L, M, O, I, T, U, E, C⟩ = true then ⟨A, L, M, O, I, T, U, E, C⟩ else lastU x (rs.take k)) := by
            show _ ∧ _
            rw [take_nextR hlt, foundU_next, lastU_next, hek]
            exact ⟨rfl, rfl⟩
          have HV' : Hid (useB x ⟨A, L, M, O, I, T, U, E, C⟩ = (decide (M < 16) && (cutV x L == A))) := by
            have := (HV.out) k hlt
            rw [hek] at this
            exact this
          have HL' : Hid (0 ≤ L ∧ L ≤ 32) := by
            have := (HL.out) k hlt
            rw [hek] at this
            exact this
          have HN' : Hid (foundU x (rs.take k) = true → useB x ⟨A, L, M, O, I, T, U, E, C⟩ = true → (lastU x (rs.take k)).l < L) := by
            have := (HN.out) k hlt
            rw [hek] at this
            exact this
          have HK : Hid (k < rs.length) := hlt
          clear hek HV HL HN hlt hk
          generalize lastU x (rs.take k) = Z at *
          generalize foundU x (rs.take k) = F at *
          have HE : Hid _ := And.intro q1 (And.intro q2 (And.intro q3 hB))
          clear q1 q2 q3 hB
          go_wp2_with fail
          · have Hm : Hid (M < 16) := by assumption
            refine (HC.out A L _ (HL'.out).1 (HL'.out).2).mono ?_
            rintro e w2 ⟨rfl, hb⟩
            obtain ⟨q1, q2, q3, hB⟩ := HE.out
            have q4 := (Row.new wr 30 [.int .i64 A, .int .i64 L, .int .i64 M, .int .i64 O, .int .i64 I, .int .i64 T, .int .i64 U, .int .i64 E, .bool C]).below hb (by simp)
            have q1 := (q1.alloc (.cells #[.int .i64 A, .int .i64 L, .int .i64 M, .int .i64 O, .int .i64 I, .int .i64 T, .int .i64 U, .int .i64 E, .bool C] 30)).below hb (by have := q1.lt; simp; omega)
            have q2 := (q2.alloc (.cells #[.int .i64 A, .int .i64 L, .int .i64 M, .int .i64 O, .int .i64 I, .int .i64 T, .int .i64 U, .int .i64 E, .bool C] 30)).below hb (by have := q2.lt; simp; omega)
            have q3 := (q3.alloc (.cells #[.int .i64 A, .int .i64 L, .int .i64 M, .int .i64 O, .int .i64 I, .int .i64 T, .int .i64 U, .int .i64 E, .bool C] 30)).below hb (by have := q3.lt; simp; omega)
            have hB := hB.trans (((ent_new0 wr (.cells #[.int .i64 A, .int .i64 L, .int .i64 M, .int .i64 O, .int .i64 I, .int .i64 T, .int .i64 U, .int .i64 E, .bool C] 30)).trans (hb.mono (by simp))).mono hB.size)
            clear HE c0 c1 c2 c3 c4 c5 c6 c7 c8 x0 HL' hb hg HC
            generalize wr.heap.size = b at *
            have x0 : w2.cell? ⟨b, 0, none⟩ = some (.int .i64 A) := q4.cell 0
            have x1 : w2.cell? ⟨b, 1, none⟩ = some (.int .i64 L) := q4.cell 1
            have x2 : w2.cell? ⟨b, 2, none⟩ = some (.int .i64 M) := q4.cell 2
            have x3 : w2.cell? ⟨b, 3, none⟩ = some (.int .i64 O) := q4.cell 3
            have x4 : w2.cell? ⟨b, 4, none⟩ = some (.int .i64 I) := q4.cell 4
            have x5 : w2.cell? ⟨b, 5, none⟩ = some (.int .i64 T) := q4.cell 5
            have x6 : w2.cell? ⟨b, 6, none⟩ = some (.int .i64 U) := q4.cell 6
            have x7 : w2.cell? ⟨b, 7, none⟩ = some (.int .i64 E) := q4.cell 7
            have x8 : w2.cell? ⟨b, 8, none⟩ = some (.bool C) := q4.cell 8
            have y0 : w2.cell? ⟨w.heap.size + 1 + 1, 0, none⟩ = some (.int .i64 Z.a) := q3.cell 0
            have y1 : w2.cell? ⟨w.heap.size + 1 + 1, 1, none⟩ = some (.int .i64 Z.l) := q3.cell 1
            have y2 : w2.cell? ⟨w.heap.size + 1 + 1, 2, none⟩ = some (.int .i64 Z.m) := q3.cell 2
            have y3 : w2.cell? ⟨w.heap.size + 1 + 1, 3, none⟩ = some (.int .i64 Z.n) := q3.cell 3
            have y4 : w2.cell? ⟨w.heap.size + 1 + 1, 4, none⟩ = some (.int .i64 Z.i) := q3.cell 4
            have y5 : w2.cell? ⟨w.heap.size + 1 + 1, 5, none⟩ = some (.int .i64 Z.t) := q3.cell 5
            have y6 : w2.cell? ⟨w.heap.size + 1 + 1, 6, none⟩ = some (.int .i64 Z.u) := q3.cell 6
            have y7 : w2.cell? ⟨w.heap.size + 1 + 1, 7, none⟩ = some (.int .i64 Z.b) := q3.cell 7
            have y8 : w2.cell? ⟨w.heap.size + 1 + 1, 8, none⟩ = some (.bool Z.c) := q3.cell 8
            have f0 : w2.frozen? ⟨w.heap.size + 1 + 1, 0, none⟩ = false := q3.frozen 0
            have f1 : w2.frozen? ⟨w.heap.size + 1 + 1, 1, none⟩ = false := q3.frozen 1
            have f2 : w2.frozen? ⟨w.heap.size + 1 + 1, 2, none⟩ = false := q3.frozen 2
            have f3 : w2.frozen? ⟨w.heap.size + 1 + 1, 3, none⟩ = false := q3.frozen 3
            have f4 : w2.frozen? ⟨w.heap.size + 1 + 1, 4, none⟩ = false := q3.frozen 4
            have f5 : w2.frozen? ⟨w.heap.size + 1 + 1, 5, none⟩ = false := q3.frozen 5
            have f6 : w2.frozen? ⟨w.heap.size + 1 + 1, 6, none⟩ = false := q3.frozen 6
            have f7 : w2.frozen? ⟨w.heap.size + 1 + 1, 7, none⟩ = false := q3.frozen 7
            have f8 : w2.frozen? ⟨w.heap.size + 1 + 1, 8, none⟩ = false := q3.frozen 8
            have HE : Hid _ := And.intro q1 (And.intro q2 (And.intro q3 hB))
            have HF : Hid (Row (nineV w2 (w.heap.size + 1 + 1) ⟨A, L, M, O, I, T, U, E, C⟩) w.heap.size 34 [.slice (some ⟨g, 0, none⟩) rs.length cap] ∧ Row (nineV w2 (w.heap.size + 1 + 1) ⟨A, L, M, O, I, T, U, E, C⟩) (w.heap.size + 1) 30 (rtL zeroR) ∧ Row (nineV w2 (w.heap.size + 1 + 1) ⟨A, L, M, O, I, T, U, E, C⟩) (w.heap.size + 1 + 1) 30 (rtL ⟨A, L, M, O, I, T, U, E, C⟩) ∧ Below w.heap.size w (nineV w2 (w.heap.size + 1 + 1) ⟨A, L, M, O, I, T, U, E, C⟩)) := ⟨nineV_other _ q1 (by omega), nineV_other _ q2 (by omega), nineV_row _ _ q3, nineV_below hB _ (by omega) _⟩
            clear q1 q2 q3 q4 hB
            cases hc : cutV x L == A
            · have hu : useB x ⟨A, L, M, O, I, T, U, E, C⟩ = false := by rw [HV'.out, hc]; simp
              rw [hu] at HS HN'
              clear HV' hu hc HF
              go_wp2_with fail
              obtain ⟨q1, q2, q3, hB⟩ := HE.out
              have hS1 : foundU x (rs.take (k + 1)) = F := by rw [(HS.out).1]; simp
              have hS2 : lastU x (rs.take (k + 1)) = Z := by rw [(HS.out).2]; simp
              refine ⟨⟨k + 1, HK.out, by rw [hS1], by simp, q1, q2, by rw [hS2]; exact q3, hB⟩, by have := HK.out; simp [intOf]; omega⟩
            · have hu : useB x ⟨A, L, M, O, I, T, U, E, C⟩ = true := by rw [HV'.out, hc]; simp [Hm.out]
              rw [hu] at HS HN'
              have hS1 : foundU x (rs.take (k + 1)) = true := by rw [(HS.out).1]; simp
              have hS2 : lastU x (rs.take (k + 1)) = ⟨A, L, M, O, I, T, U, E, C⟩ := by rw [(HS.out).2]; simp
              have HS' : Hid _ := And.intro hS1 hS2
              clear HV' hu hc HE HS hS1 hS2
              cases F
              · clear HN'
                go_wp2_with fail
                obtain ⟨q1, q2, q3, hB⟩ := HF.out
                refine ⟨⟨k + 1, HK.out, by rw [(HS'.out).1], by simp, q1, q2, by rw [(HS'.out).2]; exact q3, hB⟩, by have := HK.out; simp [intOf]; omega⟩
              · have hlt := (HN'.out) rfl rfl
                have d2 : decide (Z.l < L) = true := by simpa using hlt
                clear HN'
                go_wp2_with fail
                obtain ⟨q1, q2, q3, hB⟩ := HF.out
                refine ⟨⟨k + 1, HK.out, by rw [(HS'.out).1], by simp, q1, q2, by rw [(HS'.out).2]; exact q3, hB⟩, by have := HK.out; simp [intOf]; omega⟩
          · have Hm : Hid (¬ M < 16) := by assumption
            have hu : useB x ⟨A, L, M, O, I, T, U, E, C⟩ = false := by have := Hm.out; rw [HV'.out]; simp; omega
            rw [hu] at HS
            have hS1 : foundU x (rs.take (k + 1)) = F := by rw [(HS.out).1]; simp
            have hS2 : lastU x (rs.take (k + 1)) = Z := by rw [(HS.out).2]; simp
            obtain ⟨q1, q2, q3, hB⟩ := HE.out
            refine ⟨⟨k + 1, HK.out, by rw [hS1], by simp, q1.alloc _, q2.alloc _, by rw [hS2]; exact q3.alloc _, hB.alloc hB.size _⟩, by have := HK.out; simp [intOf]; omega⟩
        · obtain rfl : k = rs.length := by omega
          have d1 : decide ((rs.length : Int) < (rs.length : Int)) = false := by simp
          rw [List.take_length] at q3 ⊢
          generalize lastU x rs = Z at *
          obtain ⟨A, L, M, O, I, T, U, E, C⟩ := Z
          simp only [rtL, zeroR] at q2 q3
          clear hlt hk HN HV HL HC HX q1
          have x0 : wr.cell? ⟨w.heap.size + 1 + 1, 0, none⟩ = some (.int .i64 A) := q3.cell 0
          have x1 : wr.cell? ⟨w.heap.size + 1 + 1, 1, none⟩ = some (.int .i64 L) := q3.cell 1
          have x2 : wr.cell? ⟨w.heap.size + 1 + 1, 2, none⟩ = some (.int .i64 M) := q3.cell 2
          have x3 : wr.cell? ⟨w.heap.size + 1 + 1, 3, none⟩ = some (.int .i64 O) := q3.cell 3
          have x4 : wr.cell? ⟨w.heap.size + 1 + 1, 4, none⟩ = some (.int .i64 I) := q3.cell 4
          have x5 : wr.cell? ⟨w.heap.size + 1 + 1, 5, none⟩ = some (.int .i64 T) := q3.cell 5
          have x6 : wr.cell? ⟨w.heap.size + 1 + 1, 6, none⟩ = some (.int .i64 U) := q3.cell 6
          have x7 : wr.cell? ⟨w.heap.size + 1 + 1, 7, none⟩ = some (.int .i64 E) := q3.cell 7
          have x8 : wr.cell? ⟨w.heap.size + 1 + 1, 8, none⟩ = some (.bool C) := q3.cell 8
          have z0 : wr.cell? ⟨w.heap.size + 1, 0, none⟩ = some (.int .i64 0) := q2.cell 0
          have z1 : wr.cell? ⟨w.heap.size + 1, 1, none⟩ = some (.int .i64 0) := q2.cell 1
          have z2 : wr.cell? ⟨w.heap.size + 1, 2, none⟩ = some (.int .i64 0) := q2.cell 2
          have z3 : wr.cell? ⟨w.heap.size + 1, 3, none⟩ = some (.int .i64 0) := q2.cell 3
          have z4 : wr.cell? ⟨w.heap.size + 1, 4, none⟩ = some (.int .i64 0) := q2.cell 4
          have z5 : wr.cell? ⟨w.heap.size + 1, 5, none⟩ = some (.int .i64 0) := q2.cell 5
          have z6 : wr.cell? ⟨w.heap.size + 1, 6, none⟩ = some (.int .i64 0) := q2.cell 6
          have z7 : wr.cell? ⟨w.heap.size + 1, 7, none⟩ = some (.int .i64 0) := q2.cell 7
          have z8 : wr.cell? ⟨w.heap.size + 1, 8, none⟩ = some (.bool false) := q2.cell 8
          have f0 : wr.frozen? ⟨w.heap.size + 1, 0, none⟩ = false := q2.frozen 0
          have f1 : wr.frozen? ⟨w.heap.size + 1, 1, none⟩ = false := q2.frozen 1
          have f2 : wr.frozen? ⟨w.heap.size + 1, 2, none⟩ = false := q2.frozen 2
          have f3 : wr.frozen? ⟨w.heap.size + 1, 3, none⟩ = false := q2.frozen 3
          have f4 : wr.frozen? ⟨w.heap.size + 1, 4, none⟩ = false := q2.frozen 4
          have f5 : wr.frozen? ⟨w.heap.size + 1, 5, none⟩ = false := q2.frozen 5
          have f6 : wr.frozen? ⟨w.heap.size + 1, 6, none⟩ = false := q2.frozen 6
          have f7 : wr.frozen? ⟨w.heap.size + 1, 7, none⟩ = false := q2.frozen 7
          have f8 : wr.frozen? ⟨w.heap.size + 1, 8, none⟩ = false := q2.frozen 8
          have HF : Hid (Row (nineV wr (w.heap.size + 1) ⟨A, L, M, O, I, T, U, E, C⟩) (w.heap.size + 1) 30 (rtL ⟨A, L, M, O, I, T, U, E, C⟩) ∧ Below w.heap.size w (nineV wr (w.heap.size + 1) ⟨A, L, M, O, I, T, U, E, C⟩)) := ⟨nineV_row _ zeroR q2, nineV_below hB _ (by omega) _⟩
          clear q2 q3 hB
          go_wp2_with fail
          have hF := HF.out
          clear HF x0 x1 x2 x3 x4 x5 x6 x7 x8 z0 z1 z2 z3 z4 z5 z6 z7 z8 f0 f1 f2 f3 f4 f5 f6 f7 f8
          unfold nineV nine0 at hF
          simp only at hF
          generalize (((((((((wr.setCell ⟨w.heap.size + 1, 0, none⟩ (.int .i64 A)).setCell ⟨w.heap.size + 1, 1, none⟩ (.int .i64 L)).setCell ⟨w.heap.size + 1, 2, none⟩ (.int .i64 M)).setCell ⟨w.heap.size + 1, 3, none⟩ (.int .i64 O)).setCell ⟨w.heap.size + 1, 4, none⟩ (.int .i64 I)).setCell ⟨w.heap.size + 1, 5, none⟩ (.int .i64 T)).setCell ⟨w.heap.size + 1, 6, none⟩ (.int .i64 U)).setCell ⟨w.heap.size + 1, 7, none⟩ (.int .i64 E)).setCell ⟨w.heap.size + 1, 8, none⟩ (.bool C)) = Y at *
          obtain ⟨h1, h2⟩ := hF
          have e0 : Y.cell? ⟨w.heap.size + 1, 0, none⟩ = some (.int .i64 A) := h1.cell 0
          have e1 : Y.cell? ⟨w.heap.size + 1, 1, none⟩ = some (.int .i64 L) := h1.cell 1
          have e2 : Y.cell? ⟨w.heap.size + 1, 2, none⟩ = some (.int .i64 M) := h1.cell 2
          have e3 : Y.cell? ⟨w.heap.size + 1, 3, none⟩ = some (.int .i64 O) := h1.cell 3
          have e4 : Y.cell? ⟨w.heap.size + 1, 4, none⟩ = some (.int .i64 I) := h1.cell 4
          have e5 : Y.cell? ⟨w.heap.size + 1, 5, none⟩ = some (.int .i64 T) := h1.cell 5
          have e6 : Y.cell? ⟨w.heap.size + 1, 6, none⟩ = some (.int .i64 U) := h1.cell 6
          have e7 : Y.cell? ⟨w.heap.size + 1, 7, none⟩ = some (.int .i64 E) := h1.cell 7
          have e8 : Y.cell? ⟨w.heap.size + 1, 8, none⟩ = some (.bool C) := h1.cell 8
          refine bodyPost_ret (v := .agg #[.int .i64 A, .int .i64 L, .int .i64 M, .int .i64 O, .int .i64 I, .int .i64 T, .int .i64 U, .int .i64 E, .bool C]) (by simp [results, Try.results15, go_sem, e0, e1, e2, e3, e4, e5, e6, e7, e8]) rfl ⟨by rw [HR.out]; rfl, h2⟩
    · have hx' : inAddr x = false := by simpa using hx
      rw [hx'] at HA
      have HR : Hid (bestR rs x = zeroR) := by show _ = _; unfold bestR; rw [if_pos hr, lastU_out hx']
      clear hx hx' hr HX
      have HE : Hid _ := And.intro q2 (And.intro q3 hB)
      clear q1 q2 q3 hB
      go_wp2_with fail
      refine (HA.out _).mono ?_
      rintro e w2 ⟨rfl, rfl⟩
      obtain ⟨q2, q3, hB⟩ := HE.out
      clear HA HE
      have x0 : w1.cell? ⟨w.heap.size + 1 + 1, 0, none⟩ = some (.int .i64 0) := q3.cell 0
      have x1 : w1.cell? ⟨w.heap.size + 1 + 1, 1, none⟩ = some (.int .i64 0) := q3.cell 1
      have x2 : w1.cell? ⟨w.heap.size + 1 + 1, 2, none⟩ = some (.int .i64 0) := q3.cell 2
      have x3 : w1.cell? ⟨w.heap.size + 1 + 1, 3, none⟩ = some (.int .i64 0) := q3.cell 3
      have x4 : w1.cell? ⟨w.heap.size + 1 + 1, 4, none⟩ = some (.int .i64 0) := q3.cell 4
      have x5 : w1.cell? ⟨w.heap.size + 1 + 1, 5, none⟩ = some (.int .i64 0) := q3.cell 5
      have x6 : w1.cell? ⟨w.heap.size + 1 + 1, 6, none⟩ = some (.int .i64 0) := q3.cell 6
      have x7 : w1.cell? ⟨w.heap.size + 1 + 1, 7, none⟩ = some (.int .i64 0) := q3.cell 7
      have x8 : w1.cell? ⟨w.heap.size + 1 + 1, 8, none⟩ = some (.bool false) := q3.cell 8
      have z0 : w1.cell? ⟨w.heap.size + 1, 0, none⟩ = some (.int .i64 0) := q2.cell 0
      have z1 : w1.cell? ⟨w.heap.size + 1, 1, none⟩ = some (.int .i64 0) := q2.cell 1
      have z2 : w1.cell? ⟨w.heap.size + 1, 2, none⟩ = some (.int .i64 0) := q2.cell 2
      have z3 : w1.cell? ⟨w.heap.size + 1, 3, none⟩ = some (.int .i64 0) := q2.cell 3
      have z4 : w1.cell? ⟨w.heap.size + 1, 4, none⟩ = some (.int .i64 0) := q2.cell 4
      have z5 : w1.cell? ⟨w.heap.size + 1, 5, none⟩ = some (.int .i64 0) := q2.cell 5
      have z6 : w1.cell? ⟨w.heap.size + 1, 6, none⟩ = some (.int .i64 0) := q2.cell 6
      have z7 : w1.cell? ⟨w.heap.size + 1, 7, none⟩ = some (.int .i64 0) := q2.cell 7
      have z8 : w1.cell? ⟨w.heap.size + 1, 8, none⟩ = some (.bool false) := q2.cell 8
      have f0 : w1.frozen? ⟨w.heap.size + 1, 0, none⟩ = false := q2.frozen 0
      have f1 : w1.frozen? ⟨w.heap.size + 1, 1, none⟩ = false := q2.frozen 1
      have f2 : w1.frozen? ⟨w.heap.size + 1, 2, none⟩ = false := q2.frozen 2
      have f3 : w1.frozen? ⟨w.heap.size + 1, 3, none⟩ = false := q2.frozen 3
      have f4 : w1.frozen? ⟨w.heap.size + 1, 4, none⟩ = false := q2.frozen 4
      have f5 : w1.frozen? ⟨w.heap.size + 1, 5, none⟩ = false := q2.frozen 5
      have f6 : w1.frozen? ⟨w.heap.size + 1, 6, none⟩ = false := q2.frozen 6
      have f7 : w1.frozen? ⟨w.heap.size + 1, 7, none⟩ = false := q2.frozen 7
      have f8 : w1.frozen? ⟨w.heap.size + 1, 8, none⟩ = false := q2.frozen 8
      have HF : Hid (Row (nineV w1 (w.heap.size + 1) zeroR) (w.heap.size + 1) 30 (rtL zeroR) ∧ Below w.heap.size w (nineV w1 (w.heap.size + 1) zeroR)) := ⟨nineV_row _ zeroR q2, nineV_below hB _ (by omega) _⟩
      clear q2 q3 hB
      go_wp2_with fail
      have hF := HF.out
      clear HF x0 x1 x2 x3 x4 x5 x6 x7 x8 z0 z1 z2 z3 z4 z5 z6 z7 z8 f0 f1 f2 f3 f4 f5 f6 f7 f8
      unfold nineV nine0 at hF
      simp only [zeroR] at hF
      generalize (((((((((w1.setCell ⟨w.heap.size + 1, 0, none⟩ (.int .i64 0)).setCell ⟨w.heap.size + 1, 1, none⟩ (.int .i64 0)).setCell ⟨w.heap.size + 1, 2, none⟩ (.int .i64 0)).setCell ⟨w.heap.size + 1, 3, none⟩ (.int .i64 0)).setCell ⟨w.heap.size + 1, 4, none⟩ (.int .i64 0)).setCell ⟨w.heap.size + 1, 5, none⟩ (.int .i64 0)).setCell ⟨w.heap.size + 1, 6, none⟩ (.int .i64 0)).setCell ⟨w.heap.size + 1, 7, none⟩ (.int .i64 0)).setCell ⟨w.heap.size + 1, 8, none⟩ (.bool false)) = Y at *
      obtain ⟨h1, h2⟩ := hF
      have e0 : Y.cell? ⟨w.heap.size + 1, 0, none⟩ = some (.int .i64 0) := h1.cell 0
      have e1 : Y.cell? ⟨w.heap.size + 1, 1, none⟩ = some (.int .i64 0) := h1.cell 1
      have e2 : Y.cell? ⟨w.heap.size + 1, 2, none⟩ = some (.int .i64 0) := h1.cell 2
      have e3 : Y.cell? ⟨w.heap.size + 1, 3, none⟩ = some (.int .i64 0) := h1.cell 3
      have e4 : Y.cell? ⟨w.heap.size + 1, 4, none⟩ = some (.int .i64 0) := h1.cell 4
      have e5 : Y.cell? ⟨w.heap.size + 1, 5, none⟩ = some (.int .i64 0) := h1.cell 5
      have e6 : Y.cell? ⟨w.heap.size + 1, 6, none⟩ = some (.int .i64 0) := h1.cell 6
      have e7 : Y.cell? ⟨w.heap.size + 1, 7, none⟩ = some (.int .i64 0) := h1.cell 7
      have e8 : Y.cell? ⟨w.heap.size + 1, 8, none⟩ = some (.bool false) := h1.cell 8
      refine bodyPost_ret (v := .agg #[.int .i64 0, .int .i64 0, .int .i64 0, .int .i64 0, .int .i64 0, .int .i64 0, .int .i64 0, .int .i64 0, .bool false]) (by simp [results, Try.results15, go_sem, e0, e1, e2, e3, e4, e5, e6, e7, e8]) rfl ⟨by rw [HR.out]; rfl, h2⟩
  · have hr' : ribB rs = false := by simpa using hr
    rw [hr']
    have HR : Hid (bestR rs x = zeroR) := by show _ = _; unfold bestR; rw [if_neg hr]
    clear hr hr' HX HA q1
    have x0 : w1.cell? ⟨w.heap.size + 1 + 1, 0, none⟩ = some (.int .i64 0) := q3.cell 0
    have x1 : w1.cell? ⟨w.heap.size + 1 + 1, 1, none⟩ = some (.int .i64 0) := q3.cell 1
    have x2 : w1.cell? ⟨w.heap.size + 1 + 1, 2, none⟩ = some (.int .i64 0) := q3.cell 2
    have x3 : w1.cell? ⟨w.heap.size + 1 + 1, 3, none⟩ = some (.int .i64 0) := q3.cell 3
    have x4 : w1.cell? ⟨w.heap.size + 1 + 1, 4, none⟩ = some (.int .i64 0) := q3.cell 4
    have x5 : w1.cell? ⟨w.heap.size + 1 + 1, 5, none⟩ = some (.int .i64 0) := q3.cell 5
    have x6 : w1.cell? ⟨w.heap.size + 1 + 1, 6, none⟩ = some (.int .i64 0) := q3.cell 6
    have x7 : w1.cell? ⟨w.heap.size + 1 + 1, 7, none⟩ = some (.int .i64 0) := q3.cell 7
    have x8 : w1.cell? ⟨w.heap.size + 1 + 1, 8, none⟩ = some (.bool false) := q3.cell 8
    have z0 : w1.cell? ⟨w.heap.size + 1, 0, none⟩ = some (.int .i64 0) := q2.cell 0
    have z1 : w1.cell? ⟨w.heap.size + 1, 1, none⟩ = some (.int .i64 0) := q2.cell 1
    have z2 : w1.cell? ⟨w.heap.size + 1, 2, none⟩ = some (.int .i64 0) := q2.cell 2
    have z3 : w1.cell? ⟨w.heap.size + 1, 3, none⟩ = some (.int .i64 0) := q2.cell 3
    have z4 : w1.cell? ⟨w.heap.size + 1, 4, none⟩ = some (.int .i64 0) := q2.cell 4
    have z5 : w1.cell? ⟨w.heap.size + 1, 5, none⟩ = some (.int .i64 0) := q2.cell 5
    have z6 : w1.cell? ⟨w.heap.size + 1, 6, none⟩ = some (.int .i64 0) := q2.cell 6
    have z7 : w1.cell? ⟨w.heap.size + 1, 7, none⟩ = some (.int .i64 0) := q2.cell 7
    have z8 : w1.cell? ⟨w.heap.size + 1, 8, none⟩ = some (.bool false) := q2.cell 8
    have f0 : w1.frozen? ⟨w.heap.size + 1, 0, none⟩ = false := q2.frozen 0
    have f1 : w1.frozen? ⟨w.heap.size + 1, 1, none⟩ = false := q2.frozen 1
    have f2 : w1.frozen? ⟨w.heap.size + 1, 2, none⟩ = false := q2.frozen 2
    have f3 : w1.frozen? ⟨w.heap.size + 1, 3, none⟩ = false := q2.frozen 3
    have f4 : w1.frozen? ⟨w.heap.size + 1, 4, none⟩ = false := q2.frozen 4
    have f5 : w1.frozen? ⟨w.heap.size + 1, 5, none⟩ = false := q2.frozen 5
    have f6 : w1.frozen? ⟨w.heap.size + 1, 6, none⟩ = false := q2.frozen 6
    have f7 : w1.frozen? ⟨w.heap.size + 1, 7, none⟩ = false := q2.frozen 7
    have f8 : w1.frozen? ⟨w.heap.size + 1, 8, none⟩ = false := q2.frozen 8
    have HF : Hid (Row (nineV w1 (w.heap.size + 1) zeroR) (w.heap.size + 1) 30 (rtL zeroR) ∧ Below w.heap.size w (nineV w1 (w.heap.size + 1) zeroR)) := ⟨nineV_row _ zeroR q2, nineV_below hB _ (by omega) _⟩
    clear q2 q3 hB
    go_wp2_with fail
    have hF := HF.out
    clear HF x0 x1 x2 x3 x4 x5 x6 x7 x8 z0 z1 z2 z3 z4 z5 z6 z7 z8 f0 f1 f2 f3 f4 f5 f6 f7 f8
    unfold nineV nine0 at hF
    simp only [zeroR] at hF
    generalize (((((((((w1.setCell ⟨w.heap.size + 1, 0, none⟩ (.int .i64 0)).setCell ⟨w.heap.size + 1, 1, none⟩ (.int .i64 0)).setCell ⟨w.heap.size + 1, 2, none⟩ (.int .i64 0)).setCell ⟨w.heap.size + 1, 3, none⟩ (.int .i64 0)).setCell ⟨w.heap.size + 1, 4, none⟩ (.int .i64 0)).setCell ⟨w.heap.size + 1, 5, none⟩ (.int .i64 0)).setCell ⟨w.heap.size + 1, 6, none⟩ (.int .i64 0)).setCell ⟨w.heap.size + 1, 7, none⟩ (.int .i64 0)).setCell ⟨w.heap.size + 1, 8, none⟩ (.bool false)) = Y at *
    obtain ⟨h1, h2⟩ := hF
    have e0 : Y.cell? ⟨w.heap.size + 1, 0, none⟩ = some (.int .i64 0) := h1.cell 0
    have e1 : Y.cell? ⟨w.heap.size + 1, 1, none⟩ = some (.int .i64 0) := h1.cell 1
    have e2 : Y.cell? ⟨w.heap.size + 1, 2, none⟩ = some (.int .i64 0) := h1.cell 2
    have e3 : Y.cell? ⟨w.heap.size + 1, 3, none⟩ = some (.int .i64 0) := h1.cell 3
    have e4 : Y.cell? ⟨w.heap.size + 1, 4, none⟩ = some (.int .i64 0) := h1.cell 4
    have e5 : Y.cell? ⟨w.heap.size + 1, 5, none⟩ = some (.int .i64 0) := h1.cell 5
    have e6 : Y.cell? ⟨w.heap.size + 1, 6, none⟩ = some (.int .i64 0) := h1.cell 6
    have e7 : Y.cell? ⟨w.heap.size + 1, 7, none⟩ = some (.int .i64 0) := h1.cell 7
    have e8 : Y.cell? ⟨w.heap.size + 1, 8, none⟩ = some (.bool false) := h1.cell 8
    refine bodyPost_ret (v := .agg #[.int .i64 0, .int .i64 0, .int .i64 0, .int .i64 0, .int .i64 0, .int .i64 0, .int .i64 0, .int .i64 0, .bool false]) (by simp [results, Try.results15, go_sem, e0, e1, e2, e3, e4, e5, e6, e7, e8]) rfl ⟨by rw [HR.out]; rfl, h2⟩
end Go.Proofs.Ytkkhjeigndcmaab
