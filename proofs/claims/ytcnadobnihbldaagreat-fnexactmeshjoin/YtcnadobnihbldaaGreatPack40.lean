/- Texts that stand on each other, in one file: AllAre, MTold, MWork, TurnM. -/
import Derived.Test.YtcnadobnihbldaaGreatPack38
import Derived.Test.YtcnadobnihbldaaGreatPack27
import Derived.Test.YtcnadobnihbldaaGreatPack6
import Derived.Test.YtcnadobnihbldaaGreatPack3
import Derived.Test.YtcnadobnihbldaaGreatPack29
/- Are both ends so already: by the program. (Written by gen_allare.py.) -/
namespace Go.Proofs.YtcnadobnihbldaaGreat
open Go.RowKit Go.Sort

theorem ifs_cell {w : World} {base n c : Nat} {p : Option Addr} {is : List If} (h : w.ownsRow base 53 5 (.slice p n c) n (rowI is)) (hn : n = is.length) (i : Nat) (hi : i < is.length) : ∃ g, p = some ⟨g, 0, none⟩ ∧ w.cell? ⟨g, i * 5 + 4, none⟩ = some (.bool is[i].u) := by
  obtain ⟨g, hg, _, _, _, hc⟩ := owns_cell h (by omega)
  refine ⟨g, hg, hc _ _ ?_⟩
  rw [rowI_get is i 4 hi (by omega)]
  rfl
theorem ptr_cell {w : World} {base n c : Nat} {p : Option Addr} {hs : List Nat} (h : w.ownsRow base 129 1 (.slice p n c) n (hs.map ptrV)) (hn : n = hs.length) (r : Nat) (hr : r < hs.length) : ∃ g, p = some ⟨g, 0, none⟩ ∧ w.cell? ⟨g, r, none⟩ = some (.pointer (some ⟨hs[r], 0, none⟩)) := by
  obtain ⟨g, hg, _, _, _, hc⟩ := owns_cell h (by omega)
  refine ⟨g, hg, hc _ _ ?_⟩
  rw [List.getElem?_map, List.getElem?_eq_getElem hr]
  rfl
/-- The way to the flag of an end. -/
theorem mwk_end {w : World} {base g : Nat} {hs : List Nat} {qs : List IvP} {ls : List Li} (h : MwkAt w base g hs qs ls) {r i : Nat} (hr : r < qs.length) (hi : i < qs[r].2.is.length) :
    ∃ gp N cr hh gx nn cc, w.cell? ⟨g, 0, none⟩ = some (.slice (some ⟨gp, 0, none⟩) N cr) ∧ (r < N ∧ decide ((r : Int) < (N : Int)) = true) ∧ w.cell? ⟨gp, r, none⟩ = some (.pointer (some ⟨hh, 0, none⟩)) ∧ w.cell? ⟨hh, 0, none⟩ = some (.slice (some ⟨gx, 0, none⟩) nn cc) ∧ (i < nn ∧ decide ((i : Int) < (nn : Int)) = true) ∧ w.cell? ⟨gx, i * 5 + 4, none⟩ = some (.bool qs[r].2.is[i].u) := by
  obtain ⟨pr, cr, q, d, hbg, rg, ho, hl, hR⟩ := h
  have hlen := hR.1
  obtain ⟨gp, rfl, p0⟩ := ptr_cell ho rfl r (by omega)
  obtain ⟨-, rh, oi, -⟩ := hR.2.2.2 r (by omega) hr
  obtain ⟨gx, ex, x0⟩ := ifs_cell oi rfl i hi
  have h0 : w.cell? ⟨hs[r], 0, none⟩ = some (.slice qs[r].1.x qs[r].2.is.length qs[r].1.c1) := rh.cell 0
  rw [ex] at h0
  exact ⟨gp, _, cr, _, gx, _, _, rg.cell 0, ⟨by omega, by simp; omega⟩, p0, h0, ⟨hi, by simp; omega⟩, x0⟩
set_option maxRecDepth 100000 in
set_option maxHeartbeats 4000000 in
theorem allAre_any (base g : Nat) (hs : List Nat) (qs : List IvP) (ls : List Li) (r i s j : Nat) (up : Bool) (w : World) (h : MwkAt w base g hs qs ls) (hr : r < qs.length) (hi : i < qs[r].2.is.length) (hs' : s < qs.length) (hj : j < qs[s].2.is.length) :
    Calls Tryz.prog 89 #[.pointer (some ⟨g, 0, none⟩), .agg #[.int .i64 (r : Int), .int .i64 (i : Int), .int .i64 (s : Int), .int .i64 (j : Int)], .bool up] w fun e w' => e = .returned (.bool ((qs[r].2.is[i].u == up) && (qs[s].2.is[j].u == up))) ∧ Below w.heap.size w w' := by
  have HX : Hid (MwkAt w base g hs qs ls) := h
  have HE0 : Hid (∀ W, MwkAt W base g hs qs ls → ∃ gp N cr hh gx nn cc, W.cell? ⟨g, 0, none⟩ = some (.slice (some ⟨gp, 0, none⟩) N cr) ∧ (r < N ∧ decide ((r : Int) < ((N : Nat) : Int)) = true) ∧ W.cell? ⟨gp, r, none⟩ = some (.pointer (some ⟨hh, 0, none⟩)) ∧ W.cell? ⟨hh, 0, none⟩ = some (.slice (some ⟨gx, 0, none⟩) nn cc) ∧ (i < nn ∧ decide ((i : Int) < ((nn : Nat) : Int)) = true) ∧ W.cell? ⟨gx, i * 5 + 4, none⟩ = some (.bool qs[r].2.is[i].u)) := fun W h => mwk_end h hr hi
  have HE1 : Hid (∀ W, MwkAt W base g hs qs ls → ∃ gp N cr hh gx nn cc, W.cell? ⟨g, 0, none⟩ = some (.slice (some ⟨gp, 0, none⟩) N cr) ∧ (s < N ∧ decide ((s : Int) < ((N : Nat) : Int)) = true) ∧ W.cell? ⟨gp, s, none⟩ = some (.pointer (some ⟨hh, 0, none⟩)) ∧ W.cell? ⟨hh, 0, none⟩ = some (.slice (some ⟨gx, 0, none⟩) nn cc) ∧ (j < nn ∧ decide ((j : Int) < ((nn : Nat) : Int)) = true) ∧ W.cell? ⟨gx, j * 5 + 4, none⟩ = some (.bool qs[s].2.is[j].u)) := fun W h => mwk_end h hs' hj
  have HB0 : Hid _ := ent_new0 w (.cells #[.int .i64 (r : Int), .int .i64 (i : Int), .int .i64 (s : Int), .int .i64 (j : Int)] 146)
  generalize qs[r].2.is[i].u = U1 at *
  generalize qs[s].2.is[j].u = U2 at *
  clear h hr hi hs' hj
  go_enter Tryz.func89, Tryz.ntmps89
  go_wp2_with fail
  go_loopw [10] (fun k wr => ∃ n : Nat, n ≤ 2 ∧ k = .int .i64 n ∧ (1 ≤ n → (U1 == up) = true) ∧ (2 ≤ n → (U2 == up) = true) ∧ Below w.heap.size w wr) (fun k _ => 2 - (intOf k).toNat)
  case atStart => exact ⟨0, by omega, rfl, fun h => absurd h (by omega), fun h => absurd h (by omega), HB0.out⟩
  case round =>
    obtain ⟨n, hn2, rfl, ha, hb, hB⟩ := hrel
    clear HB0
    obtain rfl | rfl | rfl : n = 0 ∨ n = 1 ∨ n = 2 := by omega
    · rw [show ((0 : Nat) : Int) = 0 from rfl]
      clear ha hb
      have hix := fun w => idx0_run (r : Int) (i : Int) (s : Int) (j : Int) w
      have hB2 := hB.alloc hB.size (.cells #[.int .i64 (r : Int), .int .i64 (i : Int)] 135)
      obtain ⟨gp, N, cr, hh, gx, nn, cc, g0, ⟨drn, dr⟩, p0, h0, ⟨din, di⟩, x0⟩ := HE0.out _ ((HX.out.below hB).below (ent_new0 wr (.cells #[.int .i64 (r : Int), .int .i64 (i : Int)] 135)))
      have re := Row.new wr 135 [.int .i64 (r : Int), .int .i64 (i : Int)]
      have e0 : (wr.alloc (.cells #[.int .i64 (r : Int), .int .i64 (i : Int)] 135)).cell? ⟨wr.heap.size, 0, none⟩ = some (.int .i64 (r : Int)) := re.cell 0
      have e1 : (wr.alloc (.cells #[.int .i64 (r : Int), .int .i64 (i : Int)] 135)).cell? ⟨wr.heap.size, 1, none⟩ = some (.int .i64 (i : Int)) := re.cell 1
      replace p0 := cell_regrown p0
      replace x0 := cell_regrown x0
      replace h0 := cell_regrown h0
      replace g0 := cell_regrown g0
      replace e0 := cell_regrown e0
      replace e1 := cell_regrown e1
      have HB : Hid _ := hB2
      clear hB2 re hB
      by_cases hu : U1 = up
      · have du : (U1 != up) = false := by simp [hu]
        have hgood : (U1 == up) = true := by simp [hu]
        clear hu
        go_wp2_with fail
        refine wp_region_quiet_below (by kernel_rfl) (by kernel_rfl) ?_
        repeat (go_big_quiet_step (fail))
        refine wpQuiet_nil ?_
        intro w3 hw'
        obtain ⟨⟨dq, osq⟩, hw''⟩ := hw'
        have hbq := below_regrown (wr.alloc (.cells #[.int .i64 (r : Int), .int .i64 (i : Int)] 135)) dq osq
        rw [← hw''] at hbq
        have hB := HB.out.trans (hbq.mono HB.out.size)
        clear hbq hw'' osq dq HB g0 p0 h0 x0 e0 e1
        go_wp2_with fail
        go_roundw
        case rel => exact ⟨1, by omega, by go_num, (fun _ => hgood), (fun h => absurd h (by omega)), hB⟩
        case measure => simp [intOf]
      · have du : (U1 != up) = true := by simpa using hu
        have du2 : (U1 == up) = false := by simpa using hu
        have hbad : ((U1 == up) && (U2 == up)) = false := by rw [show (U1 == up) = false by simpa using hu]; rfl
        clear hu
        go_wp2_with fail
        refine wp_region_quiet_below (by kernel_rfl) (by kernel_rfl) ?_
        repeat (go_big_quiet_step (fail))
        refine wpQuiet_nil ?_
        intro w3 hw'
        obtain ⟨⟨dq, osq⟩, hw''⟩ := hw'
        have hbq := below_regrown (wr.alloc (.cells #[.int .i64 (r : Int), .int .i64 (i : Int)] 135)) dq osq
        rw [← hw''] at hbq
        have hB := HB.out.trans (hbq.mono HB.out.size)
        clear hbq hw'' osq dq HB g0 p0 h0 x0 e0 e1
        go_wp2_with fail
        go_ret
        exact ⟨by first | rfl | (rw [hbad]; rfl), hB⟩
    · rw [show ((1 : Nat) : Int) = 1 from rfl]
      replace ha := ha (by omega)
      clear hb
      have hix := fun w => idx1_run (r : Int) (i : Int) (s : Int) (j : Int) w
      have hB2 := hB.alloc hB.size (.cells #[.int .i64 (s : Int), .int .i64 (j : Int)] 135)
      obtain ⟨gp, N, cr, hh, gx, nn, cc, g0, ⟨drn, dr⟩, p0, h0, ⟨din, di⟩, x0⟩ := HE1.out _ ((HX.out.below hB).below (ent_new0 wr (.cells #[.int .i64 (s : Int), .int .i64 (j : Int)] 135)))
      have re := Row.new wr 135 [.int .i64 (s : Int), .int .i64 (j : Int)]
      have e0 : (wr.alloc (.cells #[.int .i64 (s : Int), .int .i64 (j : Int)] 135)).cell? ⟨wr.heap.size, 0, none⟩ = some (.int .i64 (s : Int)) := re.cell 0
      have e1 : (wr.alloc (.cells #[.int .i64 (s : Int), .int .i64 (j : Int)] 135)).cell? ⟨wr.heap.size, 1, none⟩ = some (.int .i64 (j : Int)) := re.cell 1
      replace p0 := cell_regrown p0
      replace x0 := cell_regrown x0
      replace h0 := cell_regrown h0
      replace g0 := cell_regrown g0
      replace e0 := cell_regrown e0
      replace e1 := cell_regrown e1
      have HB : Hid _ := hB2
      clear hB2 re hB
      by_cases hu : U2 = up
      · have du : (U2 != up) = false := by simp [hu]
        have hgood : (U2 == up) = true := by simp [hu]
        clear hu
        go_wp2_with fail
        refine wp_region_quiet_below (by kernel_rfl) (by kernel_rfl) ?_
        repeat (go_big_quiet_step (fail))
        refine wpQuiet_nil ?_
        intro w3 hw'
        obtain ⟨⟨dq, osq⟩, hw''⟩ := hw'
        have hbq := below_regrown (wr.alloc (.cells #[.int .i64 (s : Int), .int .i64 (j : Int)] 135)) dq osq
        rw [← hw''] at hbq
        have hB := HB.out.trans (hbq.mono HB.out.size)
        clear hbq hw'' osq dq HB g0 p0 h0 x0 e0 e1
        go_wp2_with fail
        go_roundw
        case rel => exact ⟨2, by omega, by go_num, (fun _ => ha), (fun _ => hgood), hB⟩
        case measure => simp [intOf]
      · have du : (U2 != up) = true := by simpa using hu
        have du2 : (U2 == up) = false := by simpa using hu
        have hbad : ((U1 == up) && (U2 == up)) = false := by rw [show (U2 == up) = false by simpa using hu, Bool.and_false]
        clear hu
        go_wp2_with fail
        refine wp_region_quiet_below (by kernel_rfl) (by kernel_rfl) ?_
        repeat (go_big_quiet_step (fail))
        refine wpQuiet_nil ?_
        intro w3 hw'
        obtain ⟨⟨dq, osq⟩, hw''⟩ := hw'
        have hbq := below_regrown (wr.alloc (.cells #[.int .i64 (s : Int), .int .i64 (j : Int)] 135)) dq osq
        rw [← hw''] at hbq
        have hB := HB.out.trans (hbq.mono HB.out.size)
        clear hbq hw'' osq dq HB g0 p0 h0 x0 e0 e1
        go_wp2_with fail
        go_ret
        exact ⟨by first | rfl | (rw [hbad]; rfl), hB⟩
    · rw [show ((2 : Nat) : Int) = 2 from rfl]
      have hR : ((U1 == up) && (U2 == up)) = true := by rw [ha (by omega), hb (by omega)]; rfl
      clear ha hb HE0 HE1 HX
      go_wp2_with fail
      go_ret
      exact ⟨by first | rfl | (rw [hR]; rfl), hB⟩
end Go.Proofs.YtcnadobnihbldaaGreat
/- What a mesh at work tells. (Written by gen_mtold.py.) -/
namespace Go.Proofs.YtcnadobnihbldaaGreat
open Go.RowKit Go.Sort

theorem rowIv_one (qs : List IvP) : ∀ u ∈ rowIv qs, u.oneCell' = true := by
  intro u hu
  unfold rowIv at hu
  obtain ⟨x, _, hx⟩ := List.mem_flatMap.1 hu
  simp only [ivL, List.mem_cons, List.not_mem_nil, or_false] at hx
  rcases hx with rfl | rfl | rfl <;> rfl
/-- 'append(v, x)' of one Inst. -/
theorem wpList_append_iv {w : World} {ops : Array Oper} {rest : List Oper} {o : Oper} {a : Act} {Q : Exit → Act → World → Prop} (hgd : o.guard = none) (s x : Operand)
    (ho : o.op = .call { callee := .builtin .append, args := #[s, x], argTypes := #[23, 23] })
    (base : Nat) (v : Value) (n : Nat) (qs : List IvP) (hs : a.eval s = v) (hn : n = qs.length) (hown : w.ownsRow base 61 3 v n (rowIv qs)) (g c : Nat) (e : IvP) (hx : a.eval x = .slice (some ⟨g, 0, none⟩) 1 c) (hr : Row w g 61 (ivL e.1 e.2))
    (hlen : n ≤ 1000000) (hbase : base ≤ w.heap.size)
    (h : ∀ v' w', w'.ownsRow base 61 3 v' (n + 1) (rowIv (qs ++ [e])) → Below base w w' → (∀ b t l, t ≠ 61 → Row w b t l → Row w' b t l) → wpList Tryz.prog ops Q rest (a.put o.dst v') w') : wpList Tryz.prog ops Q (o :: rest) a w := by
  obtain ⟨i0, hi0, hz0, hz1, hz2⟩ := info_parts Tryz.infoIv
  subst hn
  refine wpList_append_own w hgd s x 23 ho base 61 i0 _ 3 56 Tryz.underlying23 hi0 hz0 hz1 hz2 rfl (by decide) v qs.length (rowIv qs) hs hown ⟨g, 0, none⟩ 1 c (ivL e.1 e.2) hx rfl ?_ ?_ ?_ ?_ hbase ?_
  · intro j u hj
    have ea : (⟨g, 0, none⟩ : Addr).add j = ⟨g, j, none⟩ := by unfold Addr.add; split <;> simp_all
    rw [ea, hr.cell]
    exact hj
  · intro u hu
    exact rowIv_one [e] u (by simpa [rowIv] using hu)
  · unfold maxLen; omega
  · omega
  · intro v' w' hown' hgrow _
    refine h v' w' ?_ ((Below.refl base w).grown hgrow hbase fun k hk => (World.ownsRow.lt hown k hk).1) ?_
    · rw [rowIv_append, show rowIv [e] = ivL e.1 e.2 by simp [rowIv]]
      exact hown'
    · intro b t l ht hb
      refine (hgrow.block b hb.lt (fun e2 => ?_)).trans hb
      rcases hown.2 with ⟨rfl, _⟩ | ⟨g', cap, cur', rfl, _, hg, _⟩
      · simp [Value.ownBlock] at e2
      · obtain rfl : b = g' := by simpa [Value.ownBlock] using e2
        rw [show w.heap[b]? = _ from hb] at hg
        simp only [Option.some.injEq, Obj.cells.injEq] at hg
        exact ht hg.2.1
theorem stab_oneIv (l : List Value) : ∀ (v : Value) (w1 w2 : World), (∃ g, v = .slice (some ⟨g, 0, none⟩) 1 1 ∧ Row w1 g 61 l) → Below w1.heap.size w1 w2 → ∃ g, v = .slice (some ⟨g, 0, none⟩) 1 1 ∧ Row w2 g 61 l := by
  rintro v w1 w2 ⟨g, e, h⟩ hb
  exact ⟨g, e, h.below hb h.lt⟩
theorem owns_shape {w : World} {base sz n : Nat} {ty : TypeId} {v : Value} {xs : List Value} (h : w.ownsRow base ty sz v n xs) : ∃ q c, v = .slice q n c := by
  rcases h.2 with ⟨h1, h2⟩ | ⟨g, cap, cur, h1, _⟩
  · exact ⟨none, 0, by rw [h1, h2]⟩
  · exact ⟨_, _, h1⟩
set_option maxRecDepth 100000 in
set_option maxHeartbeats 4000000 in
theorem mtold_any (base g : Nat) (hs : List Nat) (qs : List IvP) (ls : List Li) (w : World) (h : MwkAt w base g hs qs ls) (hbs : base ≤ w.heap.size) (hn : qs.length ≤ 100000) :
    Calls Tryz.prog 45 #[.pointer (some ⟨g, 0, none⟩)] w fun e w' => (∃ p c q d, e = .returned (.agg #[.slice p qs.length c, .slice q ls.length d, .int .i64 0]) ∧ OwnMesh w' base p qs.length c q ls.length d qs ls) ∧ Below w.heap.size w w' := by
  have HX : Hid (MwkAt w base g hs qs ls) := h
  obtain ⟨pr, cr, q, d, hbg, rg, ho, hl, hR⟩ := h
  have hlen := hR.1
  have g1 : w.cell? ⟨g, 1, none⟩ = some (.slice q ls.length d) := rg.cell 1
  have g0 : w.cell? ⟨g, 0, none⟩ = some (.slice pr hs.length cr) := rg.cell 0
  have hgl := rg.lt
  obtain ⟨W, hW, q0, q1, hB, hS⟩ : ∃ W, W = (w.alloc (.cells #[.slice none 0 0, .slice none 0 0, .int .i64 0] 28)).alloc (.cells #[.slice none 0 0, .slice q ls.length d] 26) ∧ Row W w.heap.size 28 [.slice none 0 0, .slice none 0 0, .int .i64 0] ∧ Row W (w.heap.size + 1) 26 [.slice none 0 0, .slice q ls.length d] ∧ Below w.heap.size w W ∧ W.heap.size = w.heap.size + 2 := by
    refine ⟨_, rfl, (Row.new w 28 [.slice none 0 0, .slice none 0 0, .int .i64 0]).alloc _, ?_, (ent_new0 w _).alloc (by simp) _, by simp⟩
    have := Row.new (w.alloc (.cells #[.slice none 0 0, .slice none 0 0, .int .i64 0] 28)) 26 [.slice none 0 0, .slice q ls.length d]
    simpa using this
  have HW : Hid _ := hW
  have HQ : Hid _ := And.intro q0 (And.intro q1 (And.intro hB hS))
  have G0 : W.cell? ⟨g, 0, none⟩ = some (.slice pr hs.length cr) := (rg.below hB rg.lt).cell 0
  have HG : Hid (∀ wr, Below w.heap.size w wr → wr.cell? ⟨g, 0, none⟩ = some (.slice pr hs.length cr)) := fun wr hb => (rg.below hb rg.lt).cell 0
  have HG1 : Hid (∀ wr, Below w.heap.size w wr → wr.cell? ⟨g, 1, none⟩ = some (.slice q ls.length d)) := fun wr hb => (rg.below hb rg.lt).cell 1
  clear hW q0 q1 hB hS hR ho hl rg
  go_enter Tryz.func45, Tryz.ntmps45
  go_wp2_with fail
  rw [← HW.out]
  clear g0 g1 G0
  go_loopw [16] (fun i wr => ∃ k : Nat, k ≤ qs.length ∧ i = .int .i64 k ∧ (∃ p c, Row wr (w.heap.size + 1) 26 [.slice p k c, .slice q ls.length d] ∧ wr.ownsRow w.heap.size 61 3 (.slice p k c) k (rowIv (qs.take k))) ∧ Row wr w.heap.size 28 [.slice none 0 0, .slice none 0 0, .int .i64 0] ∧ Below w.heap.size w wr ∧ w.heap.size + 2 ≤ wr.heap.size) (fun i _ => qs.length - (intOf i).toNat)
  case atStart =>
    obtain ⟨q0, q1, hB, hS⟩ := HQ.out
    exact ⟨0, Nat.zero_le _, rfl, ⟨none, 0, q1, World.ownsRow_nil _ _ _ 3⟩, q0, hB, by omega⟩
  case round =>
    clear HQ HW
    obtain ⟨k, hk, rfl, ⟨p, c, rm, ho⟩, rz, hB, hS⟩ := hrel
    by_cases hlt : k < qs.length
    · have dk : decide ((k : Int) < (qs.length : Int)) = true := by simpa using hlt
      obtain ⟨pr2, cr2, q2, d2, -, rg2, ho2, hl2, hR2⟩ := HX.out.below hB
      have e1 : pr2 = pr ∧ cr2 = cr := by
        have h1 : wr.cell? ⟨g, 0, none⟩ = some (.slice pr2 hs.length cr2) := rg2.cell 0
        rw [HG.out wr hB] at h1
        simp only [Option.some.injEq, Value.slice.injEq, true_and] at h1
        exact ⟨h1.1.symm, h1.2.symm⟩
      obtain ⟨rfl, rfl⟩ := e1
      obtain ⟨gp, rfl, p0⟩ := ptr_cell ho2 rfl k (by omega)
      obtain ⟨-, rh, -⟩ := hR2.2.2.2 k (by omega) hlt
      have hkl : k < hs.length := by omega
      generalize hhh : hs[k] = hh at *
      have r0 : wr.cell? ⟨hh, 0, none⟩ = some (.slice qs[k].1.x qs[k].2.is.length qs[k].1.c1) := rh.cell 0
      have r1 : wr.cell? ⟨hh, 1, none⟩ = some (.slice qs[k].1.y qs[k].2.rs.length qs[k].1.c2) := rh.cell 1
      have r2 : wr.cell? ⟨hh, 2, none⟩ = some (.int .i64 qs[k].2.now) := rh.cell 2
      have HNX : Hid (qs.take (k + 1) = qs.take k ++ [qs[k]]) := List.take_succ_eq_append_getElem hlt
      have HL : Hid ((qs.take k).length = k) := by show _ = _; rw [List.length_take]; omega
      have HE : Hid (ivL qs[k].1 qs[k].2 = [.slice qs[k].1.x qs[k].2.is.length qs[k].1.c1, .slice qs[k].1.y qs[k].2.rs.length qs[k].1.c2, .int .i64 qs[k].2.now]) := rfl
      clear rg2 ho2 hl2 hR2 hhh HG HG1
      generalize hqk : qs[k] = Q at *
      clear hqk
      generalize Q.1.x = qx at *
      generalize Q.1.y = qy at *
      generalize Q.1.c1 = qc1 at *
      generalize Q.1.c2 = qc2 at *
      generalize Q.2.is.length = qn1 at *
      generalize Q.2.rs.length = qn2 at *
      generalize Q.2.now = qw at *
      go_wp2_with fail
      clear p0
      have hGN : (([(20, Is (.pointer (some ⟨w.heap.size + 1, 0, none⟩))), (21, Is (.slice p k c)), (22, Is (.pointer (some ⟨hh, 0, none⟩))), (23, Is (.pointer (some ⟨hh, 0, none⟩))), (24, Is (.pointer (some ⟨hh, 0, none⟩))), (25, Is (.agg #[.slice qx qn1 qc1, .slice qy qn2 qc2, .int .i64 qw])), (26, fun v W => ∃ g, v = .slice (some ⟨g, 0, none⟩) 1 1 ∧ Row W g 61 [.slice qx qn1 qc1, .slice qy qn2 qc2, .int .i64 qw])] : List (Nat × (Value → World → Prop))).map (·.1)).Nodup := by simp
      refine wp_region_steady 7 (SlotG [(20, Is (.pointer (some ⟨w.heap.size + 1, 0, none⟩))), (21, Is (.slice p k c)), (22, Is (.pointer (some ⟨hh, 0, none⟩))), (23, Is (.pointer (some ⟨hh, 0, none⟩))), (24, Is (.pointer (some ⟨hh, 0, none⟩))), (25, Is (.agg #[.slice qx qn1 qc1, .slice qy qn2 qc2, .int .i64 qw])), (26, fun v W => ∃ g, v = .slice (some ⟨g, 0, none⟩) 1 1 ∧ Row W g 61 [.slice qx qn1 qc1, .slice qy qn2 qc2, .int .i64 qw])]) (by kernel_rfl) (by kernel_rfl) (Stabs.all ⟨stab_is _, stab_is _, stab_is _, stab_is _, stab_is _, stab_is _, stab_oneIv [.slice qx qn1 qc1, .slice qy qn2 qc2, .int .i64 qw], trivial⟩) ?_ ?_
      · intro o ho
        simp only [List.take_succ_cons, List.take_zero, List.mem_cons, List.not_mem_nil, or_false] at ho
        rcases ho with rfl | rfl | rfl | rfl | rfl | rfl | rfl
        · intro a' w' hb ha hdep
          have d3 : a'.tmps.getD 3 undef = .pointer (some ⟨w.heap.size + 1, 0, none⟩) := ha.at 3 (by kernel_rfl)
          have hmk := fun (x : Value) (W : World) => SlotG.mk (x := x) (w := W) 0 rfl hGN
          clear hGN ha hdep
          go_simp
          exact ⟨_, rfl, Below.refl _ _, hmk _ _ rfl⟩
        · intro a' w' hb ha hdep
          have d20 : a'.tmps.getD 20 undef = .pointer (some ⟨w.heap.size + 1, 0, none⟩) := (hdep 20 (of_decide_eq_true (by kernel_rfl))).is 0 rfl
          have hmk := fun (x : Value) (W : World) => SlotG.mk (x := x) (w := W) 1 rfl hGN
          clear hGN ha hdep
          have y0 : w'.cell? ⟨w.heap.size + 1, 0, none⟩ = some (.slice p k c) := (rm.below hb rm.lt).cell 0
          go_simp
          exact ⟨_, rfl, Below.refl _ _, hmk _ _ rfl⟩
        · intro a' w' hb ha hdep
          have d5 : a'.tmps.getD 5 undef = .pointer (some ⟨hh, 0, none⟩) := ha.at 5 (by kernel_rfl)
          have hmk := fun (x : Value) (W : World) => SlotG.mk (x := x) (w := W) 2 rfl hGN
          clear hGN ha hdep
          go_simp
          exact ⟨_, rfl, Below.refl _ _, hmk _ _ rfl⟩
        · intro a' w' hb ha hdep
          have d22 : a'.tmps.getD 22 undef = .pointer (some ⟨hh, 0, none⟩) := (hdep 22 (of_decide_eq_true (by kernel_rfl))).is 2 rfl
          have hmk := fun (x : Value) (W : World) => SlotG.mk (x := x) (w := W) 3 rfl hGN
          clear hGN ha hdep
          go_simp
          exact ⟨_, rfl, Below.refl _ _, hmk _ _ rfl⟩
        · intro a' w' hb ha hdep
          have d23 : a'.tmps.getD 23 undef = .pointer (some ⟨hh, 0, none⟩) := (hdep 23 (of_decide_eq_true (by kernel_rfl))).is 3 rfl
          have hmk := fun (x : Value) (W : World) => SlotG.mk (x := x) (w := W) 4 rfl hGN
          clear hGN ha hdep
          go_simp
          exact ⟨_, rfl, Below.refl _ _, hmk _ _ rfl⟩
        · intro a' w' hb ha hdep
          have d24 : a'.tmps.getD 24 undef = .pointer (some ⟨hh, 0, none⟩) := (hdep 24 (of_decide_eq_true (by kernel_rfl))).is 4 rfl
          have hmk := fun (x : Value) (W : World) => SlotG.mk (x := x) (w := W) 5 rfl hGN
          clear hGN ha hdep
          have y0 : w'.cell? ⟨hh, 0, none⟩ = some (.slice qx qn1 qc1) := (HE.out ▸ rh.below hb rh.lt : Row w' hh 131 [.slice qx qn1 qc1, .slice qy qn2 qc2, .int .i64 qw]).cell 0
          have y1 : w'.cell? ⟨hh, 1, none⟩ = some (.slice qy qn2 qc2) := (HE.out ▸ rh.below hb rh.lt : Row w' hh 131 [.slice qx qn1 qc1, .slice qy qn2 qc2, .int .i64 qw]).cell 1
          have y2 : w'.cell? ⟨hh, 2, none⟩ = some (.int .i64 qw) := (HE.out ▸ rh.below hb rh.lt : Row w' hh 131 [.slice qx qn1 qc1, .slice qy qn2 qc2, .int .i64 qw]).cell 2
          go_simp
          exact ⟨_, rfl, Below.refl _ _, hmk _ _ rfl⟩
        · intro a' w' hb ha hdep
          have d25 : a'.tmps.getD 25 undef = .agg #[.slice qx qn1 qc1, .slice qy qn2 qc2, .int .i64 qw] := (hdep 25 (of_decide_eq_true (by kernel_rfl))).is 5 rfl
          have hmk := fun (x : Value) (W : World) => SlotG.mk (x := x) (w := W) 6 rfl hGN
          clear hGN ha hdep
          rw [Array.getD_eq_getD_getElem?] at d25
          go_simp
          exact ⟨_, rfl, ent_new0 _ _, hmk _ _ ⟨_, rfl, Row.new w' 61 [.slice qx qn1 qc1, .slice qy qn2 qc2, .int .i64 qw]⟩⟩
      · intro a' w' hb ha hG
        clear hGN
        have d21 : a'.tmps.getD 21 undef = .slice p k c := (hG _ (List.mem_of_getElem? (i := 1) rfl) 21 rfl).is 1 rfl
        have D26 := (hG _ (List.mem_of_getElem? (i := 6) rfl) 26 rfl).get 6 rfl
        have d0 : a'.tmps.getD 0 undef = .pointer (some ⟨g, 0, none⟩) := ha.at 0 (by kernel_rfl)
        have d1 : a'.tmps.getD 1 undef = undef := ha.at 1 (by kernel_rfl)
        have d2 : a'.tmps.getD 2 undef = .pointer (some ⟨w.heap.size, 0, none⟩) := ha.at 2 (by kernel_rfl)
        have d3 : a'.tmps.getD 3 undef = .pointer (some ⟨w.heap.size + 1, 0, none⟩) := ha.at 3 (by kernel_rfl)
        have d4 : a'.tmps.getD 4 undef = undef := ha.at 4 (by kernel_rfl)
        have d6 : a'.tmps.getD 6 undef = .pointer (some ⟨g, 0, none⟩) := ha.at 6 (by kernel_rfl)
        have d7 : a'.tmps.getD 7 undef = .pointer (some ⟨g, 0, none⟩) := ha.at 7 (by kernel_rfl)
        have d8 : a'.tmps.getD 8 undef = .pointer (some ⟨g, 1, none⟩) := ha.at 8 (by kernel_rfl)
        have d9 : a'.tmps.getD 9 undef = .slice q ls.length d := ha.at 9 (by kernel_rfl)
        have d10 : a'.tmps.getD 10 undef = .agg #[.slice none 0 0, .slice q ls.length d] := ha.at 10 (by kernel_rfl)
        have d11 : a'.tmps.getD 11 undef = .pointer (some ⟨g, 0, none⟩) := ha.at 11 (by kernel_rfl)
        have d12 : a'.tmps.getD 12 undef = .pointer (some ⟨g, 0, none⟩) := ha.at 12 (by kernel_rfl)
        have d13 : a'.tmps.getD 13 undef = .pointer (some ⟨g, 0, none⟩) := ha.at 13 (by kernel_rfl)
        have d14 : a'.tmps.getD 14 undef = .slice (some ⟨gp, 0, none⟩) qs.length cr2 := ha.at 14 (by kernel_rfl)
        have d15 : a'.tmps.getD 15 undef = .int .i64 (qs.length : Int) := ha.at 15 (by kernel_rfl)
        have d16 : a'.tmps.getD 16 undef = .int .i64 (k : Int) := ha.at 16 (by kernel_rfl)
        have d30 : a'.tmps.getD 30 undef = undef := ha.at 30 (by kernel_rfl)
        have d31 : a'.tmps.getD 31 undef = undef := ha.at 31 (by kernel_rfl)
        have e2 : a' = ⟨#[a'.tmps.getD 0 undef, a'.tmps.getD 1 undef, a'.tmps.getD 2 undef, a'.tmps.getD 3 undef, a'.tmps.getD 4 undef, a'.tmps.getD 5 undef, a'.tmps.getD 6 undef, a'.tmps.getD 7 undef, a'.tmps.getD 8 undef, a'.tmps.getD 9 undef, a'.tmps.getD 10 undef, a'.tmps.getD 11 undef, a'.tmps.getD 12 undef, a'.tmps.getD 13 undef, a'.tmps.getD 14 undef, a'.tmps.getD 15 undef, a'.tmps.getD 16 undef, a'.tmps.getD 17 undef, a'.tmps.getD 18 undef, a'.tmps.getD 19 undef, a'.tmps.getD 20 undef, a'.tmps.getD 21 undef, a'.tmps.getD 22 undef, a'.tmps.getD 23 undef, a'.tmps.getD 24 undef, a'.tmps.getD 25 undef, a'.tmps.getD 26 undef, a'.tmps.getD 27 undef, a'.tmps.getD 28 undef, a'.tmps.getD 29 undef, a'.tmps.getD 30 undef, a'.tmps.getD 31 undef], []⟩ := by rw [← (show a'.defers = [] from ha.2.1)]; exact act_eq a' 32 ha.1
        rw [d21, d0, d1, d2, d3, d4, d6, d7, d8, d9, d10, d11, d12, d13, d14, d15, d16, d30, d31] at e2
        clear hG ha d21 d0 d1 d2 d3 d4 d6 d7 d8 d9 d10 d11 d12 d13 d14 d15 d16 d30 d31
        generalize a'.tmps.getD 5 undef = x5 at *
        generalize a'.tmps.getD 17 undef = x17 at *
        generalize a'.tmps.getD 18 undef = x18 at *
        generalize a'.tmps.getD 19 undef = x19 at *
        generalize a'.tmps.getD 20 undef = x20 at *
        generalize a'.tmps.getD 22 undef = x22 at *
        generalize a'.tmps.getD 23 undef = x23 at *
        generalize a'.tmps.getD 24 undef = x24 at *
        generalize a'.tmps.getD 25 undef = x25 at *
        generalize a'.tmps.getD 26 undef = x26 at *
        generalize a'.tmps.getD 27 undef = x27 at *
        generalize a'.tmps.getD 28 undef = x28 at *
        generalize a'.tmps.getD 29 undef = x29 at *
        subst e2
        simp only [List.drop_succ_cons, List.drop_zero]
        obtain ⟨gt, rfl, hrt⟩ := D26
        replace rm := rm.below hb rm.lt
        replace rz := rz.below hb rz.lt
        replace ho := owns_below ho hb
        have hsz := hb.size
        replace hB := hB.trans (hb.mono hB.size)
        clear hb
        go_wp2_with (at_builtin; refine wpList_append_iv rfl _ _ rfl w.heap.size _ _ (qs.take k) rfl HL.out.symm ho gt 1 Q rfl (HE.out ▸ hrt) (by omega) (by omega) ?_)
        intro v5 w5 ho5 hb5 hk5
        replace rm := hk5 _ _ _ (by decide) rm
        replace rz := hk5 _ _ _ (by decide) rz
        have hs5 := hb5.size
        replace hB := hB.trans hb5
        clear hk5 hb5 ho hrt
        obtain ⟨p5, c5, rfl⟩ := owns_shape ho5
        have m0 : w5.cell? ⟨w.heap.size + 1, 0, none⟩ = some (.slice p k c) := rm.cell 0
        have f0 := rm.frozen 0
        have HZ : Hid _ := And.intro (rm.set 0 (.slice p5 (k + 1) c5)) (And.intro (owns_kept ho5 (w' := w5.setCell ⟨w.heap.size + 1, 0, none⟩ (.slice p5 (k + 1) c5)) (fun b t l e hb => hb.other 0 _ (fun e2 => by rw [e2] at e; exact owns_ne ho5 rm (by decide) e))) (And.intro (rz.other 0 (.slice p5 (k + 1) c5) (show w.heap.size ≠ w.heap.size + 1 by omega)) (hB.setCell (p := ⟨w.heap.size + 1, 0, none⟩) (by show w.heap.size ≤ w.heap.size + 1; omega) (.slice p5 (k + 1) c5))))
        clear rm rz ho5 hB
        go_wp2_with fail
        clear m0 f0
        go_roundw
        case rel => exact ⟨k + 1, hlt, by go_num, ⟨p5, c5, HZ.out.1, by rw [HNX.out]; exact HZ.out.2.1⟩, HZ.out.2.2.1, HZ.out.2.2.2, by simp; omega⟩
        case measure => simp [intOf]; omega
    · obtain rfl : k = qs.length := by omega
      have dk : decide ((qs.length : Int) < (qs.length : Int)) = false := by simp
      rw [List.take_length] at ho
      obtain ⟨pr2, cr2, q2, d2, -, rg2, ho2, hl2, hR2⟩ := HX.out.below hB
      have e1 : q2 = q ∧ d2 = d := by
        have h1 : wr.cell? ⟨g, 1, none⟩ = some (.slice q2 ls.length d2) := rg2.cell 1
        rw [HG1.out wr hB] at h1
        simp only [Option.some.injEq, Value.slice.injEq, true_and] at h1
        exact ⟨h1.1.symm, h1.2.symm⟩
      obtain ⟨rfl, rfl⟩ := e1
      have m0 : wr.cell? ⟨w.heap.size + 1, 0, none⟩ = some (.slice p qs.length c) := rm.cell 0
      have m1 : wr.cell? ⟨w.heap.size + 1, 1, none⟩ = some (.slice q2 ls.length d2) := rm.cell 1
      have z0 : wr.cell? ⟨w.heap.size, 0, none⟩ = some (.slice none 0 0) := rz.cell 0
      have z1 : wr.cell? ⟨w.heap.size, 1, none⟩ = some (.slice none 0 0) := rz.cell 1
      have z2 : wr.cell? ⟨w.heap.size, 2, none⟩ = some (.int .i64 0) := rz.cell 2
      have f0 := rz.frozen 0
      have f1 := rz.frozen 1
      have f2 := rz.frozen 2
      have hOM : OwnMesh wr base p qs.length c q2 ls.length d2 qs ls := ⟨owns_mono ho hbs, fun j hj => (hR2.2.2.2 j (by omega) hj).2.2, hR2.2.2.1, hl2⟩
      have HE : Hid (Row (((wr.setCell ⟨w.heap.size, 0, none⟩ (.slice p qs.length c)).setCell ⟨w.heap.size, 1, none⟩ (.slice q2 ls.length d2)).setCell ⟨w.heap.size, 2, none⟩ (.int .i64 0)) w.heap.size 28 [.slice p qs.length c, .slice q2 ls.length d2, .int .i64 0] ∧ OwnMesh (((wr.setCell ⟨w.heap.size, 0, none⟩ (.slice p qs.length c)).setCell ⟨w.heap.size, 1, none⟩ (.slice q2 ls.length d2)).setCell ⟨w.heap.size, 2, none⟩ (.int .i64 0)) base p qs.length c q2 ls.length d2 qs ls ∧ Below w.heap.size w (((wr.setCell ⟨w.heap.size, 0, none⟩ (.slice p qs.length c)).setCell ⟨w.heap.size, 1, none⟩ (.slice q2 ls.length d2)).setCell ⟨w.heap.size, 2, none⟩ (.int .i64 0))) := ⟨((rz.set 0 _).set 1 _).set 2 _, hOM.kept (fun b t l ht hb => by
        have hne : b ≠ w.heap.size := fun e => by
          subst e
          have h1 := rz
          unfold Row at h1 hb
          rw [h1] at hb
          simp only [Option.some.injEq, Obj.cells.injEq] at hb
          rcases ht with e | e | e | e <;> (rw [e] at hb; exact absurd hb.2.1 (by decide))
        exact ((hb.other 0 _ hne).other 1 _ hne).other 2 _ hne), ((hB.setCell (p := ⟨w.heap.size, 0, none⟩) (Nat.le_refl _) _).setCell (p := ⟨w.heap.size, 1, none⟩) (Nat.le_refl _) _).setCell (p := ⟨w.heap.size, 2, none⟩) (Nat.le_refl _) _⟩
      clear hlt hk rm ho rz hB rg2 ho2 hl2 hR2 hOM HX HG HG1
      go_wp2_with fail
      obtain ⟨k1, k2, k3⟩ := HE.out
      clear HE m0 m1 z0 z1 z2 f0 f1 f2
      generalize ((wr.setCell ⟨w.heap.size, 0, none⟩ (.slice p qs.length c)).setCell ⟨w.heap.size, 1, none⟩ (.slice q2 ls.length d2)).setCell ⟨w.heap.size, 2, none⟩ (.int .i64 0) = Y at *
      have e0 : Y.cell? ⟨w.heap.size, 0, none⟩ = some (.slice p qs.length c) := k1.cell 0
      have e1 : Y.cell? ⟨w.heap.size, 1, none⟩ = some (.slice q2 ls.length d2) := k1.cell 1
      have e2 : Y.cell? ⟨w.heap.size, 2, none⟩ = some (.int .i64 0) := k1.cell 2
      exact bodyPost_ret (v := .agg #[.slice p qs.length c, .slice q2 ls.length d2, .int .i64 0]) (by simp [results, Tryz.results45, go_sem, e0, e1, e2]) rfl ⟨⟨p, c, q2, d2, rfl, k2⟩, k3⟩
end Go.Proofs.YtcnadobnihbldaaGreat
/- A mesh set to work. (Written by gen_mwk.py.) -/
namespace Go.Proofs.YtcnadobnihbldaaGreat
open Go.RowKit Go.Sort

theorem fieldOut_run (x : Option Addr) (n1 c1 : Nat) (y : Option Addr) (n2 c2 : Nat) (now cc : Int) (w : World) : (Instr.field 63 (.agg #[.slice x n1 c1, .slice y n2 c2, .int .i64 now, .int .i64 cc]) 0).run Tryz.prog w = .ok (.agg #[.slice x n1 c1, .slice y n2 c2, .int .i64 now]) w := by kernel_rfl
theorem Tryz.infoPtr : (Tryz.prog.info? 129).map (fun i => (i.zero, i.size, i.bytes)) = some (some (.pointer none), 1, 8) := by kernel_rfl
/-- 'append(v, p)' of one pointer. -/
theorem wpList_append_ptr {w : World} {ops : Array Oper} {rest : List Oper} {o : Oper} {a : Act} {Q : Exit → Act → World → Prop} (hgd : o.guard = none) (s x : Operand)
    (ho : o.op = .call { callee := .builtin .append, args := #[s, x], argTypes := #[126, 126] })
    (base : Nat) (v : Value) (n : Nat) (hs : List Nat) (hv : a.eval s = v) (hn : n = hs.length) (hown : w.ownsRow base 129 1 v n (hs.map ptrV)) (g c h : Nat) (hx : a.eval x = .slice (some ⟨g, 0, none⟩) 1 c) (hr : Row w g 129 [ptrV h])
    (hlen : n ≤ 1000000) (hbase : base ≤ w.heap.size)
    (hk : ∀ v' w', w'.ownsRow base 129 1 v' (n + 1) ((hs ++ [h]).map ptrV) → Below base w w' → (∀ b t l, t ≠ 129 → Row w b t l → Row w' b t l) → wpList Tryz.prog ops Q rest (a.put o.dst v') w') : wpList Tryz.prog ops Q (o :: rest) a w := by
  obtain ⟨i0, hi0, hz0, hz1, hz2⟩ := info_parts Tryz.infoPtr
  subst hn
  refine wpList_append_own w hgd s x 126 ho base 129 i0 _ 1 8 Tryz.underlying126 hi0 hz0 hz1 hz2 rfl (by decide) v hs.length (hs.map ptrV) hv hown ⟨g, 0, none⟩ 1 c [ptrV h] hx rfl ?_ ?_ ?_ ?_ hbase ?_
  · intro j u hj
    have ea : (⟨g, 0, none⟩ : Addr).add j = ⟨g, j, none⟩ := by unfold Addr.add; split <;> simp_all
    rw [ea, hr.cell]
    exact hj
  · intro u hu
    simp only [List.mem_cons, List.not_mem_nil, or_false] at hu
    subst hu
    rfl
  · unfold maxLen; omega
  · omega
  · intro v' w' hown' hgrow _
    refine hk v' w' ?_ ((Below.refl base w).grown hgrow hbase fun k hk => (World.ownsRow.lt hown k hk).1) ?_
    · rw [List.map_append]
      exact hown'
    · intro b t l ht hb
      refine (hgrow.block b hb.lt (fun e2 => ?_)).trans hb
      rcases hown.2 with ⟨rfl, _⟩ | ⟨g', cap, cur', rfl, _, hg, _⟩
      · simp [Value.ownBlock] at e2
      · obtain rfl : b = g' := by simpa [Value.ownBlock] using e2
        rw [show w.heap[b]? = _ from hb] at hg
        simp only [Option.some.injEq, Obj.cells.injEq] at hg
        exact ht hg.2.1
/-- A copy of a router's lists. -/
def CpV (B : Nat) (t : Iv) (v : Value) (W : World) : Prop := ∃ a : Ip, v = .agg #[.slice a.x t.is.length a.c1, .slice a.y t.rs.length a.c2, .int .i64 t.now] ∧ OwnIv W B a t
def CpO (B : Nat) (t : Iv) (v : Value) (W : World) : Prop := ∃ a : Ip, v = .agg #[.slice a.x t.is.length a.c1, .slice a.y t.rs.length a.c2, .int .i64 t.now, .int .i64 0] ∧ OwnIv W B a t
def CpB (B : Nat) (t : Iv) (v : Value) (W : World) : Prop := ∃ (a : Ip) (h : Nat), v = .pointer (some ⟨h, 0, none⟩) ∧ B ≤ h ∧ Row W h 131 (ivL a t) ∧ OwnIv W B a t
def CpS (B : Nat) (t : Iv) (v : Value) (W : World) : Prop := ∃ (a : Ip) (h g : Nat), v = .slice (some ⟨g, 0, none⟩) 1 1 ∧ Row W g 129 [ptrV h] ∧ B ≤ h ∧ Row W h 131 (ivL a t) ∧ OwnIv W B a t
def CpW (B : Nat) (t : Iv) (v : Value) (W : World) : Prop := ∃ g : Nat, v = .pointer (some ⟨g, 0, none⟩) ∧ AtW B t.is t.rs t.now g W
theorem stab_cpV (B : Nat) (t : Iv) : ∀ (v : Value) (w1 w2 : World), CpV B t v w1 → Below w1.heap.size w1 w2 → CpV B t v w2 := by
  rintro v w1 w2 ⟨a, e, h⟩ hb
  exact ⟨a, e, h.below hb⟩
theorem stab_cpO (B : Nat) (t : Iv) : ∀ (v : Value) (w1 w2 : World), CpO B t v w1 → Below w1.heap.size w1 w2 → CpO B t v w2 := by
  rintro v w1 w2 ⟨a, e, h⟩ hb
  exact ⟨a, e, h.below hb⟩
theorem stab_cpB (B : Nat) (t : Iv) : ∀ (v : Value) (w1 w2 : World), CpB B t v w1 → Below w1.heap.size w1 w2 → CpB B t v w2 := by
  rintro v w1 w2 ⟨a, h, e, h1, h2, h3⟩ hb
  exact ⟨a, h, e, h1, h2.below hb h2.lt, h3.below hb⟩
theorem stab_cpS (B : Nat) (t : Iv) : ∀ (v : Value) (w1 w2 : World), CpS B t v w1 → Below w1.heap.size w1 w2 → CpS B t v w2 := by
  rintro v w1 w2 ⟨a, h, g, e, h0, h1, h2, h3⟩ hb
  exact ⟨a, h, g, e, h0.below hb h0.lt, h1, h2.below hb h2.lt, h3.below hb⟩
theorem stab_cpW (B : Nat) (t : Iv) : ∀ (v : Value) (w1 w2 : World), CpW B t v w1 → Below w1.heap.size w1 w2 → CpW B t v w2 := by
  rintro v w1 w2 ⟨g, e, h⟩ hb
  exact ⟨g, e, atW_below h hb⟩
/-- One more router at work. -/
theorem RtrsW.more {w : World} {base h B : Nat} {hs : List Nat} {qs : List IvP} {a : Ip} {t : Iv} (k : RtrsW w base hs qs) (hB : base ≤ B) (hold : ∀ j (hj : j < hs.length), hs[j] < B) (hx : ∀ j (hj : j < qs.length) b, qs[j].1.x = some ⟨b, 0, none⟩ ∨ qs[j].1.y = some ⟨b, 0, none⟩ → b < B) (h1 : B ≤ h) (h2 : Row w h 131 (ivL a t)) (h3 : OwnIv w B a t) : RtrsW w base (hs ++ [h]) (qs ++ [(a, t)]) := by
  obtain ⟨k1, k2, k3, k4⟩ := k
  have g1 := owns_ge h3.1
  have g2 := owns_ge h3.2
  refine ⟨by simp [k1], ?_, ?_, ?_⟩
  · rw [List.nodup_append]
    refine ⟨k2, by simp, fun x hx' y hy => ?_⟩
    obtain ⟨j, hj, rfl⟩ := List.mem_iff_getElem.1 hx'
    simp only [List.mem_cons, List.not_mem_nil, or_false] at hy
    have := hold j hj
    omega
  · intro i j hi hj hne g
    simp only [List.length_append, List.length_cons, List.length_nil] at hi hj
    by_cases hi' : i < qs.length
    · by_cases hj' : j < qs.length
      · rw [List.getElem_append_left hi', List.getElem_append_left hj']
        exact k3 i j hi' hj' hne g
      · have : j = qs.length := by omega
        subst this
        rw [List.getElem_append_left hi', List.getElem_append_right (Nat.le_refl _)]
        simp only [Nat.sub_self, List.getElem_cons_zero]
        refine ⟨fun e e2 => ?_, fun e e2 => ?_⟩
        · have := hx i hi' g (.inl e); have := g1 g e2; omega
        · have := hx i hi' g (.inr e); have := g2 g e2; omega
    · have : i = qs.length := by omega
      subst this
      have hj' : j < qs.length := by omega
      rw [List.getElem_append_left hj', List.getElem_append_right (Nat.le_refl _)]
      simp only [Nat.sub_self, List.getElem_cons_zero]
      refine ⟨fun e e2 => ?_, fun e e2 => ?_⟩
      · have := hx j hj' g (.inl e2); have := g1 g e; omega
      · have := hx j hj' g (.inr e2); have := g2 g e; omega
  · intro j h1' h2'
    simp only [List.length_append, List.length_cons, List.length_nil] at h1' h2'
    by_cases hj : j < hs.length
    · have hj2 : j < qs.length := by omega
      rw [List.getElem_append_left hj, List.getElem_append_left hj2]
      exact k4 j hj hj2
    · have : j = hs.length := by omega
      subst this
      rw [List.getElem_append_right (Nat.le_refl _), List.getElem_append_right (by omega)]
      simp only [Nat.sub_self, List.getElem_cons_zero, k1]
      exact ⟨by omega, h2, h3.mono hB⟩
/-- They lie as they lay. -/
theorem RtrsW.kept {w w' : World} {base : Nat} {hs : List Nat} {qs : List IvP} (k : RtrsW w base hs qs) (hk : ∀ b t l, t = 131 ∨ t = 53 ∨ t = 155 → Row w b t l → Row w' b t l) : RtrsW w' base hs qs := by
  obtain ⟨k1, k2, k3, k4⟩ := k
  have key : ∀ (ty : TypeId) {sz : Nat} {p : Option Addr} {n cv : Nat} {xs : List Value}, (ty = 131 ∨ ty = 53 ∨ ty = 155) → w.ownsRow base ty sz (.slice p n cv) n xs → w'.ownsRow base ty sz (.slice p n cv) n xs := by
    intro ty sz p n cv xs ht h
    refine owns_kept h (fun b t l e hr => ?_)
    subst e
    obtain ⟨l', hl'⟩ := owns_row h
    have : t = ty := by
      unfold Row at hr hl'
      rw [hr] at hl'
      simp only [Option.some.injEq, Obj.cells.injEq] at hl'
      exact hl'.2.1
    subst this
    exact hk b _ l ht hr
  exact ⟨k1, k2, k3, fun j h1 h2 => ⟨(k4 j h1 h2).1, hk _ _ _ (.inl rfl) (k4 j h1 h2).2.1, key _ (.inr (.inl rfl)) (k4 j h1 h2).2.2.1, key _ (.inr (.inr rfl)) (k4 j h1 h2).2.2.2⟩⟩
set_option maxRecDepth 100000 in
set_option maxHeartbeats 4000000 in
theorem meshWork_any (p : Option Addr) (c1 : Nat) (ps : List IvP) (q : Option Addr) (c2 : Nat) (ls : List Li) (w : World) (h : IvsIn w p ps) (hL : LisIn w q ls) (hq : q = none → c2 = 0) (hn : ps.length ≤ 100000) (hl : ls.length ≤ 100000000) (hm : ∀ e ∈ ps, IvM e.1 e.2 ∧ (e.1.x = none → e.1.c1 = 0) ∧ (e.1.y = none → e.1.c2 = 0)) :
    Calls Tryz.prog 42 #[.agg #[.slice p ps.length c1, .slice q ls.length c2]] w fun e w' => (∃ g hs qs, e = .returned (.pointer (some ⟨g, 0, none⟩)) ∧ qs.map (·.2) = ps.map (·.2) ∧ MwkAt w' w.heap.size g hs qs ls) ∧ Below w.heap.size w w' := by
  have HX : Hid (IvsIn w p ps) := h
  have HC : Hid (∀ w, LisIn w q ls → Calls Tryz.prog 77 #[.slice q ls.length c2] w fun e w' => ∃ q' c', e = .returned (.slice q' ls.length c') ∧ w'.ownsRow w.heap.size 56 4 (.slice q' ls.length c') ls.length (rowLi ls) ∧ Below w.heap.size w w') := fun w h => cloneLi_any q c2 ls w h hq hl
  have HLX : Hid (LisIn w q ls) := hL
  have HM : Hid (∀ e ∈ ps, IvM e.1 e.2 ∧ (e.1.x = none → e.1.c1 = 0) ∧ (e.1.y = none → e.1.c2 = 0)) := hm
  have r0 := Row.new w 26 [.slice p ps.length c1, .slice q ls.length c2]
  have HQ : Hid _ := And.intro r0 (ent_new0 w (.cells #[.slice p ps.length c1, .slice q ls.length c2] 26))
  clear h hL hq hl hm r0
  go_enter Tryz.func42, Tryz.ntmps42
  go_wp2_with fail
  obtain ⟨r0, hB⟩ := HQ.out
  clear HQ
  refine (HC.out _ (HLX.out.below hB)).mono ?_
  rintro e w1 ⟨q', c', rfl, ho, hb1⟩
  replace r0 := r0.below hb1 r0.lt
  replace ho := owns_mono ho hB.size
  replace hB := hB.trans (hb1.mono hB.size)
  clear hb1 HC HLX
  have rg := Row.new w1 128 [.slice none 0 0, .slice q' ls.length c']
  have HA : Hid _ := And.intro (r0.alloc (.cells #[.slice none 0 0, .slice q' ls.length c'] 128)) (And.intro rg (And.intro (owns_below ho (ent_new0 w1 (.cells #[.slice none 0 0, .slice q' ls.length c'] 128))) (hB.alloc hB.size (.cells #[.slice none 0 0, .slice q' ls.length c'] 128))))
  have y0 : w1.cell? ⟨w.heap.size, 0, none⟩ = some (.slice p ps.length c1) := r0.cell 0
  have HB1 : Hid (w.heap.size ≤ w1.heap.size) := hB.size
  have hlt1 := r0.lt
  clear r0 ho hB rg
  go_wp2_with fail
  generalize hb1 : w1.heap.size = b1 at *
  generalize w1.alloc (.cells #[.slice none 0 0, .slice q' ls.length c'] 128) = W1 at *
  clear y0
  have HD : Hid (b1 < W1.heap.size) := HA.out.2.1.lt
  go_loopw [14] (fun i wr => ∃ (k : Nat) (hs : List Nat) (qs : List IvP) (pr : Option Addr) (cr : Nat), k ≤ ps.length ∧ i = .int .i64 k ∧ hs.length = k ∧ qs.map (·.2) = (ps.take k).map (·.2) ∧ Row wr b1 128 [.slice pr k cr, .slice q' ls.length c'] ∧ wr.ownsRow w.heap.size 129 1 (.slice pr k cr) k (hs.map ptrV) ∧ wr.ownsRow w.heap.size 56 4 (.slice q' ls.length c') ls.length (rowLi ls) ∧ RtrsW wr w.heap.size hs qs ∧ Below w.heap.size w wr) (fun i _ => ps.length - (intOf i).toNat)
  case atStart => exact ⟨0, [], [], none, 0, Nat.zero_le _, rfl, rfl, rfl, HA.out.2.1, World.ownsRow_nil _ _ _ 1, HA.out.2.2.1, ⟨rfl, List.nodup_nil, (fun i j hi => absurd hi (by simp)), (fun j h1 => absurd h1 (by simp))⟩, HA.out.2.2.2⟩
  case round =>
    clear HA
    obtain ⟨k, hs, qs, pr, cr, hk, rfl, hln, hmp, rg, op, ol, hR, hB⟩ := hrel
    by_cases hlt : k < ps.length
    · have dk : decide ((k : Int) < (ps.length : Int)) = true := by simpa using hlt
      obtain ⟨gp, a, t, rfl, hgp, hek, hI, c0, c1', c2'⟩ := (HX.out.below hB).at k hlt
      have hM := HM.out _ (List.getElem_mem hlt)
      rw [hek] at hM
      have HAW : Hid (∀ W, InIv W a t → Calls Tryz.prog 60 #[.agg #[.slice a.x t.is.length a.c1, .slice a.y t.rs.length a.c2, .int .i64 t.now]] W fun e w' => ∃ g, e = .returned (.pointer (some ⟨g, 0, none⟩)) ∧ AtW W.heap.size t.is t.rs t.now g w' ∧ Below W.heap.size W w') := fun W h => atWork_any a.x a.c1 a.y a.c2 t.is t.rs t.now W h.1 hM.2.1 h.2 hM.2.2 hM.1.1 hM.1.2.1
      have HTD : Hid (∀ g W, AtW wr.heap.size t.is t.rs t.now g W → Calls Tryz.prog 62 #[.pointer (some ⟨g, 0, none⟩), .int .i64 0] W fun e w' => (∃ a' : Ip, e = .returned (.agg #[.slice a'.x t.is.length a'.c1, .slice a'.y t.rs.length a'.c2, .int .i64 t.now, .int .i64 0]) ∧ OwnIv w' wr.heap.size a' t) ∧ Below W.heap.size W w') := fun g W h => by
        refine (toldW_any wr.heap.size t.is t.rs t.now 0 g W h).mono ?_
        rintro e w' ⟨⟨p5, k5, q5, k6, he, o1, o2⟩, hb⟩
        exact ⟨⟨⟨p5, k5, q5, k6⟩, he, o1, o2⟩, hb⟩
      have HLn : Hid (hs.length = k) := hln
      have HMp : Hid (∀ a2 : Ip, (qs ++ [(a2, t)]).map (·.2) = (ps.take (k + 1)).map (·.2)) := fun a2 => by
        rw [List.take_succ_eq_append_getElem hlt, List.map_append, List.map_append, hmp, hek]
        rfl
      have HBw : Hid (w.heap.size ≤ wr.heap.size) := hB.size
      have HOld : Hid (∀ j (hj : j < hs.length), hs[j] < wr.heap.size) := fun j hj => (hR.2.2.2 j hj (by rw [← hR.1]; exact hj)).2.1.lt
      have HXo : Hid (∀ j (hj : j < qs.length) b, qs[j].1.x = some ⟨b, 0, none⟩ ∨ qs[j].1.y = some ⟨b, 0, none⟩ → b < wr.heap.size) := fun j hj b hb => by
        have h3 := (hR.2.2.2 j (by rw [hR.1]; exact hj) hj).2.2
        rcases hb with e | e
        · exact owns_lt h3.1 b e
        · exact owns_lt h3.2 b e
      have rg5 := rg.alloc (.cells #[.slice a.x t.is.length a.c1, .slice a.y t.rs.length a.c2, .int .i64 t.now] 61)
      have op5 := owns_below op (ent_new0 wr (.cells #[.slice a.x t.is.length a.c1, .slice a.y t.rs.length a.c2, .int .i64 t.now] 61))
      have ol5 := owns_below ol (ent_new0 wr (.cells #[.slice a.x t.is.length a.c1, .slice a.y t.rs.length a.c2, .int .i64 t.now] 61))
      have hR5 := hR.below (ent_new0 wr (.cells #[.slice a.x t.is.length a.c1, .slice a.y t.rs.length a.c2, .int .i64 t.now] 61))
      have hB5 := hB.alloc hB.size (.cells #[.slice a.x t.is.length a.c1, .slice a.y t.rs.length a.c2, .int .i64 t.now] 61)
      have hI5 := hI.below (ent_new0 wr (.cells #[.slice a.x t.is.length a.c1, .slice a.y t.rs.length a.c2, .int .i64 t.now] 61))
      have r5 := Row.new wr 61 [.slice a.x t.is.length a.c1, .slice a.y t.rs.length a.c2, .int .i64 t.now]
      have HS5 : Hid (wr.heap.size ≤ (wr.alloc (.cells #[.slice a.x t.is.length a.c1, .slice a.y t.rs.length a.c2, .int .i64 t.now] 61)).heap.size) := by show _ ≤ _; simp
      have HP : Hid _ := And.intro rg5 (And.intro op5 (And.intro ol5 (And.intro hR5 (And.intro hB5 (And.intro hI5 r5)))))
      clear rg op ol hR hB hI rg5 op5 ol5 hR5 hB5 hI5 r5 hM hek hln hmp
      go_wp2_with fail
      clear c0 c1' c2'
      obtain ⟨rg5, op5, ol5, hR5, hB5, hI5, r5⟩ := HP.out
      clear HP
      generalize wr.alloc (.cells #[.slice a.x t.is.length a.c1, .slice a.y t.rs.length a.c2, .int .i64 t.now] 61) = W5 at *
      have hGN : (([(18, Is (.pointer (some ⟨b1, 0, none⟩))), (19, Is (.pointer (some ⟨b1, 0, none⟩))), (20, Is (.pointer (some ⟨b1, 0, none⟩))), (21, Is (.pointer (some ⟨b1, 0, none⟩))), (22, Is (.slice pr k cr)), (23, Is (.agg #[.slice a.x t.is.length a.c1, .slice a.y t.rs.length a.c2, .int .i64 t.now])), (24, CpW wr.heap.size t), (25, CpO wr.heap.size t), (26, CpV wr.heap.size t), (27, CpV wr.heap.size t), (28, CpB wr.heap.size t), (29, CpS wr.heap.size t)] : List (Nat × (Value → World → Prop))).map (·.1)).Nodup := by simp
      refine wp_region_steady0 12 0 _ (.pointer (some ⟨b1, 0, none⟩)) rfl (SlotG [(18, Is (.pointer (some ⟨b1, 0, none⟩))), (19, Is (.pointer (some ⟨b1, 0, none⟩))), (20, Is (.pointer (some ⟨b1, 0, none⟩))), (21, Is (.pointer (some ⟨b1, 0, none⟩))), (22, Is (.slice pr k cr)), (23, Is (.agg #[.slice a.x t.is.length a.c1, .slice a.y t.rs.length a.c2, .int .i64 t.now])), (24, CpW wr.heap.size t), (25, CpO wr.heap.size t), (26, CpV wr.heap.size t), (27, CpV wr.heap.size t), (28, CpB wr.heap.size t), (29, CpS wr.heap.size t)]) (by kernel_rfl) (by kernel_rfl) rfl (fun _ => rfl) (fun _ _ _ h => h) (fun d w e => by cases e; exact SlotG.mk 0 rfl hGN rfl) (Stabs.all ⟨stab_is _, stab_is _, stab_is _, stab_is _, stab_is _, stab_is _, stab_cpW _ _, stab_cpO _ _, stab_cpV _ _, stab_cpV _ _, stab_cpB _ _, stab_cpS _ _, trivial⟩) ?_ ?_
      · intro o ho
        simp only [List.take_succ_cons, List.take_zero, List.mem_cons, List.not_mem_nil, or_false] at ho
        rcases ho with rfl | rfl | rfl | rfl | rfl | rfl | rfl | rfl | rfl | rfl | rfl | rfl
        · intro a' w' hb ha hdep
          have d3 : a'.tmps.getD 3 undef = .pointer (some ⟨b1, 0, none⟩) := ha.at 3 (by kernel_rfl)
          have hmk := fun (x : Value) (W : World) => SlotG.mk (x := x) (w := W) 0 rfl hGN
          clear hGN ha hdep
          go_simp
          exact ⟨_, rfl, Below.refl _ _, hmk _ _ rfl⟩
        · intro a' w' hb ha hdep
          have d3 : a'.tmps.getD 3 undef = .pointer (some ⟨b1, 0, none⟩) := ha.at 3 (by kernel_rfl)
          have hmk := fun (x : Value) (W : World) => SlotG.mk (x := x) (w := W) 1 rfl hGN
          clear hGN ha hdep
          go_simp
          exact ⟨_, rfl, Below.refl _ _, hmk _ _ rfl⟩
        · intro a' w' hb ha hdep
          have d19 : a'.tmps.getD 19 undef = .pointer (some ⟨b1, 0, none⟩) := (hdep 19 (of_decide_eq_true (by kernel_rfl))).is 1 rfl
          have hmk := fun (x : Value) (W : World) => SlotG.mk (x := x) (w := W) 2 rfl hGN
          clear hGN ha hdep
          go_simp
          exact ⟨_, rfl, Below.refl _ _, hmk _ _ rfl⟩
        · intro a' w' hb ha hdep
          have d20 : a'.tmps.getD 20 undef = .pointer (some ⟨b1, 0, none⟩) := (hdep 20 (of_decide_eq_true (by kernel_rfl))).is 2 rfl
          have hmk := fun (x : Value) (W : World) => SlotG.mk (x := x) (w := W) 3 rfl hGN
          clear hGN ha hdep
          go_simp
          exact ⟨_, rfl, Below.refl _ _, hmk _ _ rfl⟩
        · intro a' w' hb ha hdep
          have d21 : a'.tmps.getD 21 undef = .pointer (some ⟨b1, 0, none⟩) := (hdep 21 (of_decide_eq_true (by kernel_rfl))).is 3 rfl
          have hmk := fun (x : Value) (W : World) => SlotG.mk (x := x) (w := W) 4 rfl hGN
          clear hGN ha hdep
          have y0 : w'.cell? ⟨b1, 0, none⟩ = some (.slice pr k cr) := (rg5.below hb rg5.lt).cell 0
          go_simp
          exact ⟨_, rfl, Below.refl _ _, hmk _ _ rfl⟩
        · intro a' w' hb ha hdep
          have d5 : a'.tmps.getD 5 undef = .pointer (some ⟨wr.heap.size, 0, none⟩) := ha.at 5 (by kernel_rfl)
          have hmk := fun (x : Value) (W : World) => SlotG.mk (x := x) (w := W) 5 rfl hGN
          clear hGN ha hdep
          have y0 : w'.cell? ⟨wr.heap.size, 0, none⟩ = some (.slice a.x t.is.length a.c1) := (r5.below hb r5.lt).cell 0
          have y1 : w'.cell? ⟨wr.heap.size, 1, none⟩ = some (.slice a.y t.rs.length a.c2) := (r5.below hb r5.lt).cell 1
          have y2 : w'.cell? ⟨wr.heap.size, 2, none⟩ = some (.int .i64 t.now) := (r5.below hb r5.lt).cell 2
          go_simp
          exact ⟨_, rfl, Below.refl _ _, hmk _ _ rfl⟩
        · intro a' w' hb ha hdep
          have d23 : a'.tmps.getD 23 undef = .agg #[.slice a.x t.is.length a.c1, .slice a.y t.rs.length a.c2, .int .i64 t.now] := (hdep 23 (of_decide_eq_true (by kernel_rfl))).is 5 rfl
          have hmk := fun (x : Value) (W : World) => SlotG.mk (x := x) (w := W) 6 rfl hGN
          clear hGN ha hdep
          have hsz := hb.size
          have hsz5 := HS5.out
          go_simp
          refine (HAW.out _ (hI5.below hb)).mono ?_
          rintro e w2 ⟨g2, rfl, hat, hb2⟩
          exact ⟨_, rfl, hb2, hmk _ _ ⟨g2, rfl, atW_mono hat (by omega)⟩⟩
        · intro a' w' hb ha hdep
          have D24 := (hdep 24 (of_decide_eq_true (by kernel_rfl))).get 6 rfl
          have hmk := fun (x : Value) (W : World) => SlotG.mk (x := x) (w := W) 7 rfl hGN
          clear hGN ha hdep
          obtain ⟨g2, d24, hat⟩ := D24
          go_simp
          refine (HTD.out _ _ hat).mono ?_
          rintro e w2 ⟨⟨a2, rfl, ho2⟩, hb2⟩
          exact ⟨_, rfl, hb2, hmk _ _ ⟨a2, rfl, ho2⟩⟩
        · intro a' w' hb ha hdep
          have D25 := (hdep 25 (of_decide_eq_true (by kernel_rfl))).get 7 rfl
          have hmk := fun (x : Value) (W : World) => SlotG.mk (x := x) (w := W) 8 rfl hGN
          clear hGN ha hdep
          obtain ⟨a2, d25, ho2⟩ := D25
          have hf := fun W => fieldOut_run a2.x t.is.length a2.c1 a2.y t.rs.length a2.c2 t.now 0 W
          go_simp
          exact ⟨_, rfl, Below.refl _ _, hmk _ _ ⟨a2, rfl, ho2⟩⟩
        · intro a' w' hb ha hdep
          have D26 := (hdep 26 (of_decide_eq_true (by kernel_rfl))).get 8 rfl
          have hmk := fun (x : Value) (W : World) => SlotG.mk (x := x) (w := W) 9 rfl hGN
          clear hGN ha hdep
          obtain ⟨a2, d26, ho2⟩ := D26
          rw [Array.getD_eq_getD_getElem?] at d26
          go_simp
          exact ⟨_, rfl, Below.refl _ _, hmk _ _ ⟨a2, rfl, ho2⟩⟩
        · intro a' w' hb ha hdep
          have D27 := (hdep 27 (of_decide_eq_true (by kernel_rfl))).get 9 rfl
          have hmk := fun (x : Value) (W : World) => SlotG.mk (x := x) (w := W) 10 rfl hGN
          clear hGN ha hdep
          obtain ⟨a2, d27, ho2⟩ := D27
          have hsz := hb.size
          have hsz5 := HS5.out
          go_simp
          exact ⟨_, rfl, ent_new0 _ _, hmk _ _ ⟨a2, _, rfl, by omega, Row.new w' 131 (ivL a2 t), ho2.below (ent_new0 _ _)⟩⟩
        · intro a' w' hb ha hdep
          have D28 := (hdep 28 (of_decide_eq_true (by kernel_rfl))).get 10 rfl
          have hmk := fun (x : Value) (W : World) => SlotG.mk (x := x) (w := W) 11 rfl hGN
          clear hGN ha hdep
          obtain ⟨a2, h2, d28, hB2, hr2, ho2⟩ := D28
          rw [Array.getD_eq_getD_getElem?] at d28
          go_simp
          exact ⟨_, rfl, ent_new0 _ _, hmk _ _ ⟨a2, h2, _, rfl, Row.new w' 129 [ptrV h2], hB2, hr2.alloc _, ho2.below (ent_new0 _ _)⟩⟩
      · intro a' w' hb ha hG
        clear hGN
        have d18 : a'.tmps.getD 18 undef = .pointer (some ⟨b1, 0, none⟩) := (hG _ (List.mem_of_getElem? (i := 0) rfl) 18 rfl).is 0 rfl
        have d22 : a'.tmps.getD 22 undef = .slice pr k cr := (hG _ (List.mem_of_getElem? (i := 4) rfl) 22 rfl).is 4 rfl
        have D29 := (hG _ (List.mem_of_getElem? (i := 11) rfl) 29 rfl).get 11 rfl
        have d0 : a'.tmps.getD 0 undef = .agg #[.slice (some ⟨gp, 0, none⟩) ps.length c1, .slice q ls.length c2] := ha.at 0 (by kernel_rfl)
        have d1 : a'.tmps.getD 1 undef = .pointer (some ⟨w.heap.size, 0, none⟩) := ha.at 1 (by kernel_rfl)
        have d2 : a'.tmps.getD 2 undef = .pointer none := ha.at 2 (by kernel_rfl)
        have d3 : a'.tmps.getD 3 undef = .pointer (some ⟨b1, 0, none⟩) := ha.at 3 (by kernel_rfl)
        have d4 : a'.tmps.getD 4 undef = undef := ha.at 4 (by kernel_rfl)
        have d6 : a'.tmps.getD 6 undef = .pointer (some ⟨w.heap.size, 1, none⟩) := ha.at 6 (by kernel_rfl)
        have d7 : a'.tmps.getD 7 undef = .slice q ls.length c2 := ha.at 7 (by kernel_rfl)
        have d8 : a'.tmps.getD 8 undef = .slice q' ls.length c' := ha.at 8 (by kernel_rfl)
        have d9 : a'.tmps.getD 9 undef = .agg #[.slice none 0 0, .slice q' ls.length c'] := ha.at 9 (by kernel_rfl)
        have d10 : a'.tmps.getD 10 undef = .pointer (some ⟨b1, 0, none⟩) := ha.at 10 (by kernel_rfl)
        have d11 : a'.tmps.getD 11 undef = .pointer (some ⟨w.heap.size, 0, none⟩) := ha.at 11 (by kernel_rfl)
        have d12 : a'.tmps.getD 12 undef = .slice (some ⟨gp, 0, none⟩) ps.length c1 := ha.at 12 (by kernel_rfl)
        have d13 : a'.tmps.getD 13 undef = .int .i64 (ps.length : Int) := ha.at 13 (by kernel_rfl)
        have d14 : a'.tmps.getD 14 undef = .int .i64 (k : Int) := ha.at 14 (by kernel_rfl)
        have d34 : a'.tmps.getD 34 undef = undef := ha.at 34 (by kernel_rfl)
        have e2 : a' = ⟨#[a'.tmps.getD 0 undef, a'.tmps.getD 1 undef, a'.tmps.getD 2 undef, a'.tmps.getD 3 undef, a'.tmps.getD 4 undef, a'.tmps.getD 5 undef, a'.tmps.getD 6 undef, a'.tmps.getD 7 undef, a'.tmps.getD 8 undef, a'.tmps.getD 9 undef, a'.tmps.getD 10 undef, a'.tmps.getD 11 undef, a'.tmps.getD 12 undef, a'.tmps.getD 13 undef, a'.tmps.getD 14 undef, a'.tmps.getD 15 undef, a'.tmps.getD 16 undef, a'.tmps.getD 17 undef, a'.tmps.getD 18 undef, a'.tmps.getD 19 undef, a'.tmps.getD 20 undef, a'.tmps.getD 21 undef, a'.tmps.getD 22 undef, a'.tmps.getD 23 undef, a'.tmps.getD 24 undef, a'.tmps.getD 25 undef, a'.tmps.getD 26 undef, a'.tmps.getD 27 undef, a'.tmps.getD 28 undef, a'.tmps.getD 29 undef, a'.tmps.getD 30 undef, a'.tmps.getD 31 undef, a'.tmps.getD 32 undef, a'.tmps.getD 33 undef, a'.tmps.getD 34 undef], []⟩ := by rw [← (show a'.defers = [] from ha.2.1)]; exact act_eq a' 35 ha.1
        rw [d18, d22, d0, d1, d2, d3, d4, d6, d7, d8, d9, d10, d11, d12, d13, d14, d34] at e2
        clear hG ha d18 d22 d0 d1 d2 d3 d4 d6 d7 d8 d9 d10 d11 d12 d13 d14 d34
        generalize a'.tmps.getD 5 undef = x5 at *
        generalize a'.tmps.getD 15 undef = x15 at *
        generalize a'.tmps.getD 16 undef = x16 at *
        generalize a'.tmps.getD 17 undef = x17 at *
        generalize a'.tmps.getD 19 undef = x19 at *
        generalize a'.tmps.getD 20 undef = x20 at *
        generalize a'.tmps.getD 21 undef = x21 at *
        generalize a'.tmps.getD 23 undef = x23 at *
        generalize a'.tmps.getD 24 undef = x24 at *
        generalize a'.tmps.getD 25 undef = x25 at *
        generalize a'.tmps.getD 26 undef = x26 at *
        generalize a'.tmps.getD 27 undef = x27 at *
        generalize a'.tmps.getD 28 undef = x28 at *
        generalize a'.tmps.getD 29 undef = x29 at *
        generalize a'.tmps.getD 30 undef = x30 at *
        generalize a'.tmps.getD 31 undef = x31 at *
        generalize a'.tmps.getD 32 undef = x32 at *
        generalize a'.tmps.getD 33 undef = x33 at *
        subst e2
        simp only [List.drop_succ_cons, List.drop_zero]
        obtain ⟨a2, h2, gt, rfl, hrt, hB2, hr2, ho2⟩ := D29
        replace rg5 := rg5.below hb rg5.lt
        replace op5 := owns_below op5 hb
        replace ol5 := owns_below ol5 hb
        replace hR5 := hR5.below hb
        have hsz := hb.size
        have hsz5 := HS5.out
        replace hB5 := hB5.trans (hb.mono hB5.size)
        clear hb hI5 r5
        go_wp2_with (at_builtin; refine wpList_append_ptr rfl _ _ rfl w.heap.size _ k hs rfl HLn.out.symm op5 gt 1 h2 rfl hrt (by omega) (by have := HBw.out; omega) ?_)
        intro v5 w5 op6 hb5 hk5
        have hR6 := (hR5.more (B := wr.heap.size) HBw.out HOld.out HXo.out hB2 hr2 ho2).kept (fun b t l ht hb => hk5 b t l (by rcases ht with e | e | e <;> (rw [e]; decide)) hb)
        replace rg5 := hk5 _ _ _ (by decide) rg5
        replace ol5 := owns_kept ol5 (fun b t l e hb => hk5 b t l (fun e2 => by subst e2; exact owns_ne ol5 hb (by decide) e) hb)
        replace hB5 := hB5.trans hb5
        have hs5 := hb5.size
        clear hk5 hb5 hrt hr2 ho2 hR5 op5 hB2
        obtain ⟨pr5, cr5, rfl⟩ := owns_shape op6
        have m0 : w5.cell? ⟨b1, 0, none⟩ = some (.slice pr k cr) := rg5.cell 0
        have f0 := rg5.frozen 0
        have HZ : Hid _ := And.intro (rg5.set 0 (.slice pr5 (k + 1) cr5)) (And.intro (owns_kept op6 (w' := w5.setCell ⟨b1, 0, none⟩ (.slice pr5 (k + 1) cr5)) (fun b t l e hb => hb.other 0 _ (fun e2 => by rw [e2] at e; exact owns_ne op6 rg5 (by decide) e))) (And.intro (owns_kept ol5 (w' := w5.setCell ⟨b1, 0, none⟩ (.slice pr5 (k + 1) cr5)) (fun b t l e hb => hb.other 0 _ (fun e2 => by rw [e2] at e; exact owns_ne ol5 rg5 (by decide) e))) (And.intro (hR6.kept (w' := w5.setCell ⟨b1, 0, none⟩ (.slice pr5 (k + 1) cr5)) (fun b t l ht hb => hb.other 0 _ (fun e2 => by subst e2; have h1 := rg5; unfold Row at h1 hb; rw [h1] at hb; simp only [Option.some.injEq, Obj.cells.injEq] at hb; rcases ht with e | e | e <;> (rw [e] at hb; exact absurd hb.2.1 (by decide))))) (hB5.setCell (p := ⟨b1, 0, none⟩) (by show w.heap.size ≤ b1; exact HB1.out) (.slice pr5 (k + 1) cr5)))))
        clear rg5 op6 ol5 hR6 hB5
        go_wp2_with fail
        clear m0 f0
        go_roundw
        case rel => exact ⟨k + 1, hs ++ [h2], qs ++ [(a2, t)], pr5, cr5, hlt, by go_num, by simp [HLn.out], HMp.out a2, HZ.out.1, by rw [List.map_append]; exact HZ.out.2.1, HZ.out.2.2⟩
        case measure => simp [intOf]; omega
    · obtain rfl : k = ps.length := by omega
      have dk : decide ((ps.length : Int) < (ps.length : Int)) = false := by simp
      rw [List.take_length] at hmp
      have HE : Hid (MwkAt wr w.heap.size b1 hs qs ls) := ⟨pr, cr, q', c', HB1.out, by rw [hln]; exact rg, by rw [hln]; exact op, ol, hR⟩
      clear HX HM rg op ol hR HD hk hlt hln
      go_wp2_with fail
      go_ret
      refine ⟨⟨b1, ?_, hs, qs, hmp, HE.out⟩, hB⟩
      rfl
end Go.Proofs.YtcnadobnihbldaaGreat
/- What a cut and a join answer; a mesh at work of which one router was turned. (Written by gen_turned.py.) -/
namespace Go.Proofs.YtcnadobnihbldaaGreat
open Go.RowKit Go.Sort

def turn1 (ts : List Iv) (r : Nat) (i : Int) (up : Bool) : List Iv := ts.set r (turnT ts[r]! i up)
def turn2 (ts : List Iv) (x : Li) (up : Bool) : List Iv := turn1 (turn1 ts x.la.toNat x.lx up) x.lb.toNat x.ly up
/-- What 'turned' answers: its code, its routers, its Links. -/
def turnMO (ts : List Iv) (ls : List Li) (n : Int) (up : Bool) : Int × (List Iv × List Li) :=
  if meshB ts ls = true then
    (if 0 ≤ n ∧ n < (ls.length : Int) then
      (if ((ifAtE ts (ls[n.toNat]!.la, ls[n.toNat]!.lx)).u == up && (ifAtE ts (ls[n.toNat]!.lb, ls[n.toNat]!.ly)).u == up) = true then ((10 : Int), [], []) else ((0 : Int), turn2 ts ls[n.toNat]! up, ls))
    else ((6 : Int), [], []))
  else ((1 : Int), [], [])
/-- An answer of MeshOut. -/
def OutM (base : Nat) (r : Int × (List Iv × List Li)) (e : Ending) (w : World) : Prop := ∃ p c q d qs, e = .returned (.agg #[.slice p r.2.1.length c, .slice q r.2.2.length d, .int .i64 r.1]) ∧ qs.map (·.2) = r.2.1 ∧ OwnMesh w base p r.2.1.length c q r.2.2.length d qs r.2.2
theorem outM_no (base : Nat) (c : Int) (w : World) : OutM base (c, [], []) (.returned (.agg #[.slice none 0 0, .slice none 0 0, .int .i64 c])) w :=
  ⟨none, 0, none, 0, [], rfl, rfl, World.ownsRow_nil _ _ _ 3, (fun j hj => absurd hj (by simp)), (fun i j hi => absurd hi (by simp)), World.ownsRow_nil _ _ _ 4⟩
theorem apQ_set {qs : List IvP} (h : ApQ qs) {r N : Nat} (hr : r < qs.length) {a : Ip} {T : Iv} (hold : ∀ j (hj : j < qs.length) b, qs[j].1.x = some ⟨b, 0, none⟩ ∨ qs[j].1.y = some ⟨b, 0, none⟩ → b < N) (ha : a = qs[r].1 ∨ ∀ b, a.x = some ⟨b, 0, none⟩ ∨ a.y = some ⟨b, 0, none⟩ → N ≤ b) : ApQ (qs.set r (a, T)) := by
  intro i j hi hj hne g
  rw [List.length_set] at hi hj
  rw [List.getElem_set, List.getElem_set]
  rcases ha with ha | ha
  · have e : ∀ k (hk : k < qs.length), (if r = k then ((a, T) : IvP) else qs[k]).1 = qs[k].1 := fun k hk => by
      by_cases e : r = k
      · subst e; rw [if_pos rfl]; exact ha
      · rw [if_neg e]
    rw [e i hi, e j hj]
    exact h i j hi hj hne g
  · by_cases e1 : r = i
    · rw [if_pos e1, if_neg (by omega)]
      refine ⟨fun x y => ?_, fun x y => ?_⟩
      · have := ha g (.inl x); have := hold j hj g (.inl y); omega
      · have := ha g (.inr x); have := hold j hj g (.inr y); omega
    · rw [if_neg e1]
      by_cases e2 : r = j
      · rw [if_pos e2]
        refine ⟨fun x y => ?_, fun x y => ?_⟩
        · have := ha g (.inl y); have := hold i hi g (.inl x); omega
        · have := ha g (.inr y); have := hold i hi g (.inr x); omega
      · rw [if_neg e2]
        exact h i j hi hj hne g
theorem MwkAt.turned {w w' : World} {base g : Nat} {hs : List Nat} {qs : List IvP} {ls : List Li} (h : MwkAt w base g hs qs ls) {r : Nat} (hr : r < qs.length) (hrh : r < hs.length) {a' : Ip} {T : Iv} (h1 : Row w' hs[r] 131 (ivL a' T)) (h2 : OwnIv w' base a' T)
    (h3 : a' = qs[r].1 ∨ ∀ b, a'.x = some ⟨b, 0, none⟩ ∨ a'.y = some ⟨b, 0, none⟩ → w.heap.size ≤ b) (hk : ∀ b t l, b ≠ hs[r] → Row w b t l → Row w' b t l) : MwkAt w' base g hs (qs.set r (a', T)) ls := by
  obtain ⟨pr, cr, q, d, hbg, rg, ho, hl, k1, k2, k3, k4⟩ := h
  have rr := (k4 r hrh hr).2.1
  refine ⟨pr, cr, q, d, hbg, hk _ _ _ (row_ne rg rr (by decide)) rg, ?_, ?_, by simpa using k1, k2, ?_, ?_⟩
  · exact owns_kept ho (fun b t l e hrow => hk b t l (fun e2 => by subst e2; exact owns_ne ho rr (by decide) e) hrow)
  · exact owns_kept hl (fun b t l e hrow => hk b t l (fun e2 => by subst e2; exact owns_ne hl rr (by decide) e) hrow)
  · refine apQ_set k3 hr (N := w.heap.size) (fun j hj b hb => ?_) h3
    have o := (k4 j (by omega) hj).2.2
    rcases hb with e | e
    · exact owns_lt o.1 b e
    · exact owns_lt o.2 b e
  · intro j hj1 hj2
    rw [List.length_set] at hj2
    rw [List.getElem_set]
    by_cases e : r = j
    · subst e
      rw [if_pos rfl]
      exact ⟨(k4 r hj1 hj2).1, h1, h2⟩
    · rw [if_neg e]
      have hne : hs[j] ≠ hs[r] := fun e2 => e ((List.getElem_inj k2).1 e2).symm
      refine ⟨(k4 j hj1 hj2).1, hk _ _ _ hne (k4 j hj1 hj2).2.1, (k4 j hj1 hj2).2.2.kept (fun b t l eb hrow => hk b t l (fun e2 => ?_) hrow)⟩
      subst e2
      rcases eb with eb | eb
      · exact owns_ne (k4 j hj1 hj2).2.2.1 rr (by decide) eb
      · exact owns_ne (k4 j hj1 hj2).2.2.2 rr (by decide) eb
theorem set_snd (qs : List IvP) (r : Nat) (a : Ip) (T : Iv) : (qs.set r (a, T)).map (·.2) = (qs.map (·.2)).set r T := by rw [List.map_set]
end Go.Proofs.YtcnadobnihbldaaGreat
