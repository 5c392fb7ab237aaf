/- One more block, of the model. -/
import Derived.Test.YtialedffpaoacaaGreatDoorMakeRow
import Derived.Test.YtialedffpaoacaaGreatDoorTail
import Derived.Test.YtialedffpaoacaaGreatDoorBlockNums
import Derived.Test.YtialedffpaoacaaGreatDoorS8All
namespace Go.Proofs.YtialedffpaoacaaGreatDoor
open Go.RowKit

theorem Tryz.infoU : (Tryz.prog.info? 239).map (fun i => (i.zero, i.size, i.bytes)) = some (some (.int .u32 0), 1, 4) := by kernel_rfl
theorem Tryz.infoJ64 : (Tryz.prog.info? 2).map (fun i => (i.zero, i.size, i.bytes)) = some (some (.int .i64 0), 1, 8) := by kernel_rfl
set_option maxRecDepth 100000 in
theorem specStart_any (w : World) :
    Calls Tryz.prog 172 #[] w fun e w' => e = .returned (.slice (some ⟨w.heap.size, 0, none⟩) 8 8) ∧ Row w' w.heap.size 2 (valsI startN.list) ∧ Below w.heap.size w w' := by
  go_enter Tryz.func172, Tryz.ntmps172
  go_wp2
  go_ret
  exact ⟨rfl, Row.new w _ (valsI startN.list), (Below.refl _ _).alloc (Nat.le_refl _) _⟩
set_option maxRecDepth 100000 in
theorem specKeys_any (w : World) :
    Calls Tryz.prog 193 #[] w fun e w' => e = .returned (.slice (some ⟨w.heap.size, 0, none⟩) 64 64) ∧ Row w' w.heap.size 239 (valsU keysN) ∧ Below w.heap.size w w' := by
  go_enter Tryz.func193, Tryz.ntmps193
  go_wp2
  go_ret
  exact ⟨rfl, Row.new w _ (valsU keysN), (Below.refl _ _).alloc (Nat.le_refl _) _⟩
theorem byte_at (b : ByteArray) (i : Nat) (h : i < b.size) : b.data.toList.getD i 0 = b[i] := by
  simp [h]; rfl
theorem duo3 (x a b : Nat) (hx : x < 4294967296) : bits .xor .u32 (bits .xor .u32 ((rotr a x : Nat) : Int) ((rotr b x : Nat) : Int)) ((x : Int) / 8) = ((duo a b 3 x : Nat) : Int) := by
  have h := xor3 _ _ _ (rotr_lt a hx) (rotr_lt b hx) (div_lt32 3 hx)
  rw [show ((x : Int) / 8) = ((x / 2 ^ 3 : Nat) : Int) by omega]
  exact h
theorem duo10 (x a b : Nat) (hx : x < 4294967296) : bits .xor .u32 (bits .xor .u32 ((rotr a x : Nat) : Int) ((rotr b x : Nat) : Int)) ((x : Int) / 1024) = ((duo a b 10 x : Nat) : Int) := by
  have h := xor3 _ _ _ (rotr_lt a hx) (rotr_lt b hx) (div_lt32 10 hx)
  rw [show ((x : Int) / 1024) = ((x / 2 ^ 10 : Nat) : Int) by omega]
  exact h
theorem tri_int (x a b c : Nat) (hx : x < 4294967296) : bits .xor .u32 (bits .xor .u32 ((rotr a x : Nat) : Int) ((rotr b x : Nat) : Int)) ((rotr c x : Nat) : Int) = ((tri a b c x : Nat) : Int) := xor3 _ _ _ (rotr_lt a hx) (rotr_lt b hx) (rotr_lt c hx)
theorem int_eq {k : IntKind} {a b : Int} (h : a = b) : Value.int k a = .int k b := by rw [h]
theorem addS_take (s v : S8) (j : Nat) (h : j < 8) : (addS s v).list.take (j + 1) = (addS s v).list.take j ++ [(s.list.getD j 0 + v.list.getD j 0) % 4294967296] := by
  obtain rfl | rfl | rfl | rfl | rfl | rfl | rfl | rfl : j = 0 ∨ j = 1 ∨ j = 2 ∨ j = 3 ∨ j = 4 ∨ j = 5 ∨ j = 6 ∨ j = 7 := by omega
  all_goals rfl
theorem str_index (b : ByteArray) (i : Nat) (I : Int) (hI : I = (i : Int)) (h : i < b.size) (w : World) : (Instr.index 9 (.string b) (.int .i64 I)).run Tryz.prog w = .ok (.int .u8 ((b.data.toList.getD i 0).toNat : Int)) w := by
  subst hI
  have hu : Tryz.prog.underlying 9 = some .string := Tryz.underlying9
  rw [byte_at b i h]
  simp [Instr.index, asIntOf, run_underlying hu, h]
set_option maxRecDepth 100000 in
set_option maxHeartbeats 2000000 in
theorem specBlock_any (s : S8) (b : ByteArray) (g cap : Nat) (w : World) (hs : s.ok) (hb : b.size = 64) (hcells : ∀ j, j < 8 → w.cell? ⟨g, j, none⟩ = some (.int .i64 ((s.list.getD j 0 : Nat) : Int))) (hg : g < w.heap.size) :
    Calls Tryz.prog 173 #[.slice (some ⟨g, 0, none⟩) 8 cap, .string b] w fun e w' => ∃ v, e = .returned v ∧ Own w' w.heap.size 2 v (valsI (blockN s b.data.toList).list) ∧ Below w.heap.size w w' := by
  have HCL : Hid (∀ j, j < 8 → w.cell? ⟨g, j, none⟩ = some (.int .i64 ((s.list.getD j 0 : Nat) : Int))) := hcells
  clear hcells
  go_enter Tryz.func173, Tryz.ntmps173
  go_wp2_with (at_make; refine wpList_make_row rfl _ _ 238 rfl 239 Tryz.underlying238 (.int .u32 0) rfl 4 (by omega) Tryz.infoU 64 64 rfl rfl rfl (by omega) w.heap.size w (Below.refl _ _) (Nat.le_refl _) ?_)
  intro w1 r0 hb1 hs1
  have r1 : Row w1 w.heap.size 239 (valsU (List.replicate 64 0)) := r0
  clear r0
  go_wp2_with fail
  go_loopw [6] (fun i wr => ∃ k : Nat, k ≤ 16 ∧ i = .int .i64 k ∧ Row wr w.heap.size 239 (valsU (wl b.data.toList k ++ List.replicate (64 - k) 0)) ∧ Below w.heap.size w wr) (fun i _ => 16 - (intOf i).toNat)
  case atStart => exact ⟨0, by omega, rfl, r1, hb1⟩
  case round =>
    clear r1 hb1 hs1
    obtain ⟨k, hk, rfl, q1, hbel⟩ := hrel
    by_cases h16 : k < 16
    · -- <1
      have cw := q1.cell k
      rw [valsU_get _ k (by simp [wl_length]; omega)] at cw
      have cf := q1.frozen k
      have HW : Hid _ := word_or b.data.toList k
      have x0 := str_index b (4 * k) (4 * (k : Int)) (by omega) (by omega)
      have x1 := str_index b (4 * k + 1) (4 * (k : Int) + 1) (by omega) (by omega)
      have x2 := str_index b (4 * k + 2) (4 * (k : Int) + 2) (by omega) (by omega)
      have x3 := str_index b (4 * k + 3) (4 * (k : Int) + 3) (by omega) (by omega)
      have l0 := (b.data.toList.getD (4 * k) 0).toNat_lt
      have l1 := (b.data.toList.getD (4 * k + 1) 0).toNat_lt
      have l2 := (b.data.toList.getD (4 * k + 2) 0).toNat_lt
      have l3 := (b.data.toList.getD (4 * k + 3) 0).toNat_lt
      generalize (b.data.toList.getD (4 * k) 0).toNat = p0 at *
      generalize (b.data.toList.getD (4 * k + 1) 0).toNat = p1 at *
      generalize (b.data.toList.getD (4 * k + 2) 0).toNat = p2 at *
      generalize (b.data.toList.getD (4 * k + 3) 0).toNat = p3 at *
      have y0 : IntKind.i64.wrap (4 * (k : Int)) = 4 * (k : Int) := wrap_i64_in _ (by omega) (by omega)
      have y1 : IntKind.i64.wrap (4 * (k : Int) + 1) = 4 * (k : Int) + 1 := wrap_i64_in _ (by omega) (by omega)
      have y2 : IntKind.i64.wrap (4 * (k : Int) + 2) = 4 * (k : Int) + 2 := wrap_i64_in _ (by omega) (by omega)
      have y3 : IntKind.i64.wrap (4 * (k : Int) + 3) = 4 * (k : Int) + 3 := wrap_i64_in _ (by omega) (by omega)
      have z0 : IntKind.u32.wrap (p0 : Int) = p0 := by rw [IntKind.wrap_u32]; omega
      have z1 : IntKind.u32.wrap (p1 : Int) = p1 := by rw [IntKind.wrap_u32]; omega
      have z2 : IntKind.u32.wrap (p2 : Int) = p2 := by rw [IntKind.wrap_u32]; omega
      have z3 : IntKind.u32.wrap (p3 : Int) = p3 := by rw [IntKind.wrap_u32]; omega
      have v0 : IntKind.u32.wrap ((p0 : Int) * 16777216) = (p0 : Int) * 16777216 := by rw [IntKind.wrap_u32]; omega
      have v1 : IntKind.u32.wrap ((p1 : Int) * 65536) = (p1 : Int) * 65536 := by rw [IntKind.wrap_u32]; omega
      have v2 : IntKind.u32.wrap ((p2 : Int) * 256) = (p2 : Int) * 256 := by rw [IntKind.wrap_u32]; omega
      have i0 : (0 : Int) ≤ (k : Int) := by omega
      have i1 : (k : Int) < 64 := by omega
      have HN : Hid _ := nextW_low b.data.toList k h16
      go_wp2_with fail
      refine wp_region_tail 32 (by kernel_rfl) (by kernel_rfl) ?_
      simp only [List.take_succ_cons, List.take_zero, List.drop_succ_cons, List.drop_zero]
      repeat (quiet_step (fail))
      refine wpQuiet_nil ?_
      intro _ hw'
      obtain ⟨nq, hw''⟩ := hw'
      subst hw''
      go_wp2
      go_roundw
      case rel =>
        refine ⟨k + 1, by omega, by go_num, ?_, (below_drewN hbel _).setCell (by simp) _⟩
        exact nums_step (q1.drewN _) (by omega) _ (by rw [HW.out, HN.out])
      case measure => simp [intOf]; omega
      -- 1>
    · obtain rfl : k = 16 := by omega
      go_wp2_with fail
      rw [show ((16 : Nat) : Int) = 16 from rfl]
      go_loopw [7] (fun i wr => ∃ k : Nat, 16 ≤ k ∧ k ≤ 64 ∧ i = .int .i64 k ∧ Row wr w.heap.size 239 (valsU (wl b.data.toList k ++ List.replicate (64 - k) 0)) ∧ Below w.heap.size w wr) (fun i _ => 64 - (intOf i).toNat)
      case atStart => exact ⟨16, by omega, by omega, rfl, q1, hbel⟩
      case round =>
        clear q1 hbel
        obtain ⟨k, hk16, hk, rfl, q1, hbel⟩ := hrel
        by_cases h64 : k < 64
        · -- <2
          have hlen := wl_length b.data.toList k
          have hlt := wl_lt b.data.toList k
          have cw := q1.cell k
          have c0 := q1.cell (k - 16)
          have c1 := q1.cell (k - 15)
          have c2 := q1.cell (k - 7)
          have c3 := q1.cell (k - 2)
          have l1 := getD_lt32 hlt (k - 15)
          have l3 := getD_lt32 hlt (k - 2)
          have HN : Hid _ := nextW_high b.data.toList k (by omega)
          rw [valsU_get _ _ (by simp [wl_length]; omega)] at cw c0 c1 c2 c3
          rw [fill_get _ k _ hlen (by omega)] at c0 c1 c2 c3
          have cf := q1.frozen k
          generalize (wl b.data.toList k).getD (k - 16) 0 = x0 at *
          generalize (wl b.data.toList k).getD (k - 15) 0 = x1 at *
          generalize (wl b.data.toList k).getD (k - 7) 0 = x2 at *
          generalize (wl b.data.toList k).getD (k - 2) 0 = x3 at *
          have i0 : (0 : Int) ≤ (k : Int) := by omega
          have i1 : (k : Int) < 64 := by omega
          have s0 : IntKind.i64.wrap ((k : Int) - 16) = (k : Int) - 16 := wrap_i64_in _ (by omega) (by omega)
          have s1 : IntKind.i64.wrap ((k : Int) - 15) = (k : Int) - 15 := wrap_i64_in _ (by omega) (by omega)
          have s2 : IntKind.i64.wrap ((k : Int) - 7) = (k : Int) - 7 := wrap_i64_in _ (by omega) (by omega)
          have s3 : IntKind.i64.wrap ((k : Int) - 2) = (k : Int) - 2 := wrap_i64_in _ (by omega) (by omega)
          have t0b : (k : Int) - 16 < 64 := by omega
          have t1b : (k : Int) - 15 < 64 := by omega
          have t2b : (k : Int) - 7 < 64 := by omega
          have t3b : (k : Int) - 2 < 64 := by omega
          have a16 : (16 : Int) ≤ (k : Int) := by omega
          have a15 : (15 : Int) ≤ (k : Int) := by omega
          have a7 : (7 : Int) ≤ (k : Int) := by omega
          have a2 : (2 : Int) ≤ (k : Int) := by omega
          have d0 := c0
          rw [show k - 16 = ((k : Int) - 16).toNat by omega] at c0
          have d1 := c1
          rw [show k - 15 = ((k : Int) - 15).toNat by omega] at c1
          have d2 := c2
          rw [show k - 7 = ((k : Int) - 7).toNat by omega] at c2
          have d3 := c3
          rw [show k - 2 = ((k : Int) - 2).toNat by omega] at c3
          have HX1 : Hid _ := duo3 x1 7 18 l1
          have HX3 : Hid _ := duo10 x3 17 19 l3
          go_wp2_with fail
          refine wp_region_tail 32 (by kernel_rfl) (by kernel_rfl) ?_
          simp only [List.take_succ_cons, List.take_zero, List.drop_succ_cons, List.drop_zero]
          repeat (quiet_step ((first | (go_at_call_of 192 (Value.int IntKind.u64 7); exact quiet_eq (specTurn_any x1 7 _ rfl _ l1 (by omega) (by omega))) | (go_at_call_of 192 (Value.int IntKind.u64 18); exact quiet_eq (specTurn_any x1 18 _ rfl _ l1 (by omega) (by omega))) | (go_at_call_of 192 (Value.int IntKind.u64 17); exact quiet_eq (specTurn_any x3 17 _ rfl _ l3 (by omega) (by omega))) | (go_at_call_of 192 (Value.int IntKind.u64 19); exact quiet_eq (specTurn_any x3 19 _ rfl _ l3 (by omega) (by omega))))))
          refine wpQuiet_nil ?_
          intro _ hw'
          obtain ⟨nq, hw''⟩ := hw'
          subst hw''
          clear c0 c1 c2 c3 s0 s1 s2 s3 d0 d1 d2 d3
          go_wp2
          go_roundw
          case rel =>
            refine ⟨k + 1, by omega, by omega, by go_num, ?_, (below_drewN hbel _).setCell (by simp) _⟩
            exact nums_step (q1.drewN _) (by omega) _ (by rw [HN.out, HX1.out, HX3.out]; omega)
          case measure => simp [intOf]; omega
          -- 2>
        · obtain rfl : k = 64 := by omega
          have e64 : wl b.data.toList 64 ++ List.replicate (64 - 64) 0 = wl b.data.toList 64 := by simp
          rw [e64] at q1
          have hcr : ∀ j, j < 8 → wr.cell? ⟨g, j, none⟩ = some (.int .i64 ((s.list.getD j 0 : Nat) : Int)) := fun j hj => by rw [hbel.cell (p := ⟨g, j, none⟩) hg]; exact HCL.out j hj
          have hs' := hs
          obtain ⟨o0, o1, o2, o3, o4, o5, o6, o7⟩ := hs'
          have c0 : wr.cell? ⟨g, 0, none⟩ = some (.int .i64 (s.a : Int)) := hcr 0 (by omega)
          have c1 : wr.cell? ⟨g, 1, none⟩ = some (.int .i64 (s.b : Int)) := hcr 1 (by omega)
          have c2 : wr.cell? ⟨g, 2, none⟩ = some (.int .i64 (s.c : Int)) := hcr 2 (by omega)
          have c3 : wr.cell? ⟨g, 3, none⟩ = some (.int .i64 (s.d : Int)) := hcr 3 (by omega)
          have c4 : wr.cell? ⟨g, 4, none⟩ = some (.int .i64 (s.e : Int)) := hcr 4 (by omega)
          have c5 : wr.cell? ⟨g, 5, none⟩ = some (.int .i64 (s.f : Int)) := hcr 5 (by omega)
          have c6 : wr.cell? ⟨g, 6, none⟩ = some (.int .i64 (s.g : Int)) := hcr 6 (by omega)
          have c7 : wr.cell? ⟨g, 7, none⟩ = some (.int .i64 (s.h : Int)) := hcr 7 (by omega)
          clear hcr
          have w0 : IntKind.u32.wrap (s.a : Int) = s.a := by rw [IntKind.wrap_u32]; omega
          have w1' : IntKind.u32.wrap (s.b : Int) = s.b := by rw [IntKind.wrap_u32]; omega
          have w2 : IntKind.u32.wrap (s.c : Int) = s.c := by rw [IntKind.wrap_u32]; omega
          have w3 : IntKind.u32.wrap (s.d : Int) = s.d := by rw [IntKind.wrap_u32]; omega
          have w4 : IntKind.u32.wrap (s.e : Int) = s.e := by rw [IntKind.wrap_u32]; omega
          have w5 : IntKind.u32.wrap (s.f : Int) = s.f := by rw [IntKind.wrap_u32]; omega
          have w6 : IntKind.u32.wrap (s.g : Int) = s.g := by rw [IntKind.wrap_u32]; omega
          have w7 : IntKind.u32.wrap (s.h : Int) = s.h := by rw [IntKind.wrap_u32]; omega
          go_wp2_with fail
          go_quiet (fail)
          go_wp2_with fail
          go_quiet (fail)
          go_wp2_with fail
          clear c0 c1 c2 c3 c4 c5 c6 c7 w0 w1' w2 w3 w4 w5 w6 w7
          refine (specKeys_any _).mono ?_
          rintro e wk ⟨rfl, rk0, hbk⟩
          have rk : Row wk wr.heap.size 239 (valsU keysN) := rk0
          have r1 : Row wk w.heap.size 239 (valsU (wl b.data.toList 64)) := (q1.drewN _).below hbk q1.lt
          have hbel2 : Below w.heap.size w wk := (below_drewN hbel _).trans (hbk.mono hbel.size)
          have hwr := hbel.size
          clear rk0 hbk q1 hbel e64
          have HB : Hid (blockN s b.data.toList = addS s (roundsN (wl b.data.toList 64) s 64)) := rfl
          have hwl := wl_lt b.data.toList 64
          have hws := wl_length b.data.toList 64
          generalize wl b.data.toList 64 = ws at *
          go_wp2_with fail
          generalize wr.heap.size = nk at *
          go_loopw [10, 11, 12, 13, 14, 15, 16, 17, 19] (fun xa xb xc xd xe xf xg xh i wx => ∃ k : Nat, k ≤ 64 ∧ i = .int .i64 k ∧ xa = .int .u32 (roundsN ws s k).a ∧ xb = .int .u32 (roundsN ws s k).b ∧ xc = .int .u32 (roundsN ws s k).c ∧ xd = .int .u32 (roundsN ws s k).d ∧ xe = .int .u32 (roundsN ws s k).e ∧ xf = .int .u32 (roundsN ws s k).f ∧ xg = .int .u32 (roundsN ws s k).g ∧ xh = .int .u32 (roundsN ws s k).h ∧ Row wx w.heap.size 239 (valsU ws) ∧ Row wx nk 239 (valsU keysN) ∧ Below w.heap.size w wx) (fun _ _ _ _ _ _ _ _ i _ => 64 - (intOf i).toNat)
          case atStart => exact ⟨0, by omega, rfl, rfl, rfl, rfl, rfl, rfl, rfl, rfl, rfl, r1, rk, hbel2⟩
          case round =>
            clear r1 rk hbel2
            obtain ⟨k, hk, rfl, rfl, rfl, rfl, rfl, rfl, rfl, rfl, rfl, q1, q2, hbel2⟩ := hrel
            by_cases h64 : k < 64
            · -- <3
              have HRN : Hid (roundsN ws s (k + 1) = roundN (roundsN ws s k) (keysN.getD k 0 + ws.getD k 0)) := rfl
              have hok := roundsN_ok ws hs k
              have cx := q1.cell k
              have ck := q2.cell k
              rw [valsU_get _ k (by omega)] at cx
              rw [valsU_get _ k (by rw [keysN_length]; exact h64)] at ck
              generalize ws.getD k 0 = X at *
              generalize keysN.getD k 0 = K at *
              generalize roundsN ws s k = st at *
              obtain ⟨a, b1, c, d, e, f, g1, h⟩ := st
              obtain ⟨o0', o1', o2', o3', o4', o5', o6', o7'⟩ := hok
              simp only at o0' o1' o2' o3' o4' o5' o6' o7'
              have HT1 := tri_int e 6 11 25 o4'
              have HT2 := tri_int a 2 13 22 o0'
              have HC := ch_u32 e f g1 o4' o5' o6'
              have HM := maj_u32 a b1 c o0' o1' o2'
              have i0 : (0 : Int) ≤ (k : Int) := by omega
              have i1 : (k : Int) < 64 := by omega
              go_wp2_with fail
              go_quiet ((first | (go_at_call_of 192 (Value.int IntKind.u64 6); exact quiet_eq (specTurn_any e 6 _ rfl _ o4' (by omega) (by omega))) | (go_at_call_of 192 (Value.int IntKind.u64 11); exact quiet_eq (specTurn_any e 11 _ rfl _ o4' (by omega) (by omega))) | (go_at_call_of 192 (Value.int IntKind.u64 25); exact quiet_eq (specTurn_any e 25 _ rfl _ o4' (by omega) (by omega)))))
              go_wp2_with fail
              refine (specTurn_any a 2 _ rfl _ o0' (by omega) (by omega)).mono ?_
              rintro e' w' ⟨rfl, rfl⟩
              go_wp2_with fail
              refine (specTurn_any a 13 _ rfl _ o0' (by omega) (by omega)).mono ?_
              rintro e' w' ⟨rfl, rfl⟩
              go_wp2_with fail
              refine (specTurn_any a 22 _ rfl _ o0' (by omega) (by omega)).mono ?_
              rintro e' w' ⟨rfl, rfl⟩
              go_wp2
              go_roundw
              case rel =>
                refine ⟨k + 1, by omega, by go_num, int_eq ?_, int_eq ?_, int_eq ?_, int_eq ?_, int_eq ?_, int_eq ?_, int_eq ?_, int_eq ?_, q1.drewN _, q2.drewN _, below_drewN hbel2 _⟩
                all_goals (rw [HRN.out]; simp only [roundN, t1N, t2N]; try omega)
              case measure => simp [intOf]; omega
              -- 3>
            · obtain rfl : k = 64 := by omega
              have hok := roundsN_ok ws hs 64
              generalize roundsN ws s 64 = v at *
              clear q1 q2
              go_wp2_with fail
              have hrow : Row ((wr.alloc (.cells #[.int .u32 v.a, .int .u32 v.b, .int .u32 v.c, .int .u32 v.d, .int .u32 v.e, .int .u32 v.f, .int .u32 v.g, .int .u32 v.h] 239)).alloc (.cells #[] 2)) wr.heap.size 239 (valsU v.list) := (Row.new wr _ (valsU v.list)).alloc _
              have hown : Own ((wr.alloc (.cells #[.int .u32 v.a, .int .u32 v.b, .int .u32 v.c, .int .u32 v.d, .int .u32 v.e, .int .u32 v.f, .int .u32 v.g, .int .u32 v.h] 239)).alloc (.cells #[] 2)) (wr.heap.size + 1) 2 (.slice (some ⟨wr.heap.size + 1, 0, none⟩) 0 0) [] := by
                have := Own.made (wr.alloc (.cells #[.int .u32 v.a, .int .u32 v.b, .int .u32 v.c, .int .u32 v.d, .int .u32 v.e, .int .u32 v.f, .int .u32 v.g, .int .u32 v.h] 239)) (wr.heap.size + 1) 2 (by simp)
                simpa using this
              have hbel3 : Below w.heap.size w ((wr.alloc (.cells #[.int .u32 v.a, .int .u32 v.b, .int .u32 v.c, .int .u32 v.d, .int .u32 v.e, .int .u32 v.f, .int .u32 v.g, .int .u32 v.h] 239)).alloc (.cells #[] 2)) := (hbel2.alloc hbel2.size _).alloc (by have := hbel2.size; simp; omega) _
              have hA := hbel2.size
              have hsA : wr.heap.size + 1 ≤ ((wr.alloc (.cells #[.int .u32 v.a, .int .u32 v.b, .int .u32 v.c, .int .u32 v.d, .int .u32 v.e, .int .u32 v.f, .int .u32 v.g, .int .u32 v.h] 239)).alloc (.cells #[] 2)).heap.size := by simp
              generalize wr.heap.size = A at *
              rw [show ((64 : Nat) : Int) = 64 from rfl]
              go_loopw [23, 24] (fun out i wx => ∃ j : Nat, j ≤ 8 ∧ i = .int .i64 j ∧ Own wx (A + 1) 2 out (valsI ((addS s v).list.take j)) ∧ Row wx A 239 (valsU v.list) ∧ A + 1 ≤ wx.heap.size ∧ Below w.heap.size w wx) (fun _ i _ => 8 - (intOf i).toNat)
              case atStart => exact ⟨0, by omega, rfl, hown, hrow, hsA, hbel3⟩
              case round =>
                clear hrow hown hbel3 hbel2 hsA
                obtain ⟨j, hj, rfl, hown, q1, hsA, hbel2⟩ := hrel
                by_cases h8 : j < 8
                · have c1 : wr.cell? ⟨g, j, none⟩ = some (.int .i64 ((s.list.getD j 0 : Nat) : Int)) := by rw [hbel2.cell (p := ⟨g, j, none⟩) hg]; exact HCL.out j h8
                  have c2 := q1.cell j
                  rw [valsU_get _ j (by rw [S8.list_length]; exact h8)] at c2
                  have x1 := getD_lt32 (S8.ok_all s hs) j
                  have x2 := getD_lt32 (S8.ok_all v hok) j
                  have HT : Hid _ := addS_take s v j h8
                  have hol : (valsI ((addS s v).list.take j)).length ≤ 8 := by rw [valsI_length, List.length_take]; omega
                  generalize s.list.getD j 0 = X1 at *
                  generalize v.list.getD j 0 = X2 at *
                  have w1 : IntKind.u32.wrap (X1 : Int) = X1 := by rw [IntKind.wrap_u32]; omega
                  have i0 : (0 : Int) ≤ (j : Int) := by omega
                  have i1 : (j : Int) < 8 := by omega
                  have HW64 : Hid (wrap64 (((X1 : Int) + (X2 : Int)) % 4294967296) = (((X1 + X2) % 4294967296 : Nat) : Int)) := by show _ = _; unfold wrap64; omega
                  go_wp2_with fail
                  refine wp_region_tail1 12 u23 (by kernel_rfl) (by kernel_rfl) rfl ?_ ?_ ?_
                  · intro _; rfl
                  · exact fun _ _ _ h => h
                  · simp only [List.take_succ_cons, List.take_zero, List.drop_succ_cons, List.drop_zero]
                    repeat (quiet_step (fail))
                    refine wpQuiet_nil ?_
                    intro _ hw'
                    obtain ⟨nq, hw''⟩ := hw'
                    subst hw''
                    go_wp2_with (at_builtin; refine wpList_append_vals rfl _ _ 222 rfl (A + 1) 2 Tryz.underlying222 (.int .i64 0) rfl 8 (by omega) Tryz.infoJ64 u23 (valsI ((addS s v).list.take j)) (valsI [(X1 + X2) % 4294967296]) rfl ?c0 wr.heap.size 1 rfl ?c1 ?c2 ?c3 ?c4 ?_)
                    case c0 => exact (hown.drewN _).alloc _
                    case c1 =>
                      intro i u hu
                      have hr := (Row.new (wr.drewN nq) 2 [.int .i64 (wrap64 (((X1 : Int) + (X2 : Int)) % 4294967296))]).cell i
                      rw [HW64.out] at hr ⊢
                      exact hr.trans hu
                    case c2 => exact valsI_one _
                    case c3 => rw [valsI_length [_]]; simp; omega
                    case c4 => simp; omega
                    · intro v' w4 hown4 hbel4
                      rw [← valsI_append, ← HT.out] at hown4
                      have q4 : Row w4 A 239 (valsU v.list) := ((q1.drewN nq).alloc _).below hbel4 (by omega)
                      have hs4 : A + 1 ≤ w4.heap.size := by have := hbel4.size; simp at this; omega
                      go_wp2
                      go_roundw
                      case rel => exact ⟨j + 1, by omega, by go_num, hown4, q4, hs4, ((below_drewN hbel2 _).alloc (by have := hbel2.size; simpa using this) _).trans (hbel4.mono (by omega))⟩
                      case measure => simp [intOf]; omega
                · obtain rfl : j = 8 := by omega
                  have e8 : (addS s v).list.take 8 = (addS s v).list := rfl
                  rw [e8, ← HB.out] at hown
                  go_wp2
                  go_ret
                  exact ⟨_, rfl, hown.mono (by omega), hbel2⟩
end Go.Proofs.YtialedffpaoacaaGreatDoor
