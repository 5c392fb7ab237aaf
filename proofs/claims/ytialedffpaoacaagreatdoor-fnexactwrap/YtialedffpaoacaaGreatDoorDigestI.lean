/- The digest of the program. -/
import Derived.Test.YtialedffpaoacaaGreatDoorWithBlock
import Derived.Test.YtialedffpaoacaaGreatDoorPadded
import Derived.Test.YtialedffpaoacaaGreatDoorOwn
import Derived.Test.YtialedffpaoacaaGreatDoorS8All
namespace Go.Proofs.YtialedffpaoacaaGreatDoor
open Go.RowKit

set_option maxRecDepth 100000 in
theorem implStart_any (w : World) :
    Calls Tryz.prog 210 #[] w fun e w' => e = .returned (.agg #[.int .u32 startN.a, .int .u32 startN.b, .int .u32 startN.c, .int .u32 startN.d, .int .u32 startN.e, .int .u32 startN.f, .int .u32 startN.g, .int .u32 startN.h]) ∧ Below w.heap.size w w' := by
  go_enter Tryz.func210, Tryz.ntmps210
  go_wp2
  refine bodyPost_ret (v := .agg #[.int .u32 1779033703, .int .u32 3144134277, .int .u32 1013904242, .int .u32 2773480762, .int .u32 1359893119, .int .u32 2600822924, .int .u32 528734635, .int .u32 1541459225]) ?_ rfl ⟨rfl, (Below.refl _ _).alloc (Nat.le_refl _) _⟩
  simp [results, Tryz.results210, go_sem]
theorem implBlock_at (st rn : S8) (b : List UInt8) (g o cap : Nat) (w : World) (hs : st.ok) (hr : Hid (rn = blockN st b)) (hL : Laid w) (hb : b.length = 64) (hcap : 64 ≤ cap) (hm : cap ≤ 1000000) (hrow : BytesAt w g o b) (hg : g < w.heap.size) :
    Calls Tryz.prog 211 #[.agg #[.int .u32 st.a, .int .u32 st.b, .int .u32 st.c, .int .u32 st.d, .int .u32 st.e, .int .u32 st.f, .int .u32 st.g, .int .u32 st.h], .slice (some ⟨g, o, none⟩) 64 cap] w fun e w' => e = .returned (.agg #[.int .u32 rn.a, .int .u32 rn.b, .int .u32 rn.c, .int .u32 rn.d, .int .u32 rn.e, .int .u32 rn.f, .int .u32 rn.g, .int .u32 rn.h]) ∧ Below w.heap.size w w' := by
  have h := implBlock_any st b g o cap w hs hL hb hcap hm hrow hg
  rw [← hr.out] at h
  exact h
theorem bytesAt_blk {w : World} {g : Nat} {t : TypeId} {p : List UInt8} (h : Row w g t (cellsB p)) (k n : Nat) (hn : p.length = 64 * n) (hk : k < n) (o : Nat) (ho : o = 64 * k) : BytesAt w g o (blk p k) := by
  intro j hj
  rw [blk_length p k n hn hk] at hj
  rw [h.cell, cellsB_get _ _ (by omega), blk_get p k j hj, ho]
theorem idx8 (s : S8) (k : Nat) (hk : k < 8) (w : World) : (Instr.index 257 (.agg #[.int .u32 s.a, .int .u32 s.b, .int .u32 s.c, .int .u32 s.d, .int .u32 s.e, .int .u32 s.f, .int .u32 s.g, .int .u32 s.h]) (.int .i64 (k : Int))).run Tryz.prog w = .ok (.int .u32 ((s.list.getD k 0 : Nat) : Int)) w := by
  obtain rfl | rfl | rfl | rfl | rfl | rfl | rfl | rfl : k = 0 ∨ k = 1 ∨ k = 2 ∨ k = 3 ∨ k = 4 ∨ k = 5 ∨ k = 6 ∨ k = 7 := by omega
  all_goals kernel_rfl
set_option maxRecDepth 100000 in
theorem slice_blk (g B k : Nat) (hlt : k < B) (wx : World) : (Instr.slice 150 (.slice (some ⟨g, 0, none⟩) (64 * B) (64 * B)) (some (.int .i64 ((k : Int) * 64))) (some (.int .i64 (((k : Int) + 1) * 64))) none).run Tryz.prog wx = .ok (.slice (some ⟨g, 64 * k, none⟩) 64 (64 * B - 64 * k)) wx := by
  have hu : Tryz.prog.underlying 150 = some (.slice 5) := Tryz.underlying150
  have e1 : (((k : Int) + 1) * 64).toNat - ((k : Int) * 64).toNat = 64 := by omega
  have e2 : ((k : Int) * 64).toNat = 64 * k := by omega
  have h := run_slice_lh (P := Tryz.prog) (w := wx) (t := 150) (a := some ⟨g, 0, none⟩) (len := 64 * B) (cap := 64 * B) hu .i64 .i64 ((k : Int) * 64) (((k : Int) + 1) * 64) (by omega) (by omega) (by omega)
  rw [h]
  have hsize : (sizeOf (Tryz.prog.elem 150)).run Tryz.prog wx = .ok 1 wx := by kernel_rfl
  rw [hsize]
  simp only [Result.andThen, sliced]
  rw [if_neg (by omega), e1, e2]
  simp [addr0_add]
set_option maxRecDepth 100000 in
set_option maxHeartbeats 1000000 in
theorem implDigest_in (t : ByteArray) (w : World) (hz : t.size ≤ 100000) (hL : Laid w) :
    Calls Tryz.prog 201 #[.string t] w fun e w' => e = .returned (.string (digestT t)) ∧ Below w.heap.size w w' := by
  have HD : Hid (digestT t = ⟨(outN (overN (padN t.data.toList) (blocksN t.size)).list).toArray⟩) := by show _ = _; unfold digestT digestN; rw [show t.data.toList.length = t.size by simp]
  have hpl : (padN t.data.toList).length = 64 * blocksN t.size := by rw [padN_length, show t.data.toList.length = t.size by simp, blocksN_eq]
  have hBn : blocksN t.size ≤ 2000 := by have := blocksN_eq t.size; unfold zerosN at this; omega
  generalize digestT t = D at *
  go_enter Tryz.func201, Tryz.ntmps201
  go_wp2_with fail
  refine (implPad_any t _ hz).mono ?_
  rintro e w1 ⟨g, rfl, hr1, hg, hb1⟩
  have r1 : Row w1 g 5 (cellsB (padN t.data.toList)) := hr1
  generalize padN t.data.toList = p at *
  generalize blocksN t.size = B at *
  go_wp2_with fail
  refine (implStart_any _).mono ?_
  rintro e w2 ⟨rfl, hb2⟩
  have r2 : Row w2 g 5 (cellsB p) := r1.below hb2 r1.lt
  have hbel : Below w.heap.size w w2 := hb1.trans (hb2.mono hb1.size)
  have hsz := r2.lt
  have HO : Hid (overN p 0 = startN) := rfl
  generalize startN = s0 at *
  clear hr1 r1 hb1 hb2
  go_wp2_with fail
  go_loopw [15] (fun i wr => ∃ k : Nat, k ≤ B ∧ i = .int .i64 k ∧ Row wr w2.heap.size 257 (valsU (overN p k).list) ∧ Row wr g 5 (cellsB p) ∧ Below w.heap.size w wr) (fun i _ => B - (intOf i).toNat)
  case atStart => exact ⟨0, by omega, rfl, by rw [HO.out]; exact Row.new _ _ _, r2.alloc _, hbel.alloc hbel.size _⟩
  case round =>
    obtain ⟨k, hk, rfl, q1, q2, hbel2⟩ := hrel
    have hgl := hbel.size
    by_cases hlt : k < B
    · have HN : Hid (overN p (k + 1) = blockN (overN p k) (blk p k)) := rfl
      have hok := overN_ok p k
      have hbl := blk_length p k B hpl hlt
      have hLr := hL.below hbel2
      generalize overN p k = st at *
      generalize hrn : overN p (k + 1) = rn at *
      have HR : Hid (overN p (k + 1) = rn) := hrn
      clear hrn
      have c0 := q1.cell 0
      have c1 := q1.cell 1
      have c2 := q1.cell 2
      have c3 := q1.cell 3
      have c4 := q1.cell 4
      have c5 := q1.cell 5
      have c6 := q1.cell 6
      have c7 := q1.cell 7
      simp only [valsU, valU, S8.list, List.map_cons, List.map_nil, List.getElem?_cons_zero, List.getElem?_cons_succ] at c0 c1 c2 c3 c4 c5 c6 c7
      have s1 : IntKind.i64.wrap ((k : Int) * 64) = (k : Int) * 64 := wrap_i64_in _ (by omega) (by omega)
      have s2 : IntKind.i64.wrap ((k : Int) + 1) = (k : Int) + 1 := wrap_i64_in _ (by omega) (by omega)
      have s3 : IntKind.i64.wrap (((k : Int) + 1) * 64) = ((k : Int) + 1) * 64 := wrap_i64_in _ (by omega) (by omega)
      have hsz8 : (64 * B - 64 * k : Nat) ≤ 1000000 := by omega
      have hsl : ∀ wx, (Instr.slice 150 (.slice (some ⟨g, 0, none⟩) (64 * B) (64 * B)) (some (.int .i64 ((k : Int) * 64))) (some (.int .i64 (((k : Int) + 1) * 64))) none).run Tryz.prog wx = .ok (.slice (some ⟨g, 64 * k, none⟩) 64 (64 * B - 64 * k)) wx := slice_blk g B k hlt
      go_wp2_with fail
      refine wp_region_tail 8 (by kernel_rfl) (by kernel_rfl) ?_
      simp only [List.take_succ_cons, List.take_zero, List.drop_succ_cons, List.drop_zero]
      repeat (quiet_step (fail))
      refine wpQuiet_nil ?_
      intro _ hw'
      obtain ⟨nq, hw''⟩ := hw'
      subst hw''
      go_wp2_with fail
      refine (implBlock_at st rn (blk p k) g (64 * k) (64 * B - 64 * k) _ hok HN ?h1 hbl (by omega) hsz8 ?h2 ?h3).mono ?_
      case h1 => exact hLr
      case h2 => exact bytesAt_blk q2 k B hpl hlt _ rfl
      case h3 => exact q2.lt
      rintro e w3 ⟨rfl, hb3⟩
      have p1 : Row w3 w2.heap.size 257 (valsU st.list) := (q1.drewN nq).below hb3 q1.lt
      have p2 : Row w3 g 5 (cellsB p) := (q2.drewN nq).below hb3 q2.lt
      have hbel3 : Below w.heap.size w w3 := (below_drewN hbel2 nq).trans (hb3.mono hbel2.size)
      clear hb3 c0 c1 c2 c3 c4 c5 c6 c7 q1 q2 hsl s1 s2 s3
      go_wp2_with (refine wpList_store8 rfl _ _ rfl w2.heap.size rn rfl rfl _ rfl p1 ?_)
      go_roundw
      case rel => exact ⟨k + 1, by omega, by go_num, by rw [HR.out]; exact p1.put _, p2.putOther _ (by omega), below_setRow hbel3 hgl _⟩
      case measure => simp [intOf]; omega
    · obtain rfl : k = B := by omega
      have hok := overN_ok p k
      generalize overN p k = st at *
      have c0 := q1.cell 0
      have c1 := q1.cell 1
      have c2 := q1.cell 2
      have c3 := q1.cell 3
      have c4 := q1.cell 4
      have c5 := q1.cell 5
      have c6 := q1.cell 6
      have c7 := q1.cell 7
      simp only [valsU, valU, S8.list, List.map_cons, List.map_nil, List.getElem?_cons_zero, List.getElem?_cons_succ] at c0 c1 c2 c3 c4 c5 c6 c7
      go_wp2_with fail
      clear c0 c1 c2 c3 c4 c5 c6 c7 q1 q2
      go_loopw [6, 29] (fun v i wx => ∃ j : Nat, j ≤ 8 ∧ i = .int .i64 j ∧ Own wx w.heap.size 5 v (cellsB (outN (st.list.take j))) ∧ Below w.heap.size w wx) (fun _ i _ => 8 - (intOf i).toNat)
      case atStart => exact ⟨0, by omega, rfl, Own.nil _ _ _, hbel2⟩
      case round =>
        clear hbel2
        obtain ⟨j, hj, rfl, hown, hbel3⟩ := hrel
        have hsz3 := hbel3.size
        by_cases h8 : j < 8
        · have hidx := idx8 st j h8
          have hx := getD_lt32 (st.ok_all hok) j
          have HT : Hid (outN (st.list.take (j + 1)) = outN (st.list.take j) ++ be4 (st.list.getD j 0)) := out_next st j h8
          have hol : (outN (st.list.take j)).length ≤ 32 := by rw [outN_length, List.length_take]; omega
          generalize st.list.getD j 0 = x at *
          generalize outN (st.list.take j) = l at *
          go_wp2_with (at_builtin; refine wpList_append_vals rfl _ _ 150 rfl w.heap.size 5 Tryz.underlying150 (.int .u8 0) rfl 1 (by omega) Tryz.infoB _ (cellsB l) (cellsB (be4 x)) rfl (hown.alloc _) wr.heap.size 4 rfl ?c1 ?c2 ?c3 ?c4 ?_)
          case c1 =>
            rw [be4_cells x hx]
            intro i u hu
            rw [(Row.new wr 5 [.int .u8 ((x : Int) / 16777216), .int .u8 ((x : Int) / 65536 % 256), .int .u8 ((x : Int) / 256 % 256), .int .u8 ((x : Int) % 256)]).cell i]
            exact hu
          case c2 => exact cellsB_one _
          case c3 => simp [cellsB_length, be4]; omega
          case c4 => simp; omega
          · intro v' w4 hown4 hbel4
            rw [← cellsB_append, ← HT.out] at hown4
            go_wp2
            go_roundw
            case rel => exact ⟨j + 1, by omega, by go_num, hown4, (hbel3.alloc hsz3 _).trans hbel4⟩
            case measure => simp [intOf]; omega
        · obtain rfl : j = 8 := by omega
          have e8 : st.list.take 8 = st.list := rfl
          rw [e8] at hown
          have hol := outN_length st.list
          have hne : outN st.list ≠ [] := by intro h; rw [h] at hol; cases hol
          have hconv := hown.text (P := Tryz.prog) hne 150 9 Tryz.underlying150 Tryz.underlying5 Tryz.underlying9
          rw [← HD.out] at hconv
          clear hown hne hol
          go_wp2
          go_ret
          exact ⟨rfl, hbel3⟩
end Go.Proofs.YtialedffpaoacaaGreatDoor
