/- The state behind one more block, of the program. -/
import Derived.Test.YtialedffpaoacaaGreatDoorBlockNums
import Derived.Test.YtialedffpaoacaaGreatDoorTail
import Derived.Deep.WholeRow
namespace Go.Proofs.YtialedffpaoacaaGreatDoor
open Go.RowKit

/-- What the table of the rounds' keys holds, in block 0. -/
def Laid (w : World) : Prop := ∀ i, i < 64 → w.cell? ⟨0, i, none⟩ = some (.int .u32 ((keysN.getD i 0 : Nat) : Int))
theorem Laid.lt {w : World} (h : Laid w) : 0 < w.heap.size := World.block_lt_of_cell? w ⟨0, 0, none⟩ (h 0 (by omega))
theorem Laid.below {w w' : World} (h : Laid w) (hb : Below w.heap.size w w') : Laid w' := by
  intro i hi
  rw [hb.cell (p := ⟨0, i, none⟩) h.lt]
  exact h i hi
theorem Tryz.size8 : (Tryz.prog.info? 257).map (·.size) = some 8 := by kernel_rfl
/-- A whole array into the block that was made last. -/
theorem wpList_store_last {P : Program} {ops : Array Oper} {rest : List Oper} {o : Oper} {a : Act} {w : World} {Q : Exit → Act → World → Prop} (hgd : o.guard = none) (ty : TypeId) (x y : Operand) (ho : o.op = .store ty x y)
    (cells : Array Value) (hx : a.eval x = .pointer (some ⟨w.heap.size, 0, none⟩)) (hy : a.eval y = .agg cells)
    (t : TypeId) (old : Array Value) (hi : (P.info? ty).map (·.size) = some cells.size)
    (hold : old.size = cells.size) (h1 : cells.all (·.oneCell') = true)
    (h : wpList P ops Q rest (a.put o.dst undef) (w.alloc (.cells cells t))) : wpList P ops Q (o :: rest) a (w.alloc (.cells old t)) := by
  refine wpList_store_row hgd ty x y ho w.heap.size cells hx hy t old (heap_alloc_new w _) hi hold h1 ?_
  rw [World.setRow_alloc_new]
  exact h
theorem all_one {l : List Value} (h : ∀ v ∈ l, v.oneCell' = true) : l.toArray.all (·.oneCell') = true := by
  rw [Array.all_eq_true_iff_forall_mem]; intro v hv; exact h v (by simpa using hv)
theorem wpList_store8 {ops : Array Oper} {rest : List Oper} {o : Oper} {a : Act} {w : World} {Q : Exit → Act → World → Prop} (hgd : o.guard = none) (x y : Operand) (ho : o.op = .store 257 x y)
    (g : Nat) (s' : S8) (hx : a.eval x = .pointer (some ⟨g, 0, none⟩)) (hy : a.eval y = .agg #[.int .u32 s'.a, .int .u32 s'.b, .int .u32 s'.c, .int .u32 s'.d, .int .u32 s'.e, .int .u32 s'.f, .int .u32 s'.g, .int .u32 s'.h])
    (l : List Value) (hl : l.length = 8) (hg : Row w g 257 l)
    (h : wpList Tryz.prog ops Q rest (a.put o.dst undef) (w.setRow g (valsU s'.list).toArray)) : wpList Tryz.prog ops Q (o :: rest) a w :=
  wpList_store_row hgd 257 x y ho g (valsU s'.list).toArray hx hy 257 _ hg Tryz.size8 (by simp [valsU_length, S8.list_length, hl]) (all_one (valsU_one _)) h
theorem wpList_storeL {ops : Array Oper} {rest : List Oper} {o : Oper} {a : Act} {w : World} {Q : Exit → Act → World → Prop} (hgd : o.guard = none) (x y : Operand) (ho : o.op = .store 257 x y)
    (g : Nat) (l' : List Value) (hx : a.eval x = .pointer (some ⟨g, 0, none⟩)) (hy : a.eval y = .agg l'.toArray) (hl' : l'.length = 8) (h1 : ∀ v ∈ l', v.oneCell' = true)
    (l : List Value) (hl : l.length = 8) (hg : Row w g 257 l)
    (h : wpList Tryz.prog ops Q rest (a.put o.dst undef) (w.setRow g l'.toArray)) : wpList Tryz.prog ops Q (o :: rest) a w :=
  wpList_store_row hgd 257 x y ho g l'.toArray hx hy 257 _ hg (by simp [hl', Tryz.size8]) (by simp [hl, hl']) (all_one h1) h
theorem wpList_loadL {ops : Array Oper} {rest : List Oper} {o : Oper} {a : Act} {w : World} {Q : Exit → Act → World → Prop} (hgd : o.guard = none) (x : Operand) (ho : o.op = .load 257 x)
    (g : Nat) (hx : a.eval x = .pointer (some ⟨g, 0, none⟩)) (l : List Value) (hl : l.length = 8) (hg : Row w g 257 l)
    (h : wpList Tryz.prog ops Q rest (a.put o.dst (.agg l.toArray)) w) : wpList Tryz.prog ops Q (o :: rest) a w :=
  wpList_load_row hgd 257 x ho g hx 257 l.toArray (0, 0) _ hg Tryz.underlying257 rfl (by simp [hl, Tryz.size8]) h
def mixL (sl vl : List Nat) (k : Nat) : List Nat := (List.zipWith (fun a b => (a + b) % 4294967296) sl vl).take k ++ sl.drop k
theorem mixL_length (sl vl : List Nat) (k : Nat) (h1 : sl.length = 8) (h2 : vl.length = 8) (hk : k ≤ 8) : (mixL sl vl k).length = 8 := by simp [mixL, h1, h2]; omega
theorem mixL_get (sl vl : List Nat) (k : Nat) (h1 : sl.length = 8) (h2 : vl.length = 8) (hk : k < 8) : (mixL sl vl k).getD k 0 = sl.getD k 0 := by
  have hl : ((List.zipWith (fun a b => (a + b) % 4294967296) sl vl).take k).length = k := by simp [h1, h2]; omega
  simp only [mixL, List.getD_eq_getElem?_getD]
  rw [List.getElem?_append_right (by omega), hl]
  simp
theorem mixL_set (sl vl : List Nat) (k : Nat) (h1 : sl.length = 8) (h2 : vl.length = 8) (hk : k < 8) : (mixL sl vl k).set k ((sl.getD k 0 + vl.getD k 0) % 4294967296) = mixL sl vl (k + 1) := by
  have hz : (List.zipWith (fun a b => (a + b) % 4294967296) sl vl).length = 8 := by simp [h1, h2]
  have hl : ((List.zipWith (fun a b => (a + b) % 4294967296) sl vl).take k).length = k := by simp [h1, h2]; omega
  have hg : (List.zipWith (fun a b => (a + b) % 4294967296) sl vl)[k]'(by omega) = (sl.getD k 0 + vl.getD k 0) % 4294967296 := by
    simp [h1, h2, hk]
  unfold mixL
  rw [List.set_append, if_neg (by omega), hl, Nat.sub_self, List.drop_eq_getElem_cons (by omega : k < sl.length), List.set_cons_zero, List.take_succ_eq_append_getElem (by omega), hg]
  simp
theorem mixL_all (s v : S8) : mixL s.list v.list 8 = (addS s v).list := rfl
theorem roundN_mod (s : S8) (x : Nat) : roundN s (x % 4294967296) = roundN s x := by
  simp only [roundN, t1N, Nat.add_mod_mod]
theorem implRound_at (st rn : S8) (A : Nat) (w : World) (hs : st.ok) (hr : Hid (rn = roundN st A)) :
    Calls Tryz.prog 219 #[.agg #[.int .u32 st.a, .int .u32 st.b, .int .u32 st.c, .int .u32 st.d, .int .u32 st.e, .int .u32 st.f, .int .u32 st.g, .int .u32 st.h], .int .u32 A] w fun e w' => e = .returned (.agg #[.int .u32 rn.a, .int .u32 rn.b, .int .u32 rn.c, .int .u32 rn.d, .int .u32 rn.e, .int .u32 rn.f, .int .u32 rn.g, .int .u32 rn.h]) ∧ Below w.heap.size w w' := by
  have h := implRound_any st A w hs
  rw [← hr.out] at h
  exact h
theorem stV_eq (s : S8) : stV s = .agg (valsU s.list).toArray := rfl
set_option maxRecDepth 100000 in
set_option maxHeartbeats 1000000 in
theorem implBlock_any (s : S8) (b : List UInt8) (g o cap : Nat) (w : World) (hs : s.ok) (hL : Laid w) (hb : b.length = 64) (hcap : 64 ≤ cap) (hm : cap ≤ 1000000) (hrow : BytesAt w g o b) (hg : g < w.heap.size) :
    Calls Tryz.prog 211 #[stV s, .slice (some ⟨g, o, none⟩) 64 cap] w fun e w' => e = .returned (stV (blockN s b)) ∧ Below w.heap.size w w' := by
  have z1 : (valsU (wl b 64)).toArray.size = 64 := by simp [valsU_length, wl_length]
  have one := valsU_one (wl b 64)
  generalize hR : stV (blockN s b) = R
  have HR : Hid (stV (blockN s b) = R) := hR
  clear hR
  unfold stV
  go_enter Tryz.func211, Tryz.ntmps211
  go_wp2_with fail
  refine (implNums_any b g o cap _ hb hcap hm ?h1 ?h2).mono ?_
  case h1 => exact hrow.below (((Below.refl _ _).alloc (Nat.le_refl _) _).alloc (by simp) _) hg
  case h2 => simp; omega
  rintro e w1 ⟨rfl, hb1⟩
  have hbel : Below w.heap.size w w1 := ((((Below.refl _ _).alloc (Nat.le_refl _) _).alloc (by simp) _).trans (hb1.mono (by simp; omega)))
  have r0 : Row w1 w.heap.size 257 (valsU s.list) := ((Row.new w _ _).alloc _).below hb1 (by simp; omega)
  have r1 : Row w1 (w.heap.size + 1) 257 (valsU (List.replicate 8 0)) := Row.below (heap_alloc2_new _ _ _) hb1 (by simp)
  have hsz : w.heap.size + 2 ≤ w1.heap.size := by have := hb1.size; simp at this; omega
  clear hb1
  have c0 := r0.cell 0
  have c1 := r0.cell 1
  have c2 := r0.cell 2
  have c3 := r0.cell 3
  have c4 := r0.cell 4
  have c5 := r0.cell 5
  have c6 := r0.cell 6
  have c7 := r0.cell 7
  simp only [valsU, valU, S8.list, List.map_cons, List.map_nil, List.getElem?_cons_zero, List.getElem?_cons_succ] at c0 c1 c2 c3 c4 c5 c6 c7
  have hne : ¬ (w.heap.size = w1.heap.size) := by omega
  have hlt : w.heap.size < w1.heap.size := by omega
  generalize hV : valsU (wl b 64) = V1 at *
  have HV : Hid (valsU (wl b 64) = V1) := hV
  clear hV
  go_wp2_with (refine wpList_store_last rfl 264 _ _ rfl _ rfl rfl 264 _ (by rw [z1]; exact Tryz.size64) (by rw [z1]; rfl) (all_one one) ?_)
  go_loopw [12] (fun i wr => ∃ k : Nat, k ≤ 64 ∧ i = .int .i64 k ∧ Row wr w1.heap.size 264 V1 ∧ Row wr (w1.heap.size + 1) 257 (valsU (roundsN (wl b 64) s k).list) ∧ Row wr w.heap.size 257 (valsU s.list) ∧ Row wr (w.heap.size + 1) 257 (valsU (List.replicate 8 0)) ∧ Below w.heap.size w wr) (fun i _ => 64 - (intOf i).toNat)
  case atStart => exact ⟨0, by omega, rfl, (Row.new w1 _ _).alloc _, heap_alloc2_new _ _ _, (r0.alloc _).alloc _, (r1.alloc _).alloc _, (hbel.alloc (by omega) _).alloc (by simp; omega) _⟩
  case round =>
    clear c0 c1 c2 c3 c4 c5 c6 c7 r0 r1
    obtain ⟨k, hk, rfl, q1, q2, q3, q4, hbel2⟩ := hrel
    by_cases h64 : k < 64
    · have HK : Hid (roundsN (wl b 64) s (k + 1) = roundN (roundsN (wl b 64) s k) ((keysN.getD k 0 + (wl b 64).getD k 0) % 4294967296)) := (roundN_mod _ _).symm
      have hok := roundsN_ok (wl b 64) hs k
      have hx := getD_lt32 (wl_lt b 64) k
      have hkk := getD_lt32 keysN_lt k
      have cg := (hL.below hbel2) k h64
      have cx := q1.cell k
      rw [← HV.out, valsU_get _ k (by rw [wl_length]; exact h64)] at cx
      have hadd : IntKind.u32.wrap (((keysN.getD k 0 : Nat) : Int) + (((wl b 64).getD k 0 : Nat) : Int)) = (((keysN.getD k 0 + (wl b 64).getD k 0) % 4294967296 : Nat) : Int) := by rw [IntKind.wrap_u32]; omega
      generalize (keysN.getD k 0 + (wl b 64).getD k 0) % 4294967296 = A at *
      generalize keysN.getD k 0 = K at *
      generalize (wl b 64).getD k 0 = X at *
      generalize roundsN (wl b 64) s k = st at *
      generalize hrn : roundsN (wl b 64) s (k + 1) = rn at *
      have HN : Hid (roundsN (wl b 64) s (k + 1) = rn) := hrn
      clear hrn
      have f0 := q2.frozen 0
      have f1 := q2.frozen 1
      have f2 := q2.frozen 2
      have f3 := q2.frozen 3
      have f4 := q2.frozen 4
      have f5 := q2.frozen 5
      have f6 := q2.frozen 6
      have f7 := q2.frozen 7
      have hz := q2.lt
      have c0 := q2.cell 0
      have c1 := q2.cell 1
      have c2 := q2.cell 2
      have c3 := q2.cell 3
      have c4 := q2.cell 4
      have c5 := q2.cell 5
      have c6 := q2.cell 6
      have c7 := q2.cell 7
      simp only [valsU, valU, S8.list, List.map_cons, List.map_nil, List.getElem?_cons_zero, List.getElem?_cons_succ] at c0 c1 c2 c3 c4 c5 c6 c7
      have i0 : (0 : Int) ≤ (k : Int) := by omega
      have i1 : (k : Int) < 64 := by omega
      go_wp2_with fail
      refine wp_region_tail 8 (by kernel_rfl) (by kernel_rfl) ?_
      simp only [List.take_succ_cons, List.take_zero, List.drop_succ_cons, List.drop_zero]
      repeat (quiet_step (fail))
      refine wpQuiet_nil ?_
      intro _ hw'
      obtain ⟨nq, hw''⟩ := hw'
      subst hw''
      go_wp2_with fail
      refine (implRound_at st rn A _ hok HK).mono ?_
      rintro e w2 ⟨rfl, hb2⟩
      have p1 : Row w2 w1.heap.size 264 V1 := (q1.drewN nq).below hb2 q1.lt
      have p2 : Row w2 (w1.heap.size + 1) 257 (valsU st.list) := (q2.drewN nq).below hb2 q2.lt
      have p3 : Row w2 w.heap.size 257 (valsU s.list) := (q3.drewN nq).below hb2 q3.lt
      have p4 : Row w2 (w.heap.size + 1) 257 (valsU (List.replicate 8 0)) := (q4.drewN nq).below hb2 q4.lt
      have hbel3 : Below w.heap.size w w2 := (below_drewN hbel2 nq).trans (hb2.mono hbel2.size)
      clear hb2 c0 c1 c2 c3 c4 c5 c6 c7 f0 f1 f2 f3 f4 f5 f6 f7 q1 q2 q3 q4 cg cx
      go_wp2_with (refine wpList_store8 rfl _ _ rfl (w1.heap.size + 1) rn rfl rfl _ rfl p2 ?_)
      go_roundw
      case rel => exact ⟨k + 1, by omega, by go_num, p1.putOther _ (by omega), by rw [HN.out]; exact p2.put _, p3.putOther _ (by omega), p4.putOther _ (by omega), below_setRow hbel3 (by omega) _⟩
      case measure => simp [intOf]; omega
    · obtain rfl : k = 64 := by omega
      have HB : Hid (blockN s b = addS s (roundsN (wl b 64) s 64)) := rfl
      have hok := roundsN_ok (wl b 64) hs 64
      generalize roundsN (wl b 64) s 64 = v at *
      go_wp2_with fail
      rw [show ((64 : Nat) : Int) = 64 from rfl]
      go_loopw [25] (fun i wx => ∃ k : Nat, k ≤ 8 ∧ i = .int .i64 k ∧ Row wx w.heap.size 257 (valsU (mixL s.list v.list k)) ∧ Row wx (w1.heap.size + 1) 257 (valsU v.list) ∧ Row wx (w.heap.size + 1) 257 (valsU (List.replicate 8 0)) ∧ Below w.heap.size w wx) (fun i _ => 8 - (intOf i).toNat)
      case atStart => exact ⟨0, by omega, rfl, q3, q2, q4, hbel2⟩
      case round =>
        clear q1 q2 q3 q4 hbel2
        obtain ⟨k, hk, rfl, q1, q2, q3, hbel2⟩ := hrel
        have hl1 := s.list_length
        have hl2 := v.list_length
        by_cases h8 : k < 8
        · have c1 := q1.cell k
          have c2 := q2.cell k
          have f1 := q1.frozen k
          rw [valsU_get _ k (by rw [mixL_length _ _ _ hl1 hl2 hk]; exact h8), mixL_get _ _ _ hl1 hl2 h8] at c1
          rw [valsU_get _ k (by omega)] at c2
          have HS : Hid _ := mixL_set s.list v.list k hl1 hl2 h8
          generalize s.list.getD k 0 = x1 at *
          generalize v.list.getD k 0 = x2 at *
          have i0 : (0 : Int) ≤ (k : Int) := by omega
          have i1 : (k : Int) < 8 := by omega
          go_wp2_with fail
          refine wp_region_tail 8 (by kernel_rfl) (by kernel_rfl) ?_
          simp only [List.take_succ_cons, List.take_zero, List.drop_succ_cons, List.drop_zero]
          repeat (quiet_step (fail))
          refine wpQuiet_nil ?_
          intro _ hw'
          obtain ⟨nq, hw''⟩ := hw'
          subst hw''
          go_wp2
          go_roundw
          case rel =>
            refine ⟨k + 1, by omega, by go_num, ?_, (q2.drewN _).other k _ (by omega), (q3.drewN _).other k _ (by omega), (below_drewN hbel2 _).setCell (by simp) _⟩
            have h := (q1.drewN nq).set k (.int .u32 (((x1 + x2) % 4294967296 : Nat) : Int))
            rw [valsU_set, HS.out] at h
            exact h
          case measure => simp [intOf]; omega
        · have hl3 : (valsU (mixL s.list v.list 8)).length = 8 := rfl
          have one3 := valsU_one (mixL s.list v.list 8)
          obtain rfl : k = 8 := by omega
          have HF : Hid (.agg (valsU (mixL s.list v.list 8)).toArray = R) := by show _ = _; rw [← HR.out, HB.out, stV_eq, mixL_all]
          generalize valsU (mixL s.list v.list 8) = L at *
          have hrow2 := q3.put L
          have hb2 := below_setRow hbel2 (show w.heap.size ≤ w.heap.size + 1 by omega) L.toArray
          go_wp2_with (first | (refine wpList_loadL rfl _ rfl w.heap.size rfl L hl3 q1 ?_) | (refine wpList_storeL rfl _ _ rfl (w.heap.size + 1) L rfl rfl hl3 one3 _ rfl q3 ?_))
          refine bodyPost_ret (v := .agg L.toArray) ?_ rfl ⟨by rw [HF.out], hb2⟩
          refine results_cell_row Tryz.results211 _ _ (w.heap.size + 1) 257 _ (0, 0) _ ?_ hrow2 Tryz.underlying257 rfl (by simp [hl3, Tryz.size8])
          simp [Act.put]
end Go.Proofs.YtialedffpaoacaaGreatDoor
