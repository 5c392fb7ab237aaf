/- NetRead of the model. -/
import Derived.Test.YtchgnjpbjnkdmaaDoorAddrReadS
import Derived.Test.YtchgnjpbjnkdmaaDoorNetText
import Derived.Test.YtchgnjpbjnkdmaaDoorReadN
import Derived.Test.YtchgnjpbjnkdmaaDoorTailB
import Derived.Deep.RegionHeld3
namespace Go.Proofs.YtchgnjpbjnkdmaaDoor
open Go.RowKit Go.Sort

/-- The net whose text it is. -/
theorem net_some (s : ByteArray) (a l : Int) (h : netT a l = s) (hs : s.data.toList ≠ []) : ∃ A N : Nat, a = (A : Int) ∧ l = (N : Int) ∧ netR s.data.toList = some (A, N) := by
  cases hr : rightB a l with
  | false => rw [netT_out a l hr] at h; rw [← h] at hs; exact absurd rfl hs
  | true =>
    have h1 : 0 ≤ a ∧ a ≤ 4294967295 ∧ 0 ≤ l ∧ l ≤ 32 ∧ cutV a l = a := by simpa [rightB] using hr
    obtain ⟨A, rfl⟩ := Int.eq_ofNat_of_zero_le h1.1
    obtain ⟨N, rfl⟩ := Int.eq_ofNat_of_zero_le h1.2.2.1
    refine ⟨A, N, rfl, rfl, (netR_iff _ _ _).2 ⟨by omega, by omega, h1.2.2.2.2, ?_⟩⟩
    rw [← h]
    unfold netT
    rw [if_pos hr]
    simp
/-- No net's text: nothing is read. -/
theorem net_none (s p0 p1 : ByteArray) (hp : spF 47 [] s.data.toList = [p0.data.toList, p1.data.toList]) (hz : ¬ 8000 < p0.size) (h : netT (readA p0).1 (l3N p1.data.toList) ≠ s) : netR s.data.toList = none := by
  apply netR_none_of
  intro a n ha hn hc e
  apply h
  rw [e, netL_pieces] at hp
  simp only [List.cons.injEq, and_true] at hp
  have h1 : addrR p0.data.toList = some a := (addrR_iff _ _).2 ⟨ha, hp.1.symm⟩
  rw [readA_some hz h1, ← hp.2, l3N_dec n (by omega)]
  have hr : rightB (a : Int) (n : Int) = true := by simp [rightB, hc]; omega
  unfold netT
  rw [if_pos hr]
  apply ByteArray.ext
  apply Array.toList_inj.1
  rw [e]
  simp
theorem net_two (l : List UInt8) (h : (spF 47 [] l).length ≠ 2) : netR l = none := by
  apply netR_none_of
  intro a n _ _ _ e
  rw [e, netL_pieces] at h
  exact h rfl
theorem same_belowS {P : Program} {f : FuncId} {args : Array Value} {w : World} {v : Value} (h : Calls P f args w fun e w' => e = .returned v ∧ w = w') : Calls P f args w fun e w' => e = .returned v ∧ Below w.heap.size w w' :=
  h.mono fun _ _ ⟨he, hw⟩ => ⟨he, hw ▸ Below.refl _ _⟩
/-- Three noughts, none of them frozen. -/
def Zero3 (w : World) (b : Nat) : Prop := w.cell? ⟨b, 0, none⟩ = some (.int .i64 0) ∧ w.cell? ⟨b, 1, none⟩ = some (.int .i64 0) ∧ w.cell? ⟨b, 2, none⟩ = some (.int .i64 0) ∧ ∀ o, w.frozen? ⟨b, o, none⟩ = false
theorem Zero3.new (w : World) (t : TypeId) : Zero3 (w.alloc (.cells #[.int .i64 0, .int .i64 0, .int .i64 0] t)) w.heap.size := by
  have h := heap_alloc_new w (.cells #[.int .i64 0, .int .i64 0, .int .i64 0] t)
  refine ⟨?_, ?_, ?_, fun o => ?_⟩
  · rw [cell_of_row _ _ _ _ t _ h]; simp
  · rw [cell_of_row _ _ _ _ t _ h]; simp
  · rw [cell_of_row _ _ _ _ t _ h]; simp
  · unfold World.frozen?; rw [h]; simp
theorem Zero3.later {w W : World} {b : Nat} (h : Zero3 w b) (hl : b < w.heap.size) (hb : Below w.heap.size w W) : Zero3 W b := by
  obtain ⟨h0, h1, h2, h3⟩ := h
  refine ⟨?_, ?_, ?_, fun o => ?_⟩
  · rw [hb.cell (p := ⟨b, 0, none⟩) hl]; exact h0
  · rw [hb.cell (p := ⟨b, 1, none⟩) hl]; exact h1
  · rw [hb.cell (p := ⟨b, 2, none⟩) hl]; exact h2
  · rw [hb.frozen (p := ⟨b, o, none⟩) hl]; exact h3 o
theorem Zero3.of_below {w W : World} {t : TypeId} (hb : Below (w.alloc (.cells #[.int .i64 0, .int .i64 0, .int .i64 0] t)).heap.size (w.alloc (.cells #[.int .i64 0, .int .i64 0, .int .i64 0] t)) W) : Zero3 W w.heap.size :=
  (Zero3.new w t).later (by simp) hb
theorem two_atS {w1 w2 : World} {b : Nat} {x y : Value} (h0 : w1.cell? ⟨b, 0, none⟩ = some x) (h1 : w1.cell? ⟨b, 1, none⟩ = some y) (hb : Below w1.heap.size w1 w2) : w2.cell? ⟨b, 0, none⟩ = some x ∧ w2.cell? ⟨b, 1, none⟩ = some y :=
  ⟨by rw [hb.cell (p := ⟨b, 0, none⟩) (World.block_lt_of_cell? w1 _ h0)]; exact h0, by rw [hb.cell (p := ⟨b, 1, none⟩) (World.block_lt_of_cell? w1 _ h1)]; exact h1⟩
theorem S_of {w W : World} {g : Nat} {x y : Value} (h0 : w.cell? ⟨g, 0, none⟩ = some x) (h1 : w.cell? ⟨g, 1, none⟩ = some y) (hb : Below w.heap.size w W) : (W.cell? ⟨g, 0, none⟩ = some x ∧ W.cell? ⟨g, 1, none⟩ = some y) ∧ Below w.heap.size w W :=
  ⟨⟨by rw [hb.cell (p := ⟨g, 0, none⟩) (World.block_lt_of_cell? w _ h0)]; exact h0, by rw [hb.cell (p := ⟨g, 1, none⟩) (World.block_lt_of_cell? w _ h1)]; exact h1⟩, hb⟩
theorem bel_call {w W wa : World} (h : Below w.heap.size w W) (hb : Below W.heap.size W wa) : Below w.heap.size w wa := h.trans (hb.mono h.size)
theorem bel_alloc {w W : World} {o : Obj} (h : Below w.heap.size w W) : Below w.heap.size w (W.alloc o) := h.alloc h.size _
theorem bel_set2 {w W : World} {u v : Value} (h : Below w.heap.size w W) : Below w.heap.size w ((W.setCell ⟨w.heap.size, 0, none⟩ u).setCell ⟨w.heap.size, 1, none⟩ v) := (h.setCell (Nat.le_refl _) _).setCell (Nat.le_refl _) _
theorem keepG {w W wa : World} {g j : Nat} {v : Value} (hb : Below W.heap.size W wa) (hB : Below w.heap.size w W) (h : w.cell? ⟨g, j, none⟩ = some v) : wa.cell? ⟨g, j, none⟩ = some v := by
  have hg := World.block_lt_of_cell? w _ h
  rw [hb.cell (p := ⟨g, j, none⟩) (Nat.lt_of_lt_of_le hg hB.size), hB.cell (p := ⟨g, j, none⟩) hg]
  exact h
theorem field_num (x c : Int) (w : World) : (Instr.field 31 (.agg #[.int .i64 x, .int .i64 0, .int .i64 c]) 0).run Tryd.prog w = .ok (.int .i64 x) w := by kernel_rfl
set_option maxRecDepth 100000 in
set_option maxHeartbeats 1000000 in
theorem specNetRead_any (s : ByteArray) (w : World) (hs : s.size ≤ 1048576) :
    Calls Tryd.prog 17 #[.string s] w fun e w' => e = .returned (netO (readN s).1.1 (readN s).1.2 (readN s).2) ∧ Below w.heap.size w w' := by
  by_cases hz : 8000 < s.size
  · rw [readN_big hz]
    unfold netO
    go_enter Tryd.func17, Tryd.ntmps17
    go_wp2
    refine bodyPost_ret (v := .agg #[.int .i64 0, .int .i64 0, .int .i64 2]) (by simp [results, Tryd.results17, go_sem]) rfl ⟨rfl, (Below.refl _ _).alloc (Nat.le_refl _) _⟩
  · have HSP : Hid (∀ w, Calls Tryd.prog 38 #[.string s, .int .u8 47] w fun e w' => ∃ v, e = .returned v ∧ Own w' w.heap.size 9 v (texts (spF 47 [] s.data.toList)) ∧ Below w.heap.size w w') := fun w => l01Split_any s 47 w hs
    have HLP : Hid (1 ≤ (spF 47 [] s.data.toList).length) := spF_length_pos 47 s.data.toList []
    have hz2 : s.size ≤ 8000 := by omega
    by_cases h2 : (spF 47 [] s.data.toList).length = 2
    · obtain ⟨l0, l1, hp⟩ : ∃ l0 l1, spF 47 [] s.data.toList = [l0, l1] := by
        match spF 47 [] s.data.toList, h2 with
        | [x, y], _ => exact ⟨x, y, rfl⟩
      have hsh : ∀ p ∈ [l0, l1], p.length ≤ s.size := fun p hpm => by
        have := spF_short 47 s.data.toList [] p (by rw [hp]; exact hpm)
        simpa using this
      have hl0 := hsh l0 (by simp)
      have hl1 := hsh l1 (by simp)
      have hne : s.data.toList ≠ [] := by
        intro e
        rw [e] at hp
        simp [spF] at hp
      rw [hp] at HSP
      have HR : Hid (∀ w, Calls Tryd.prog 16 #[.string ⟨l0.toArray⟩] w fun e w' => e = .returned (numO (readA ⟨l0.toArray⟩).1 0 (readA ⟨l0.toArray⟩).2) ∧ Below w.heap.size w w') := fun w => specAddrRead_any _ w (by simp [ByteArray.size]; omega)
      have HN : Hid (∀ w, Calls Tryd.prog 39 #[.string ⟨l1.toArray⟩] w fun e w' => e = .returned (.int .i64 (l3N l1)) ∧ Below w.heap.size w w') := fun w => by
        have := l03Num_any ⟨l1.toArray⟩ w (by simp [ByteArray.size]; omega)
        exact same_belowS (by simpa using this)
      have HN2 : Hid (∀ w, Calls Tryd.prog 39 #[.string ⟨l1.toArray⟩] w fun e w' => e = .returned (.int .i64 (l3N l1)) ∧ w = w') := fun w => by
        have := l03Num_any ⟨l1.toArray⟩ w (by simp [ByteArray.size]; omega)
        simpa using this
      have HT : Hid (∀ w, Calls Tryd.prog 15 #[.agg #[.int .i64 (readA ⟨l0.toArray⟩).1, .int .i64 (l3N l1)]] w fun e w' => e = .returned (.string (netT (readA ⟨l0.toArray⟩).1 (l3N l1))) ∧ Below w.heap.size w w') := specNetText_any _ _
      have HYES : Hid (netT (readA ⟨l0.toArray⟩).1 (l3N l1) = s → netO (readN s).1.1 (readN s).1.2 (readN s).2 = .agg #[.int .i64 (readA ⟨l0.toArray⟩).1, .int .i64 (l3N l1), .int .i64 0]) := fun h => by
        show _ = _
        obtain ⟨A, N, e1, e2, hr⟩ := net_some s _ _ h hne
        rw [readN_some hz hr, e1, e2]; rfl
      have HNO : Hid (netT (readA ⟨l0.toArray⟩).1 (l3N l1) ≠ s → netO (readN s).1.1 (readN s).1.2 (readN s).2 = .agg #[.int .i64 0, .int .i64 0, .int .i64 3]) := fun h => by
        show _ = _
        rw [readN_none hz (net_none s ⟨l0.toArray⟩ ⟨l1.toArray⟩ (by simpa using hp) (by simp [ByteArray.size]; omega) (by simpa using h))]; rfl
      generalize netO (readN s).1.1 (readN s).1.2 (readN s).2 = V at *
      generalize netT (readA ⟨l0.toArray⟩).1 (l3N l1) = T at *
      generalize (readA ⟨l0.toArray⟩).1 = x at *
      generalize (readA ⟨l0.toArray⟩).2 = xc at *
      generalize l3N l1 = y at *
      have HTX : Hid (texts [l0, l1] = [.string ⟨l0.toArray⟩, .string ⟨l1.toArray⟩]) := rfl
      rw [HTX.out] at HSP
      generalize (⟨l0.toArray⟩ : ByteArray) = p0 at *
      generalize (⟨l1.toArray⟩ : ByteArray) = p1 at *
      clear hp h2 HLP hsh hl0 hl1 hne HTX hz
      unfold numO at HR
      go_enter Tryd.func17, Tryd.ntmps17
      go_wp2_with fail
      refine (HSP.out _).mono ?_
      rintro e w1 ⟨v, rfl, hown, hb1⟩
      obtain ⟨g, cap, rfl, hg, hgl, hlc, hcells⟩ := hown.form (by simp)
      obtain ⟨hc1, hf1⟩ := bcell hb1
      have hs1 : w.heap.size < w1.heap.size := by have := hb1.size; simp at this; omega
      have hB : Below w.heap.size w w1 := ((Below.refl _ _).alloc (Nat.le_refl _) _).trans (hb1.mono (by simp))
      have HZ : Hid (Zero3 w1 w.heap.size) := Zero3.of_below hb1
      have k0 := hcells 0 (.string p0) rfl
      have k1 := hcells 1 (.string p1) rfl
      rw [show ([Value.string p0, Value.string p1] : List Value).length = 2 from rfl] at hlc ⊢
      clear hown hcells
      have hfld : ∀ w, (Instr.field 31 (.agg #[.int .i64 x, .int .i64 0, .int .i64 xc]) 0).run Tryd.prog w = .ok (.int .i64 x) w := fun w => field_num x xc w
      go_wp2_with fail
      have HK : Hid (w1.cell? ⟨g, 0, none⟩ = some (.string p0) ∧ w1.cell? ⟨g, 1, none⟩ = some (.string p1)) := ⟨k0, k1⟩
      go_region_held3 (fun w' => (w'.cell? ⟨g, 0, none⟩ = some (.string p0) ∧ w'.cell? ⟨g, 1, none⟩ = some (.string p1)) ∧ Below w1.heap.size w1 w')
        (first
          | (refine S_of HK.out.1 HK.out.2 ?_; exact (Below.refl _ _).drew)
          | (refine S_of HK.out.1 HK.out.2 ?_; exact ((Below.refl _ _).alloc (Nat.le_refl _) _).drew)
          | (refine S_of HK.out.1 HK.out.2 ?_; exact bel_call (Below.refl w1.heap.size w1).drew hba)
          | (refine S_of HK.out.1 HK.out.2 ?_; exact bel_call ((Below.refl w1.heap.size w1).alloc (Nat.le_refl _) _).drew hba)
          | (refine S_of HK.out.1 HK.out.2 ?_; exact bel_alloc (bel_call (Below.refl w1.heap.size w1).drew hba))
          | (refine S_of HK.out.1 HK.out.2 ?_; exact bel_set2 (bel_call ((Below.refl w1.heap.size w1).alloc (Nat.le_refl _) _).drew hba)))
        (first
          | (go_at_call 16; refine (HR.out _).mono ?_; rintro e wa ⟨rfl, hba⟩; obtain ⟨hca, hfa⟩ := bcell hba; have hza := hba.size)
          | (go_at_call 39; refine (HN2.out _).mono ?_; rintro e wb ⟨rfl, rfl⟩))
      · have e0 := cell2_0 wa (.int .i64 x) (.int .i64 y) 25
        have e1 := cell2_1 wa (.int .i64 x) (.int .i64 y) 25
        have hBW : Below w1.heap.size w1 (wa.alloc (.cells #[.int .i64 x, .int .i64 y] 25)) := bel_alloc (bel_call (Below.refl w1.heap.size w1).drew hba)
        clear hba hca hfa hza
        generalize wa.alloc (.cells #[.int .i64 x, .int .i64 y] 25) = W2 at *
        generalize wa.heap.size = nb at *
        go_wp2_with fail
        refine (HT.out _).mono ?_
        rintro e w3 ⟨rfl, hb3⟩
        obtain ⟨n0, n1⟩ := two_atS e0 e1 hb3
        have hB3 : Below w1.heap.size w1 w3 := bel_call hBW hb3
        obtain ⟨z0, z1, z2, fz⟩ := HZ.out.later hs1 hB3
        have f0 := fz 0
        have f1 := fz 1
        have f2 := fz 2
        have hs3 : w.heap.size < w3.heap.size := Nat.lt_of_lt_of_le hs1 hB3.size
        have hBB := hB.trans (hB3.mono hB.size)
        clear e0 e1 hBW hb3 hB3 fz
        by_cases hT : T = s
        · have hsame := text_same hT
          have HV : Hid _ := HYES.out hT
          clear hT
          go_wp2
          refine bodyPost_ret (v := V) (by rw [HV.out]; simp [results, Tryd.results17, go_sem, z0, z1, z2]) rfl ⟨rfl, ?_⟩
          exact ((hBB.setCell (Nat.le_refl _) _).setCell (Nat.le_refl _) _).setCell (Nat.le_refl _) _
        · have hsame := text_ne hT
          have HV : Hid _ := HNO.out hT
          clear hT
          go_wp2
          refine bodyPost_ret (v := V) (by rw [HV.out]; simp [results, Tryd.results17, go_sem, z0, z1, z2]) rfl ⟨rfl, ?_⟩
          exact ((hBB.setCell (Nat.le_refl _) _).setCell (Nat.le_refl _) _).setCell (Nat.le_refl _) _
      · have e0 := cell2_0 wa (.int .i64 x) (.int .i64 y) 25
        have e1 := cell2_1 wa (.int .i64 x) (.int .i64 y) 25
        have hBW : Below w1.heap.size w1 (wa.alloc (.cells #[.int .i64 x, .int .i64 y] 25)) := bel_alloc (bel_call (Below.refl w1.heap.size w1).drew hba)
        clear hba hca hfa hza
        generalize wa.alloc (.cells #[.int .i64 x, .int .i64 y] 25) = W2 at *
        generalize wa.heap.size = nb at *
        go_wp2_with fail
        refine (HT.out _).mono ?_
        rintro e w3 ⟨rfl, hb3⟩
        obtain ⟨n0, n1⟩ := two_atS e0 e1 hb3
        have hB3 : Below w1.heap.size w1 w3 := bel_call hBW hb3
        obtain ⟨z0, z1, z2, fz⟩ := HZ.out.later hs1 hB3
        have f0 := fz 0
        have f1 := fz 1
        have f2 := fz 2
        have hs3 : w.heap.size < w3.heap.size := Nat.lt_of_lt_of_le hs1 hB3.size
        have hBB := hB.trans (hB3.mono hB.size)
        clear e0 e1 hBW hb3 hB3 fz
        by_cases hT : T = s
        · have hsame := text_same hT
          have HV : Hid _ := HYES.out hT
          clear hT
          go_wp2
          refine bodyPost_ret (v := V) (by rw [HV.out]; simp [results, Tryd.results17, go_sem, z0, z1, z2]) rfl ⟨rfl, ?_⟩
          exact ((hBB.setCell (Nat.le_refl _) _).setCell (Nat.le_refl _) _).setCell (Nat.le_refl _) _
        · have hsame := text_ne hT
          have HV : Hid _ := HNO.out hT
          clear hT
          go_wp2
          refine bodyPost_ret (v := V) (by rw [HV.out]; simp [results, Tryd.results17, go_sem, z0, z1, z2]) rfl ⟨rfl, ?_⟩
          exact ((hBB.setCell (Nat.le_refl _) _).setCell (Nat.le_refl _) _).setCell (Nat.le_refl _) _
      · have a0 := cell2_0 w1 (.int .i64 0) (.int .i64 0) 25
        have a1 := cell2_1 w1 (.int .i64 0) (.int .i64 0) 25
        obtain ⟨b0, b1⟩ := two_atS (w1 := (w1.alloc (.cells #[.int .i64 0, .int .i64 0] 25)).drew) a0 a1 hba
        have e0 : ((wa.setCell ⟨w1.heap.size, 0, none⟩ (.int .i64 x)).setCell ⟨w1.heap.size, 1, none⟩ (.int .i64 y)).cell? ⟨w1.heap.size, 0, none⟩ = some (.int .i64 x) := by
          rw [World.cell?_setCell_other _ _ _ _ (by simp), World.cell?_setCell_same _ _ _ b0]
        have e1 : ((wa.setCell ⟨w1.heap.size, 0, none⟩ (.int .i64 x)).setCell ⟨w1.heap.size, 1, none⟩ (.int .i64 y)).cell? ⟨w1.heap.size, 1, none⟩ = some (.int .i64 y) := by
          have b2 : (wa.setCell ⟨w1.heap.size, 0, none⟩ (.int .i64 x)).cell? ⟨w1.heap.size, 1, none⟩ = some (.int .i64 0) := by rw [World.cell?_setCell_other _ _ _ _ (by simp)]; exact b1
          rw [World.cell?_setCell_same _ _ _ b2]
        have hBW : Below w1.heap.size w1 ((wa.setCell ⟨w1.heap.size, 0, none⟩ (.int .i64 x)).setCell ⟨w1.heap.size, 1, none⟩ (.int .i64 y)) := bel_set2 (bel_call ((Below.refl w1.heap.size w1).alloc (Nat.le_refl _) _).drew hba)
        clear hba hca hfa hza a0 a1 b0 b1
        generalize (wa.setCell ⟨w1.heap.size, 0, none⟩ (.int .i64 x)).setCell ⟨w1.heap.size, 1, none⟩ (.int .i64 y) = W2 at *
        go_wp2_with fail
        refine (HT.out _).mono ?_
        rintro e w3 ⟨rfl, hb3⟩
        obtain ⟨n0, n1⟩ := two_atS e0 e1 hb3
        have hB3 : Below w1.heap.size w1 w3 := bel_call hBW hb3
        obtain ⟨z0, z1, z2, fz⟩ := HZ.out.later hs1 hB3
        have f0 := fz 0
        have f1 := fz 1
        have f2 := fz 2
        have hs3 : w.heap.size < w3.heap.size := Nat.lt_of_lt_of_le hs1 hB3.size
        have hBB := hB.trans (hB3.mono hB.size)
        clear e0 e1 hBW hb3 hB3 fz
        by_cases hT : T = s
        · have hsame := text_same hT
          have HV : Hid _ := HYES.out hT
          clear hT
          go_wp2
          refine bodyPost_ret (v := V) (by rw [HV.out]; simp [results, Tryd.results17, go_sem, z0, z1, z2]) rfl ⟨rfl, ?_⟩
          exact ((hBB.setCell (Nat.le_refl _) _).setCell (Nat.le_refl _) _).setCell (Nat.le_refl _) _
        · have hsame := text_ne hT
          have HV : Hid _ := HNO.out hT
          clear hT
          go_wp2
          refine bodyPost_ret (v := V) (by rw [HV.out]; simp [results, Tryd.results17, go_sem, z0, z1, z2]) rfl ⟨rfl, ?_⟩
          exact ((hBB.setCell (Nat.le_refl _) _).setCell (Nat.le_refl _) _).setCell (Nat.le_refl _) _
    · have HV : Hid (netO (readN s).1.1 (readN s).1.2 (readN s).2 = .agg #[.int .i64 0, .int .i64 0, .int .i64 3]) := by show _ = _; rw [readN_none hz (net_two _ h2)]; rfl
      generalize netO (readN s).1.1 (readN s).1.2 (readN s).2 = V at *
      generalize spF 47 [] s.data.toList = ps at *
      go_enter Tryd.func17, Tryd.ntmps17
      go_wp2_with fail
      refine (HSP.out _).mono ?_
      rintro e w1 ⟨v, rfl, hown, hb1⟩
      obtain ⟨g, cap, rfl, hg, hgl, hlc, hcells⟩ := hown.form (by intro e; have := HLP.out; rw [← texts_length, e] at this; simp at this)
      rw [texts_length] at hlc ⊢
      obtain ⟨hc1, hf1⟩ := bcell hb1
      have hs1 : w.heap.size < w1.heap.size := by have := hb1.size; simp at this; omega
      have hB : Below w.heap.size w w1 := ((Below.refl _ _).alloc (Nat.le_refl _) _).trans (hb1.mono (by simp))
      have h2b : ((ps.length : Int) != 2) = true := by simp; omega
      clear hown hcells h2
      go_wp2
      refine bodyPost_ret (v := V) (by rw [HV.out]; simp [results, Tryd.results17, go_sem, hc1]) rfl ⟨rfl, ?_⟩
      exact ((hB.setCell (Nat.le_refl _) _).setCell (Nat.le_refl _) _).setCell (Nat.le_refl _) _
end Go.Proofs.YtchgnjpbjnkdmaaDoor
