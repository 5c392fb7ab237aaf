/- A datagram's bytes, of the program. -/
import Derived.Test.YtchgnjpbjnkdmaaBodyI
namespace Go.Proofs.Ytchgnjpbjnkdmaa
open Go.RowKit

theorem own_slice {w : World} {base : Nat} {v : Value} {l : List UInt8} {n : Nat} (h : Own w base 5 v (cellsB l)) (hl : l.length = n) (hn : 0 < n) :
    ∃ g cap, v = .slice (some ⟨g, 0, none⟩) n cap ∧ BytesIn w g 0 l := by
  obtain ⟨g, cap, rfl, _, _, _, hc⟩ := h.form (by intro e; have := congrArg List.length e; rw [cellsB_length, hl] at this; simp at this; omega)
  exact ⟨g, cap, by rw [cellsB_length, hl], BytesIn.of_cells hc⟩
set_option maxRecDepth 100000 in
set_option maxHeartbeats 2000000 in
theorem implDgramBytes_in (s d sp dp ttl : Int) (t : ByteArray) (w : World) (hR : dgB s d sp dp ttl t.size = true) :
    Calls Try.prog 27 #[dgV s d sp dp ttl t] w fun e w' => e = .returned (.string (dgT s d sp dp ttl t)) ∧ Below w.heap.size w w' := by
  have HRI : Hid (∀ w, Calls Try.prog 40 #[dgV s d sp dp ttl t] w fun e w' => e = .returned (.bool (dgB s d sp dp ttl t.size)) ∧ Below w.heap.size w w') := implDgramRight_any s d sp dp ttl t
  rw [hR] at HRI
  obtain ⟨hs, hd, hsp, hdp, htt, hn⟩ := dgB_spec hR
  have hts : t.data.toList.length = t.size := by simp
  have hsl := sumN_le (headL s d ttl t.size 0)
  have hbl := bsumN_le s d sp dp t.data.toList
  have HH : Hid (∀ (W : World) (x : Int), w.heap.size ≤ W.heap.size → 0 ≤ x → x ≤ 65535 → Calls Try.prog 61 #[dgV s d sp dp ttl t, .int .i64 x] W fun e w' => ∃ v, e = .returned v ∧ Own w' w.heap.size 5 v (cellsB (headL s d ttl t.size x)) ∧ Below W.heap.size W w') :=
    fun W x hW h0 h1 => (implHead_any s d sp dp ttl t x W hs hd htt hn ⟨h0, h1⟩).mono fun e w' ⟨v, he, ho, hb⟩ => ⟨v, he, ho.mono hW, hb⟩
  have HH0 : Hid (∀ (W : World), w.heap.size ≤ W.heap.size → Calls Try.prog 61 #[dgV s d sp dp ttl t, .int .i64 0] W fun e w' => ∃ v, e = .returned v ∧ Own w' w.heap.size 5 v (cellsB (headL s d ttl t.size 0)) ∧ Below W.heap.size W w') := fun W hW => HH.out W 0 hW (by omega) (by omega)
  have HH1 : Hid (∀ (W : World), w.heap.size ≤ W.heap.size → Calls Try.prog 61 #[dgV s d sp dp ttl t, .int .i64 ((sumN (headL s d ttl t.size 0) : Nat) : Int)] W fun e w' => ∃ v, e = .returned v ∧ Own w' w.heap.size 5 v (cellsB (headL s d ttl t.size ((sumN (headL s d ttl t.size 0) : Nat) : Int))) ∧ Below W.heap.size W w') := fun W hW => HH.out W _ hW (by omega) (by omega)
  have HS : Hid (∀ (W : World) g cap, BytesIn W g 0 (headL s d ttl t.size 0) → Calls Try.prog 62 #[.slice (some ⟨g, 0, none⟩) 20 cap] W fun e w' => e = .returned (.int .i64 ((sumN (headL s d ttl t.size 0) : Nat) : Int)) ∧ W = w') := fun W g cap hB => by
    have := sumOf_any (headL s d ttl t.size 0) g 0 cap W (by rw [headL_length]; omega) hB
    rw [headL_length] at this
    exact this
  have HBS : Hid (∀ (W : World), Calls Try.prog 64 #[dgV s d sp dp ttl t] W fun e w' => e = .returned (.int .i64 ((bsumN s d sp dp t.data.toList : Nat) : Int)) ∧ Below W.heap.size W w') := fun W => implBodySum_any s d sp dp ttl t W hR
  have HBO : Hid (∀ (W : World), w.heap.size ≤ W.heap.size → Calls Try.prog 63 #[dgV s d sp dp ttl t, .int .i64 ((bsumN s d sp dp t.data.toList : Nat) : Int)] W fun e w' => ∃ v, e = .returned v ∧ Own w' w.heap.size 5 v (cellsB (bodyL sp dp t.data.toList ((bsumN s d sp dp t.data.toList : Nat) : Int))) ∧ Below W.heap.size W w') :=
    fun W hW => (implBody_any s d sp dp ttl t _ W hsp hdp hn (by omega)).mono fun e w' ⟨v, he, ho, hb⟩ => ⟨v, he, ho.mono hW, hb⟩
  have HL0 : Hid ((headL s d ttl t.size 0).length = 20) := headL_length _ _ _ _ _
  have HL1 : Hid ((headL s d ttl t.size ((sumN (headL s d ttl t.size 0) : Nat) : Int)).length = 20) := headL_length _ _ _ _ _
  have HL2 : Hid ((bodyL sp dp t.data.toList ((bsumN s d sp dp t.data.toList : Nat) : Int)).length = 8 + t.size) := by show _ = _; rw [bodyL_length, hts]
  have HV : Hid (∀ (v : Value) (W : World), Own W w.heap.size 5 v (cellsB (headL s d ttl t.size ((sumN (headL s d ttl t.size 0) : Nat) : Int) ++ bodyL sp dp t.data.toList ((bsumN s d sp dp t.data.toList : Nat) : Int))) → (convert 22 9 v).run Try.prog W = .ok (.string (dgT s d sp dp ttl t)) W) := fun v W h => by
    refine own_conv h ?_ ?_
    · intro e; have := congrArg List.length e; rw [List.length_append, headL_length] at this; simp at this
    · rw [dgT, dgL, hts]
  unfold dgV at *
  generalize headL s d ttl t.size ((sumN (headL s d ttl t.size 0) : Nat) : Int) = HD at *
  generalize bodyL sp dp t.data.toList ((bsumN s d sp dp t.data.toList : Nat) : Int) = BY at *
  generalize sumN (headL s d ttl t.size 0) = HSum at *
  generalize bsumN s d sp dp t.data.toList = BSum at *
  generalize headL s d ttl t.size 0 = H0 at *
  clear HH hR hs hd hsp hdp htt hsl hbl hts
  go_enter Try.func27, Try.ntmps27
  go_wp2_with fail
  refine (HRI.out _).mono ?_
  rintro e w1 ⟨rfl, hb1⟩
  have HR : Hid (Row w1 w.heap.size 40 [.int .i64 s, .int .i64 d, .int .i64 sp, .int .i64 dp, .int .i64 ttl, .string t]) := (Row.new w 40 [.int .i64 s, .int .i64 d, .int .i64 sp, .int .i64 dp, .int .i64 ttl, .string t]).below hb1 (by simp)
  have hB1 := after_next (new_below0 w (.cells #[.int .i64 s, .int .i64 d, .int .i64 sp, .int .i64 dp, .int .i64 ttl, .string t] 40)) hb1 (by simp)
  clear hb1 HRI
  go_wp2_with fail
  have hGN : (([(7, Is (.agg #[.int .i64 s, .int .i64 d, .int .i64 sp, .int .i64 dp, .int .i64 ttl, .string t])), (8, Is (.agg #[.int .i64 s, .int .i64 d, .int .i64 sp, .int .i64 dp, .int .i64 ttl, .string t])), (9, fun x W => Own W w.heap.size 5 x (cellsB H0)), (10, Is (.int .i64 (HSum : Int))), (11, fun x W => Own W w.heap.size 5 x (cellsB HD)), (3, fun x W => Own W w.heap.size 5 x (cellsB HD))] : List (Nat × (Value → World → Prop))).map (·.1)).Nodup := by simp
  refine wp_region_steady 6 (SlotG [(7, Is (.agg #[.int .i64 s, .int .i64 d, .int .i64 sp, .int .i64 dp, .int .i64 ttl, .string t])), (8, Is (.agg #[.int .i64 s, .int .i64 d, .int .i64 sp, .int .i64 dp, .int .i64 ttl, .string t])), (9, fun x W => Own W w.heap.size 5 x (cellsB H0)), (10, Is (.int .i64 (HSum : Int))), (11, fun x W => Own W w.heap.size 5 x (cellsB HD)), (3, fun x W => Own W w.heap.size 5 x (cellsB HD))]) (by kernel_rfl) (by kernel_rfl) (Stabs.all ⟨stab_is _, stab_is _, stab_own w.heap.size (cellsB H0), stab_is _, stab_own w.heap.size (cellsB HD), stab_own w.heap.size (cellsB HD), trivial⟩) ?_ ?_
  · intro o ho
    simp only [List.take_succ_cons, List.take_zero, List.mem_cons, List.not_mem_nil, or_false] at ho
    rcases ho with rfl | rfl | rfl | rfl | rfl | rfl
    · intro a' w' hb ha hdep
      have d1 : a'.tmps.getD 1 undef = .pointer (some ⟨w.heap.size, 0, none⟩) := ha.at 1 (by kernel_rfl)
      have hmk := fun (x : Value) (W : World) => SlotG.mk (x := x) (w := W) 0 rfl hGN
      clear hGN ha hdep
      have c0 : w'.cell? ⟨w.heap.size, 0, none⟩ = some (.int .i64 s) := (HR.out.below hb HR.out.lt).cell 0
      have c1 : w'.cell? ⟨w.heap.size, 1, none⟩ = some (.int .i64 d) := (HR.out.below hb HR.out.lt).cell 1
      have c2 : w'.cell? ⟨w.heap.size, 2, none⟩ = some (.int .i64 sp) := (HR.out.below hb HR.out.lt).cell 2
      have c3 : w'.cell? ⟨w.heap.size, 3, none⟩ = some (.int .i64 dp) := (HR.out.below hb HR.out.lt).cell 3
      have c4 : w'.cell? ⟨w.heap.size, 4, none⟩ = some (.int .i64 ttl) := (HR.out.below hb HR.out.lt).cell 4
      have c5 : w'.cell? ⟨w.heap.size, 5, none⟩ = some (.string t) := (HR.out.below hb HR.out.lt).cell 5
      go_simp
      exact ⟨_, rfl, Below.refl _ _, hmk _ _ rfl⟩
    · intro a' w' hb ha hdep
      have d1 : a'.tmps.getD 1 undef = .pointer (some ⟨w.heap.size, 0, none⟩) := ha.at 1 (by kernel_rfl)
      have hmk := fun (x : Value) (W : World) => SlotG.mk (x := x) (w := W) 1 rfl hGN
      clear hGN ha hdep
      have c0 : w'.cell? ⟨w.heap.size, 0, none⟩ = some (.int .i64 s) := (HR.out.below hb HR.out.lt).cell 0
      have c1 : w'.cell? ⟨w.heap.size, 1, none⟩ = some (.int .i64 d) := (HR.out.below hb HR.out.lt).cell 1
      have c2 : w'.cell? ⟨w.heap.size, 2, none⟩ = some (.int .i64 sp) := (HR.out.below hb HR.out.lt).cell 2
      have c3 : w'.cell? ⟨w.heap.size, 3, none⟩ = some (.int .i64 dp) := (HR.out.below hb HR.out.lt).cell 3
      have c4 : w'.cell? ⟨w.heap.size, 4, none⟩ = some (.int .i64 ttl) := (HR.out.below hb HR.out.lt).cell 4
      have c5 : w'.cell? ⟨w.heap.size, 5, none⟩ = some (.string t) := (HR.out.below hb HR.out.lt).cell 5
      go_simp
      exact ⟨_, rfl, Below.refl _ _, hmk _ _ rfl⟩
    · intro a' w' hb ha hdep
      have d8 : a'.tmps.getD 8 undef = .agg #[.int .i64 s, .int .i64 d, .int .i64 sp, .int .i64 dp, .int .i64 ttl, .string t] := (hdep 8 (of_decide_eq_true (by kernel_rfl))).is 1 rfl
      have hmk := fun (x : Value) (W : World) => SlotG.mk (x := x) (w := W) 2 rfl hGN
      clear hGN ha hdep
      have hsz : w.heap.size ≤ w'.heap.size := by have := hb.size; have := hB1.size; omega
      go_simp
      refine (HH0.out _ hsz).mono ?_
      rintro e w2 ⟨u, rfl, ho2, hb2⟩
      exact ⟨_, rfl, hb2, hmk _ _ ho2⟩
    · intro a' w' hb ha hdep
      have D9 := (hdep 9 (of_decide_eq_true (by kernel_rfl))).get 2 rfl
      have hmk := fun (x : Value) (W : World) => SlotG.mk (x := x) (w := W) 3 rfl hGN
      clear hGN ha hdep
      obtain ⟨g, cap, d9, hB9⟩ := own_slice D9 HL0.out (by omega)
      go_simp
      refine (HS.out _ g cap hB9).mono ?_
      rintro e w2 ⟨rfl, rfl⟩
      exact ⟨_, rfl, Below.refl _ _, hmk _ _ rfl⟩
    · intro a' w' hb ha hdep
      have d7 : a'.tmps.getD 7 undef = .agg #[.int .i64 s, .int .i64 d, .int .i64 sp, .int .i64 dp, .int .i64 ttl, .string t] := (hdep 7 (of_decide_eq_true (by kernel_rfl))).is 0 rfl
      have d10 : a'.tmps.getD 10 undef = .int .i64 (HSum : Int) := (hdep 10 (of_decide_eq_true (by kernel_rfl))).is 3 rfl
      have hmk := fun (x : Value) (W : World) => SlotG.mk (x := x) (w := W) 4 rfl hGN
      clear hGN ha hdep
      have hsz : w.heap.size ≤ w'.heap.size := by have := hb.size; have := hB1.size; omega
      go_simp
      refine (HH1.out _ hsz).mono ?_
      rintro e w2 ⟨u, rfl, ho2, hb2⟩
      exact ⟨_, rfl, hb2, hmk _ _ ho2⟩
    · intro a' w' hb ha hdep
      have D11 := (hdep 11 (of_decide_eq_true (by kernel_rfl))).get 4 rfl
      have hmk := fun (x : Value) (W : World) => SlotG.mk (x := x) (w := W) 5 rfl hGN
      clear hGN ha hdep
      rw [Array.getD_eq_getD_getElem?] at D11
      go_simp
      exact ⟨_, rfl, Below.refl _ _, hmk _ _ D11⟩
  · intro a' w' hb ha hG
    clear hGN
    have D3 := (hG _ (List.mem_of_getElem? (i := 5) rfl) 3 rfl).get 5 rfl
    have d1 : a'.tmps.getD 1 undef = .pointer (some ⟨w.heap.size, 0, none⟩) := ha.at 1 (by kernel_rfl)
    have e2 : a' = ⟨#[a'.tmps.getD 0 undef, a'.tmps.getD 1 undef, a'.tmps.getD 2 undef, a'.tmps.getD 3 undef, a'.tmps.getD 4 undef, a'.tmps.getD 5 undef, a'.tmps.getD 6 undef, a'.tmps.getD 7 undef, a'.tmps.getD 8 undef, a'.tmps.getD 9 undef, a'.tmps.getD 10 undef, a'.tmps.getD 11 undef, a'.tmps.getD 12 undef, a'.tmps.getD 13 undef, a'.tmps.getD 14 undef, a'.tmps.getD 15 undef, a'.tmps.getD 16 undef, a'.tmps.getD 17 undef, a'.tmps.getD 18 undef], []⟩ := by rw [← (show a'.defers = [] from ha.2.1)]; exact act_eq a' 19 ha.1
    rw [d1] at e2
    clear hG ha d1
    generalize a'.tmps.getD 0 undef = x0 at *
    generalize a'.tmps.getD 2 undef = x2 at *
    generalize a'.tmps.getD 3 undef = x3 at *
    generalize a'.tmps.getD 4 undef = x4 at *
    generalize a'.tmps.getD 5 undef = x5 at *
    generalize a'.tmps.getD 6 undef = x6 at *
    generalize a'.tmps.getD 7 undef = x7 at *
    generalize a'.tmps.getD 8 undef = x8 at *
    generalize a'.tmps.getD 9 undef = x9 at *
    generalize a'.tmps.getD 10 undef = x10 at *
    generalize a'.tmps.getD 11 undef = x11 at *
    generalize a'.tmps.getD 12 undef = x12 at *
    generalize a'.tmps.getD 13 undef = x13 at *
    generalize a'.tmps.getD 14 undef = x14 at *
    generalize a'.tmps.getD 15 undef = x15 at *
    generalize a'.tmps.getD 16 undef = x16 at *
    generalize a'.tmps.getD 17 undef = x17 at *
    generalize a'.tmps.getD 18 undef = x18 at *
    subst e2
    simp only [List.drop_succ_cons, List.drop_zero]
    have hB2 := hB1.trans (hb.mono hB1.size)
    have HR2 : Hid _ := HR.out.below hb HR.out.lt
    clear HR hb
    have HR : Hid (Row w' w.heap.size 40 [.int .i64 s, .int .i64 d, .int .i64 sp, .int .i64 dp, .int .i64 ttl, .string t]) := HR2
    have HO3 : Hid (Own w' w.heap.size 5 x3 (cellsB HD)) := D3
    clear HR2 hB1 D3 HH0 HH1 HS HL0
    have hB1 := hB2
    clear hB2
    generalize w' = w1 at *
    go_wp2_with fail
    have hGN : (([(12, fun x W => Own W w.heap.size 5 x (cellsB HD)), (13, Is (.agg #[.int .i64 s, .int .i64 d, .int .i64 sp, .int .i64 dp, .int .i64 ttl, .string t])), (14, Is (.agg #[.int .i64 s, .int .i64 d, .int .i64 sp, .int .i64 dp, .int .i64 ttl, .string t])), (15, Is (.int .i64 (BSum : Int))), (16, fun x W => Own W w.heap.size 5 x (cellsB BY))] : List (Nat × (Value → World → Prop))).map (·.1)).Nodup := by simp
    refine wp_region_steady 5 (SlotG [(12, fun x W => Own W w.heap.size 5 x (cellsB HD)), (13, Is (.agg #[.int .i64 s, .int .i64 d, .int .i64 sp, .int .i64 dp, .int .i64 ttl, .string t])), (14, Is (.agg #[.int .i64 s, .int .i64 d, .int .i64 sp, .int .i64 dp, .int .i64 ttl, .string t])), (15, Is (.int .i64 (BSum : Int))), (16, fun x W => Own W w.heap.size 5 x (cellsB BY))]) (by kernel_rfl) (by kernel_rfl) (Stabs.all ⟨stab_own w.heap.size (cellsB HD), stab_is _, stab_is _, stab_is _, stab_own w.heap.size (cellsB BY), trivial⟩) ?_ ?_
    · intro o ho
      simp only [List.take_succ_cons, List.take_zero, List.mem_cons, List.not_mem_nil, or_false] at ho
      rcases ho with rfl | rfl | rfl | rfl | rfl
      · intro a' w' hb ha hdep
        have d3 : a'.tmps.getD 3 undef = x3 := ha.at 3 (by kernel_rfl)
        have hmk := fun (x : Value) (W : World) => SlotG.mk (x := x) (w := W) 0 rfl hGN
        clear hGN ha hdep
        go_simp
        exact ⟨_, rfl, Below.refl _ _, hmk _ _ (HO3.out.below hb)⟩
      · intro a' w' hb ha hdep
        have d1 : a'.tmps.getD 1 undef = .pointer (some ⟨w.heap.size, 0, none⟩) := ha.at 1 (by kernel_rfl)
        have hmk := fun (x : Value) (W : World) => SlotG.mk (x := x) (w := W) 1 rfl hGN
        clear hGN ha hdep
        have c0 : w'.cell? ⟨w.heap.size, 0, none⟩ = some (.int .i64 s) := (HR.out.below hb HR.out.lt).cell 0
        have c1 : w'.cell? ⟨w.heap.size, 1, none⟩ = some (.int .i64 d) := (HR.out.below hb HR.out.lt).cell 1
        have c2 : w'.cell? ⟨w.heap.size, 2, none⟩ = some (.int .i64 sp) := (HR.out.below hb HR.out.lt).cell 2
        have c3 : w'.cell? ⟨w.heap.size, 3, none⟩ = some (.int .i64 dp) := (HR.out.below hb HR.out.lt).cell 3
        have c4 : w'.cell? ⟨w.heap.size, 4, none⟩ = some (.int .i64 ttl) := (HR.out.below hb HR.out.lt).cell 4
        have c5 : w'.cell? ⟨w.heap.size, 5, none⟩ = some (.string t) := (HR.out.below hb HR.out.lt).cell 5
        go_simp
        exact ⟨_, rfl, Below.refl _ _, hmk _ _ rfl⟩
      · intro a' w' hb ha hdep
        have d1 : a'.tmps.getD 1 undef = .pointer (some ⟨w.heap.size, 0, none⟩) := ha.at 1 (by kernel_rfl)
        have hmk := fun (x : Value) (W : World) => SlotG.mk (x := x) (w := W) 2 rfl hGN
        clear hGN ha hdep
        have c0 : w'.cell? ⟨w.heap.size, 0, none⟩ = some (.int .i64 s) := (HR.out.below hb HR.out.lt).cell 0
        have c1 : w'.cell? ⟨w.heap.size, 1, none⟩ = some (.int .i64 d) := (HR.out.below hb HR.out.lt).cell 1
        have c2 : w'.cell? ⟨w.heap.size, 2, none⟩ = some (.int .i64 sp) := (HR.out.below hb HR.out.lt).cell 2
        have c3 : w'.cell? ⟨w.heap.size, 3, none⟩ = some (.int .i64 dp) := (HR.out.below hb HR.out.lt).cell 3
        have c4 : w'.cell? ⟨w.heap.size, 4, none⟩ = some (.int .i64 ttl) := (HR.out.below hb HR.out.lt).cell 4
        have c5 : w'.cell? ⟨w.heap.size, 5, none⟩ = some (.string t) := (HR.out.below hb HR.out.lt).cell 5
        go_simp
        exact ⟨_, rfl, Below.refl _ _, hmk _ _ rfl⟩
      · intro a' w' hb ha hdep
        have d14 : a'.tmps.getD 14 undef = .agg #[.int .i64 s, .int .i64 d, .int .i64 sp, .int .i64 dp, .int .i64 ttl, .string t] := (hdep 14 (of_decide_eq_true (by kernel_rfl))).is 2 rfl
        have hmk := fun (x : Value) (W : World) => SlotG.mk (x := x) (w := W) 3 rfl hGN
        clear hGN ha hdep
        go_simp
        refine (HBS.out _).mono ?_
        rintro e w2 ⟨rfl, hb2⟩
        exact ⟨_, rfl, hb2, hmk _ _ rfl⟩
      · intro a' w' hb ha hdep
        have d13 : a'.tmps.getD 13 undef = .agg #[.int .i64 s, .int .i64 d, .int .i64 sp, .int .i64 dp, .int .i64 ttl, .string t] := (hdep 13 (of_decide_eq_true (by kernel_rfl))).is 1 rfl
        have d15 : a'.tmps.getD 15 undef = .int .i64 (BSum : Int) := (hdep 15 (of_decide_eq_true (by kernel_rfl))).is 3 rfl
        have hmk := fun (x : Value) (W : World) => SlotG.mk (x := x) (w := W) 4 rfl hGN
        clear hGN ha hdep
        have hsz : w.heap.size ≤ w'.heap.size := by have := hb.size; have := hB1.size; omega
        go_simp
        refine (HBO.out _ hsz).mono ?_
        rintro e w2 ⟨u, rfl, ho2, hb2⟩
        exact ⟨_, rfl, hb2, hmk _ _ ho2⟩
    · intro a' w' hb ha hG
      clear hGN
      have D12 := (hG _ (List.mem_of_getElem? (i := 0) rfl) 12 rfl).get 0 rfl
      have D16 := (hG _ (List.mem_of_getElem? (i := 4) rfl) 16 rfl).get 4 rfl
      have e2 : a' = ⟨#[a'.tmps.getD 0 undef, a'.tmps.getD 1 undef, a'.tmps.getD 2 undef, a'.tmps.getD 3 undef, a'.tmps.getD 4 undef, a'.tmps.getD 5 undef, a'.tmps.getD 6 undef, a'.tmps.getD 7 undef, a'.tmps.getD 8 undef, a'.tmps.getD 9 undef, a'.tmps.getD 10 undef, a'.tmps.getD 11 undef, a'.tmps.getD 12 undef, a'.tmps.getD 13 undef, a'.tmps.getD 14 undef, a'.tmps.getD 15 undef, a'.tmps.getD 16 undef, a'.tmps.getD 17 undef, a'.tmps.getD 18 undef], []⟩ := by rw [← (show a'.defers = [] from ha.2.1)]; exact act_eq a' 19 ha.1
      clear hG ha 
      generalize a'.tmps.getD 0 undef = x0 at *
      generalize a'.tmps.getD 1 undef = x1 at *
      generalize a'.tmps.getD 2 undef = x2 at *
      generalize a'.tmps.getD 3 undef = x3 at *
      generalize a'.tmps.getD 4 undef = x4 at *
      generalize a'.tmps.getD 5 undef = x5 at *
      generalize a'.tmps.getD 6 undef = x6 at *
      generalize a'.tmps.getD 7 undef = x7 at *
      generalize a'.tmps.getD 8 undef = x8 at *
      generalize a'.tmps.getD 9 undef = x9 at *
      generalize a'.tmps.getD 10 undef = x10 at *
      generalize a'.tmps.getD 11 undef = x11 at *
      generalize a'.tmps.getD 12 undef = x12 at *
      generalize a'.tmps.getD 13 undef = x13 at *
      generalize a'.tmps.getD 14 undef = x14 at *
      generalize a'.tmps.getD 15 undef = x15 at *
      generalize a'.tmps.getD 16 undef = x16 at *
      generalize a'.tmps.getD 17 undef = x17 at *
      generalize a'.tmps.getD 18 undef = x18 at *
      subst e2
      simp only [List.drop_succ_cons, List.drop_zero]
      have hB := hB1.trans (hb.mono hB1.size)
      have hbs := hB.size
      obtain ⟨g, cap, d16, hB16⟩ := own_slice D16 HL2.out (by omega)
      subst d16
      have hll : HD.length + BY.length ≤ 1000000000 := by rw [HL1.out, HL2.out]; omega
      have HCC : Hid (∀ j u, (cellsB BY)[j]? = some u → w'.cell? ⟨g, 0 + j, none⟩ = some u) := fun j u h => by obtain ⟨hj, e⟩ := List.getElem?_eq_some_iff.1 h; have := hB16 j (by simpa [cellsB] using hj); rw [this, ← e]; simp [cellsB]
      have HX : Hid (Value.slice (some ⟨g, 0, none⟩) (8 + t.size) cap = .slice (some ⟨g, 0, none⟩) BY.length cap) := by show _ = _; rw [HL2.out]
      rw [HX.out]
      clear HX D16 hB16
      go_wp2_with (at_builtin; refine wpList_append_bytes rfl (.tmp 12) (.tmp 16) 22 rfl w.heap.size 5 Try.underlying22 Try.infoB x12 HD BY rfl D12 g 0 cap rfl HCC.out hll hbs ?_)
      intro v2 wb hob hbb
      have hconv := HV.out v2 wb hob
      have hBb : Below w.heap.size w wb := hB.trans hbb
      go_wp2
      go_ret
      exact ⟨rfl, hBb⟩
set_option maxRecDepth 100000 in
theorem implDgramBytes_any (s d sp dp ttl : Int) (t : ByteArray) (w : World) :
    Calls Try.prog 27 #[dgV s d sp dp ttl t] w fun e w' => e = .returned (.string (dgO s d sp dp ttl t)) ∧ Below w.heap.size w w' := by
  by_cases hR : dgB s d sp dp ttl t.size = true
  · rw [dgO_in _ _ _ _ _ _ hR]
    exact implDgramBytes_in s d sp dp ttl t w hR
  · rw [dgO_out _ _ _ _ _ _ hR]
    have HR : Hid (∀ w, Calls Try.prog 40 #[dgV s d sp dp ttl t] w fun e w' => e = .returned (.bool (dgB s d sp dp ttl t.size)) ∧ Below w.heap.size w w') := implDgramRight_any s d sp dp ttl t
    rw [show dgB s d sp dp ttl t.size = false by simpa using hR] at HR
    unfold dgV at *
    go_enter Try.func27, Try.ntmps27
    go_wp2_with fail
    refine (HR.out _).mono ?_
    rintro e w1 ⟨rfl, hb1⟩
    have hB1 := after_next (new_below0 w (.cells #[.int .i64 s, .int .i64 d, .int .i64 sp, .int .i64 dp, .int .i64 ttl, .string t] 40)) hb1 (by simp)
    go_wp2
    go_ret
    exact ⟨rfl, hB1⟩
end Go.Proofs.Ytchgnjpbjnkdmaa
