/- The walk of the law on Wrap. (Written by gen_wrap.py.) -/
import Derived.Test.YtialedffpaoacaaGreatDoorPack25
import Derived.Test.YtialedffpaoacaaGreatDoorPack24
import Derived.Test.YtialedffpaoacaaGreatDoorPack19
import Derived.Test.YtialedffpaoacaaGreatDoorPack14
namespace Go.Proofs.YtialedffpaoacaaGreatDoor
open Go.RowKit Go.Sort

theorem PlT.o {w : World} {b : Nat} {a : Tp} {t : Tn} (h : PlT w b a t) : TpO a t := by
  obtain ⟨g, h, u, z, rfl, _⟩ := h
  exact ⟨Nat.le_refl _, (fun e => by cases e), (fun e => by cases e)⟩
set_option maxRecDepth 100000 in
set_option maxHeartbeats 4000000 in
theorem fnExactWrap_walk (p : Option Addr) (c1 : Nat) (q : Option Addr) (c2 : Nat) (r : Option Addr) (c3 : Nat) (ps : List TnP) (l : List Bd) (ls : List Lk) (lost : Int) (n i : Int) (all : Bool) (w : World) (hA : ArgX w p ps q l r ls) (_hw : (Lit.int .i64 lost).wf = true) (_hp : (Lit.int .i64 n).wf = true) (_hi : (Lit.int .i64 i).wf = true) (hL : Laid w) :
    Calls Tryz.prog 3 #[boxV p c1 q c2 r c3 ps l ls lost, .int .i64 n, .int .i64 i, .bool all] w fun r w' => r = .returned (.bool true) ∧ Below w.heap.size w w' := by
  have HX : Hid (ArgX w p ps q l r ls) := hA
  have HZ : Hid (∀ w1, Below w.heap.size w w1 → Calls Tryz.prog 5 #[.agg #[.slice p ps.length c1, .slice q l.length c2, .slice r ls.length c3, .int .i64 lost], .int .i64 1048576] w1 fun e w' => (∃ v : Int, e = .returned (.int .i64 v) ∧ v ≤ 1048576 ∧ (v < 0 ∨ 0 ≤ v ∧ ps.length ≤ 1048576 ∧ l.length ≤ 1048576 ∧ ls.length ≤ 1048576 ∧ ∀ e ∈ ps, TnS e.2)) ∧ Below w1.heap.size w1 w') := fun w1 hb => szBox_any p c1 q c2 r c3 ps l ls lost 1048576 _ (hA.below hb) (by omega) (by omega)
  have HT0 : Hid (ps.length ≤ 1048576 → l.length ≤ 1048576 → ls.length ≤ 1048576 → (∀ e ∈ ps, TnS e.2) → ∀ w, ArgX w p ps q l r ls → Calls Tryz.prog 7 #[.agg #[.slice p ps.length c1, .slice q l.length c2, .slice r ls.length c3, .int .i64 lost]] w fun e w' => ∃ (g : Nat) (qs : List TnP) (h u : Nat), e = .returned (.agg #[.slice (some ⟨g, 0, none⟩) ps.length ps.length, .slice (some ⟨h, 0, none⟩) l.length l.length, .slice (some ⟨u, 0, none⟩) ls.length ls.length, .int .i64 lost]) ∧ w.heap.size ≤ g ∧ w.heap.size ≤ h ∧ w.heap.size ≤ u ∧ qs.map (·.2) = ps.map (·.2) ∧ Row w' g 55 (rowT qs) ∧ (∀ e ∈ qs, PlT w' (g + 1) e.1 e.2) ∧ Row w' h 77 (rowBd l) ∧ Row w' u 113 (rowL ls) ∧ Below w.heap.size w w') := fun a b c d w k => toBox_any p c1 q c2 r c3 ps l ls lost w k ⟨a, b, c, d⟩
  have HS0 : Hid (ps.length ≤ 1048576 → l.length ≤ 1048576 → ls.length ≤ 1048576 → (∀ e ∈ ps, TnS e.2) → ∀ (g : Nat) (qs : List TnP) (h u : Nat) w, qs.map (·.2) = ps.map (·.2) → Row w g 55 (rowT qs) → (∀ e ∈ qs, PlT w (g + 1) e.1 e.2) → Row w h 77 (rowBd l) → Row w u 113 (rowL ls) → Calls Tryz.prog 6 #[.agg #[.slice (some ⟨g, 0, none⟩) ps.length ps.length, .slice (some ⟨h, 0, none⟩) l.length l.length, .slice (some ⟨u, 0, none⟩) ls.length ls.length, .int .i64 lost], .int .i64 n, .int .i64 i, .bool all] w fun e w' => e = .returned (.string (wrapO (ps.map (·.2)) l ls lost n i all)) ∧ Below w.heap.size w w') := fun a b c s g qs h u w em k1 k2 k3 k4 => by
    have hl := len_snd em
    have := specWrap_any (some ⟨g, 0, none⟩) ps.length qs (some ⟨h, 0, none⟩) l.length l (some ⟨u, 0, none⟩) ls.length ls lost n i all w (tensIn_row k1 (fun e he => (k2 e he).inT)) (bdsIn_row k3) (lksIn_row k4) (by omega) (fun e he => ⟨(same_snd em s e he).m, (k2 e he).o⟩) (by omega) (by omega)
    rw [em, hl] at this
    exact this
  have HI0 : Hid (ps.length ≤ 1048576 → l.length ≤ 1048576 → ls.length ≤ 1048576 → (∀ e ∈ ps, TnS e.2) → ∀ (g : Nat) (qs : List TnP) (h u : Nat) w, qs.map (·.2) = ps.map (·.2) → Row w g 55 (rowT qs) → (∀ e ∈ qs, PlT w (g + 1) e.1 e.2) → Row w h 77 (rowBd l) → Row w u 113 (rowL ls) → Laid w → Calls Tryz.prog 8 #[.agg #[.slice (some ⟨g, 0, none⟩) ps.length ps.length, .slice (some ⟨h, 0, none⟩) l.length l.length, .slice (some ⟨u, 0, none⟩) ls.length ls.length, .int .i64 lost], .int .i64 n, .int .i64 i, .bool all] w fun e w' => e = .returned (.string (wrapO (ps.map (·.2)) l ls lost n i all)) ∧ Below w.heap.size w w') := fun a b c s g qs h u w em k1 k2 k3 k4 k5 => by
    have hl := len_snd em
    have := implWrap_any (some ⟨g, 0, none⟩) ps.length qs (some ⟨h, 0, none⟩) l.length l (some ⟨u, 0, none⟩) ls.length ls lost n i all w (tensIn_row k1 (fun e he => (k2 e he).inT)) (bdsIn_row k3) (lksIn_row k4) (by omega) (fun e he => ⟨(same_snd em s e he).m, (k2 e he).o⟩) (by omega) (by omega) k5
    rw [em, hl] at this
    exact this
  have HE0 : Hid (ps.length ≤ 1048576 → l.length ≤ 1048576 → ls.length ≤ 1048576 → (∀ e ∈ ps, TnS e.2) → ∀ (p0 q0 r0 p1 q1 r1 : Option Addr) (qs qs' : List TnP) w, qs.map (·.2) = ps.map (·.2) → qs'.map (·.2) = ps.map (·.2) → TensIn w p0 qs → BdsIn w q0 l → LksIn w r0 ls → TensIn w p1 qs' → BdsIn w q1 l → LksIn w r1 ls → Calls Tryz.prog 9 #[.agg #[.slice p0 ps.length ps.length, .slice q0 l.length l.length, .slice r0 ls.length ls.length, .int .i64 lost], .agg #[.slice p1 ps.length ps.length, .slice q1 l.length l.length, .slice r1 ls.length ls.length, .int .i64 lost]] w fun e w' => e = .returned (.bool true) ∧ Below w.heap.size w w') := fun a b c s p0 q0 r0 p1 q1 r1 qs qs' w em em' k0 k1 k2 k3 k4 k5 => by
    have hl := len_snd em
    have := eqBox_any p0 ps.length q0 l.length r0 ls.length p1 ps.length q1 l.length r1 ls.length qs qs' l ls lost w ⟨⟨k0, k1, k2⟩, ⟨k3, k4, k5⟩⟩ (em.trans em'.symm) ⟨by omega, b, c, same_snd em s⟩
    rw [hl] at this
    exact this
  clear hA
  generalize wrapO (ps.map (·.2)) l ls lost n i all = R at *
  unfold boxV
  generalize ps.length = n1 at *
  generalize l.length = n2 at *
  generalize ls.length = n3 at *
  go_enter Tryz.func3, Tryz.ntmps3
  go_wp2_with fail
  refine (HZ.out _ (ent_new0 w _)).mono ?_
  rintro e w1 ⟨⟨v, rfl, -, hv⟩, hb1⟩
  obtain ⟨r0, hB⟩ := box4 hb1
  clear hb1 HZ
  rcases hv with hv | ⟨hv, m1, m2, m3, m4⟩
  · have d : decide (v < 0) = true := by simpa using hv
    clear hv
    go_wp2
    go_ret
    exact ⟨rfl, hB⟩
  have d : decide (v < 0) = false := by simp; omega
  have HT : Hid _ := HT0.out m1 m2 m3 m4
  have HS : Hid _ := HS0.out m1 m2 m3 m4
  have HI : Hid _ := HI0.out m1 m2 m3 m4
  have HE : Hid _ := HE0.out m1 m2 m3 m4
  clear HT0 HS0 HI0 HE0 hv m1 m2 m3 m4
  have y0 : w1.cell? ⟨w.heap.size, 0, none⟩ = some (.slice p n1 c1) := r0.cell 0
  have y1 : w1.cell? ⟨w.heap.size, 1, none⟩ = some (.slice q n2 c2) := r0.cell 1
  have y2 : w1.cell? ⟨w.heap.size, 2, none⟩ = some (.slice r n3 c3) := r0.cell 2
  have y3 : w1.cell? ⟨w.heap.size, 3, none⟩ = some (.int .i64 lost) := r0.cell 3
  go_wp2_with fail
  clear y0 y1 y2 y3
  refine (HT.out _ (HX.out.below hB)).mono ?_
  rintro e w2 ⟨g, qs, h, u, rfl, -, -, -, hqm, kg, hp, kh, ku, hb2⟩
  have r0 := r0.below hb2 r0.lt
  have hB := hB.trans (hb2.mono hB.size)
  clear hb2
  go_wp2_with fail
  refine (HS.out g qs h u _ hqm kg hp kh ku).mono ?_
  rintro e w3 ⟨rfl, hb3⟩
  have r0 := r0.below hb3 r0.lt
  have hB := hB.trans (hb3.mono hB.size)
  clear hb3
  clear HS kg kh ku hp hqm
  have y0 : w3.cell? ⟨w.heap.size, 0, none⟩ = some (.slice p n1 c1) := r0.cell 0
  have y1 : w3.cell? ⟨w.heap.size, 1, none⟩ = some (.slice q n2 c2) := r0.cell 1
  have y2 : w3.cell? ⟨w.heap.size, 2, none⟩ = some (.slice r n3 c3) := r0.cell 2
  have y3 : w3.cell? ⟨w.heap.size, 3, none⟩ = some (.int .i64 lost) := r0.cell 3
  go_wp2_with fail
  clear y0 y1 y2 y3
  refine (HT.out _ (HX.out.below hB)).mono ?_
  rintro e w4 ⟨g5, qs, h5, u5, rfl, -, -, -, hqm, kg, hp, kh, ku, hb4⟩
  have r0 := r0.below hb4 r0.lt
  have hB := hB.trans (hb4.mono hB.size)
  clear hb4
  have r0 := r0.alloc (.cells #[.slice (some ⟨g5, 0, none⟩) n1 n1, .slice (some ⟨h5, 0, none⟩) n2 n2, .slice (some ⟨u5, 0, none⟩) n3 n3, .int .i64 lost] 33)
  have kg := kg.alloc (.cells #[.slice (some ⟨g5, 0, none⟩) n1 n1, .slice (some ⟨h5, 0, none⟩) n2 n2, .slice (some ⟨u5, 0, none⟩) n3 n3, .int .i64 lost] 33)
  have kh := kh.alloc (.cells #[.slice (some ⟨g5, 0, none⟩) n1 n1, .slice (some ⟨h5, 0, none⟩) n2 n2, .slice (some ⟨u5, 0, none⟩) n3 n3, .int .i64 lost] 33)
  have ku := ku.alloc (.cells #[.slice (some ⟨g5, 0, none⟩) n1 n1, .slice (some ⟨h5, 0, none⟩) n2 n2, .slice (some ⟨u5, 0, none⟩) n3 n3, .int .i64 lost] 33)
  have hp := fun e he => (hp e he).below (ent_new0 w4 (.cells #[.slice (some ⟨g5, 0, none⟩) n1 n1, .slice (some ⟨h5, 0, none⟩) n2 n2, .slice (some ⟨u5, 0, none⟩) n3 n3, .int .i64 lost] 33))
  have k5 := Row.new w4 33 [.slice (some ⟨g5, 0, none⟩) n1 n1, .slice (some ⟨h5, 0, none⟩) n2 n2, .slice (some ⟨u5, 0, none⟩) n3 n3, .int .i64 lost]
  have hB := hB.alloc (by have := hB.size; omega) (.cells #[.slice (some ⟨g5, 0, none⟩) n1 n1, .slice (some ⟨h5, 0, none⟩) n2 n2, .slice (some ⟨u5, 0, none⟩) n3 n3, .int .i64 lost] 33)
  have y0 : (w4.alloc (.cells #[.slice (some ⟨g5, 0, none⟩) n1 n1, .slice (some ⟨h5, 0, none⟩) n2 n2, .slice (some ⟨u5, 0, none⟩) n3 n3, .int .i64 lost] 33)).cell? ⟨w4.heap.size, 0, none⟩ = some (.slice (some ⟨g5, 0, none⟩) n1 n1) := k5.cell 0
  have y1 : (w4.alloc (.cells #[.slice (some ⟨g5, 0, none⟩) n1 n1, .slice (some ⟨h5, 0, none⟩) n2 n2, .slice (some ⟨u5, 0, none⟩) n3 n3, .int .i64 lost] 33)).cell? ⟨w4.heap.size, 1, none⟩ = some (.slice (some ⟨h5, 0, none⟩) n2 n2) := k5.cell 1
  have y2 : (w4.alloc (.cells #[.slice (some ⟨g5, 0, none⟩) n1 n1, .slice (some ⟨h5, 0, none⟩) n2 n2, .slice (some ⟨u5, 0, none⟩) n3 n3, .int .i64 lost] 33)).cell? ⟨w4.heap.size, 2, none⟩ = some (.slice (some ⟨u5, 0, none⟩) n3 n3) := k5.cell 2
  have y3 : (w4.alloc (.cells #[.slice (some ⟨g5, 0, none⟩) n1 n1, .slice (some ⟨h5, 0, none⟩) n2 n2, .slice (some ⟨u5, 0, none⟩) n3 n3, .int .i64 lost] 33)).cell? ⟨w4.heap.size, 3, none⟩ = some (.int .i64 lost) := k5.cell 3
  have HA : Hid _ := And.intro r0 (And.intro kg (And.intro kh (And.intro ku (And.intro hp (And.intro k5 (hB))))))
  clear r0 kg kh ku hp k5 hB
  go_wp2_with fail
  generalize hbx : w4.heap.size = b5 at *
  generalize w4.alloc (.cells #[.slice (some ⟨g5, 0, none⟩) n1 n1, .slice (some ⟨h5, 0, none⟩) n2 n2, .slice (some ⟨u5, 0, none⟩) n3 n3, .int .i64 lost] 33) = W5 at *
  clear hbx
  obtain ⟨r0, kg, kh, ku, hp, k5, hB⟩ := HA.out
  clear HA y0 y1 y2 y3
  refine (HI.out g5 qs h5 u5 _ hqm kg hp kh ku (hL.below hB)).mono ?_
  rintro e w6 ⟨rfl, hb6⟩
  have r0 := r0.below hb6 r0.lt
  have kg := kg.below hb6 kg.lt
  have kh := kh.below hb6 kh.lt
  have ku := ku.below hb6 ku.lt
  have k5 := k5.below hb6 k5.lt
  have hp := fun e he => (hp e he).below hb6
  have hB := hB.trans (hb6.mono hB.size)
  clear hb6
  clear HI
  go_wp2_with fail
  have hGN : (([(34, Is (.agg #[.slice (some ⟨g5, 0, none⟩) n1 n1, .slice (some ⟨h5, 0, none⟩) n2 n2, .slice (some ⟨u5, 0, none⟩) n3 n3, .int .i64 lost])), (35, Is (.agg #[.slice p n1 c1, .slice q n2 c2, .slice r n3 c3, .int .i64 lost])), (36, HandedX ps l ls n1 n2 n3 lost), (37, Is (.bool true)), (38, Is (.bool false))] : List (Nat × (Value → World → Prop))).map (·.1)).Nodup := by simp
  refine wp_region_steady 5 (SlotG [(34, Is (.agg #[.slice (some ⟨g5, 0, none⟩) n1 n1, .slice (some ⟨h5, 0, none⟩) n2 n2, .slice (some ⟨u5, 0, none⟩) n3 n3, .int .i64 lost])), (35, Is (.agg #[.slice p n1 c1, .slice q n2 c2, .slice r n3 c3, .int .i64 lost])), (36, HandedX ps l ls n1 n2 n3 lost), (37, Is (.bool true)), (38, Is (.bool false))]) (by kernel_rfl) (by kernel_rfl) (Stabs.all ⟨stab_is _, stab_is _, stab_box ps l ls n1 n2 n3 lost, stab_is _, stab_is _, trivial⟩) ?_ ?_
  · intro o ho
    simp only [List.take_succ_cons, List.take_zero, List.mem_cons, List.not_mem_nil, or_false] at ho
    rcases ho with rfl | rfl | rfl | rfl | rfl
    · intro a' w' hb ha hdep
      have d11 : a'.tmps.getD 11 undef = .pointer (some ⟨b5, 0, none⟩) := ha.at 11 (by kernel_rfl)
      have hmk := fun (x : Value) (W : World) => SlotG.mk (x := x) (w := W) 0 rfl hGN
      clear hGN ha hdep
      have y0 : w'.cell? ⟨b5, 0, none⟩ = some (.slice (some ⟨g5, 0, none⟩) n1 n1) := (k5.below hb k5.lt).cell 0
      have y1 : w'.cell? ⟨b5, 1, none⟩ = some (.slice (some ⟨h5, 0, none⟩) n2 n2) := (k5.below hb k5.lt).cell 1
      have y2 : w'.cell? ⟨b5, 2, none⟩ = some (.slice (some ⟨u5, 0, none⟩) n3 n3) := (k5.below hb k5.lt).cell 2
      have y3 : w'.cell? ⟨b5, 3, none⟩ = some (.int .i64 lost) := (k5.below hb k5.lt).cell 3
      go_simp
      exact ⟨_, rfl, Below.refl _ _, hmk _ _ rfl⟩
    · intro a' w' hb ha hdep
      have d4 : a'.tmps.getD 4 undef = .pointer (some ⟨w.heap.size, 0, none⟩) := ha.at 4 (by kernel_rfl)
      have hmk := fun (x : Value) (W : World) => SlotG.mk (x := x) (w := W) 1 rfl hGN
      clear hGN ha hdep
      have y0 : w'.cell? ⟨w.heap.size, 0, none⟩ = some (.slice p n1 c1) := (r0.below hb r0.lt).cell 0
      have y1 : w'.cell? ⟨w.heap.size, 1, none⟩ = some (.slice q n2 c2) := (r0.below hb r0.lt).cell 1
      have y2 : w'.cell? ⟨w.heap.size, 2, none⟩ = some (.slice r n3 c3) := (r0.below hb r0.lt).cell 2
      have y3 : w'.cell? ⟨w.heap.size, 3, none⟩ = some (.int .i64 lost) := (r0.below hb r0.lt).cell 3
      go_simp
      exact ⟨_, rfl, Below.refl _ _, hmk _ _ rfl⟩
    · intro a' w' hb ha hdep
      have d35 : a'.tmps.getD 35 undef = .agg #[.slice p n1 c1, .slice q n2 c2, .slice r n3 c3, .int .i64 lost] := (hdep 35 (of_decide_eq_true (by kernel_rfl))).is 1 rfl
      have hmk := fun (x : Value) (W : World) => SlotG.mk (x := x) (w := W) 2 rfl hGN
      clear hGN ha hdep
      go_simp
      refine (HT.out _ (HX.out.below (hB.trans (hb.mono hB.size)))).mono ?_
      rintro e w2 ⟨g, qs, h, u, rfl, -, -, -, em, r6, r7, r8, r9, hb2⟩
      exact ⟨_, rfl, hb2, hmk _ _ ⟨g, qs, h, u, rfl, em, r6, r7, r8, r9⟩⟩
    · intro a' w' hb ha hdep
      have d34 : a'.tmps.getD 34 undef = .agg #[.slice (some ⟨g5, 0, none⟩) n1 n1, .slice (some ⟨h5, 0, none⟩) n2 n2, .slice (some ⟨u5, 0, none⟩) n3 n3, .int .i64 lost] := (hdep 34 (of_decide_eq_true (by kernel_rfl))).is 0 rfl
      have D36 := (hdep 36 (of_decide_eq_true (by kernel_rfl))).get 2 rfl
      have hmk := fun (x : Value) (W : World) => SlotG.mk (x := x) (w := W) 3 rfl hGN
      clear hGN ha hdep
      obtain ⟨g, qs, h, u, d36, em, r6, r7, r8, r9⟩ := D36
      go_simp
      refine (HE.out _ _ _ _ _ _ _ _ _ hqm em (tensIn_row (kg.below hb kg.lt) (fun e he => ((hp e he).below hb).inT)) (bdsIn_row (kh.below hb kh.lt)) (lksIn_row (ku.below hb ku.lt)) (tensIn_row r6 (fun e he => (r7 e he).inT)) (bdsIn_row r8) (lksIn_row r9)).mono ?_
      rintro e w2 ⟨rfl, hb2⟩
      exact ⟨_, rfl, hb2, hmk _ _ rfl⟩
    · intro a' w' hb ha hdep
      have d37 : a'.tmps.getD 37 undef = .bool true := (hdep 37 (of_decide_eq_true (by kernel_rfl))).is 3 rfl
      have hmk := fun (x : Value) (W : World) => SlotG.mk (x := x) (w := W) 4 rfl hGN
      clear hGN ha hdep
      go_simp
      exact ⟨_, rfl, Below.refl _ _, hmk _ _ rfl⟩
  · intro a' w' hb ha hG
    clear hGN
    have d38 : a'.tmps.getD 38 undef = .bool false := (hG _ (List.mem_of_getElem? (i := 4) rfl) 38 rfl).is 4 rfl
    have d11 : a'.tmps.getD 11 undef = .pointer (some ⟨b5, 0, none⟩) := ha.at 11 (by kernel_rfl)
    have d4 : a'.tmps.getD 4 undef = .pointer (some ⟨w.heap.size, 0, none⟩) := ha.at 4 (by kernel_rfl)
    have e2 : a' = ⟨#[a'.tmps.getD 0 undef, a'.tmps.getD 1 undef, a'.tmps.getD 2 undef, a'.tmps.getD 3 undef, a'.tmps.getD 4 undef, a'.tmps.getD 5 undef, a'.tmps.getD 6 undef, a'.tmps.getD 7 undef, a'.tmps.getD 8 undef, a'.tmps.getD 9 undef, a'.tmps.getD 10 undef, a'.tmps.getD 11 undef, a'.tmps.getD 12 undef, a'.tmps.getD 13 undef, a'.tmps.getD 14 undef, a'.tmps.getD 15 undef, a'.tmps.getD 16 undef, a'.tmps.getD 17 undef, a'.tmps.getD 18 undef, a'.tmps.getD 19 undef, a'.tmps.getD 20 undef, a'.tmps.getD 21 undef, a'.tmps.getD 22 undef, a'.tmps.getD 23 undef, a'.tmps.getD 24 undef, a'.tmps.getD 25 undef, a'.tmps.getD 26 undef, a'.tmps.getD 27 undef, a'.tmps.getD 28 undef, a'.tmps.getD 29 undef, a'.tmps.getD 30 undef, a'.tmps.getD 31 undef, a'.tmps.getD 32 undef, a'.tmps.getD 33 undef, a'.tmps.getD 34 undef, a'.tmps.getD 35 undef, a'.tmps.getD 36 undef, a'.tmps.getD 37 undef, a'.tmps.getD 38 undef], []⟩ := by rw [← (show a'.defers = [] from ha.2.1)]; exact act_eq a' 39 ha.1
    rw [d38, d11, d4] at e2
    clear hG ha d38 d11 d4
    generalize a'.tmps.getD 0 undef = x0 at *
    generalize a'.tmps.getD 1 undef = x1 at *
    generalize a'.tmps.getD 2 undef = x2 at *
    generalize a'.tmps.getD 3 undef = x3 at *
    generalize a'.tmps.getD 5 undef = x5 at *
    generalize a'.tmps.getD 6 undef = x6 at *
    generalize a'.tmps.getD 7 undef = x7 at *
    generalize a'.tmps.getD 8 undef = x8 at *
    generalize a'.tmps.getD 9 undef = x9 at *
    generalize a'.tmps.getD 10 undef = x10 at *
    generalize a'.tmps.getD 12 undef = x12 at *
    generalize a'.tmps.getD 13 undef = x13 at *
    generalize a'.tmps.getD 14 undef = x14 at *
    generalize a'.tmps.getD 15 undef = x15 at *
    generalize a'.tmps.getD 16 undef = x16 at *
    generalize a'.tmps.getD 17 undef = x17 at *
    generalize a'.tmps.getD 18 undef = x18 at *
    generalize a'.tmps.getD 19 undef = x19 at *
    generalize a'.tmps.getD 20 undef = x20 at *
    generalize a'.tmps.getD 21 undef = x21 at *
    generalize a'.tmps.getD 22 undef = x22 at *
    generalize a'.tmps.getD 23 undef = x23 at *
    generalize a'.tmps.getD 24 undef = x24 at *
    generalize a'.tmps.getD 25 undef = x25 at *
    generalize a'.tmps.getD 26 undef = x26 at *
    generalize a'.tmps.getD 27 undef = x27 at *
    generalize a'.tmps.getD 28 undef = x28 at *
    generalize a'.tmps.getD 29 undef = x29 at *
    generalize a'.tmps.getD 30 undef = x30 at *
    generalize a'.tmps.getD 31 undef = x31 at *
    generalize a'.tmps.getD 32 undef = x32 at *
    generalize a'.tmps.getD 33 undef = x33 at *
    generalize a'.tmps.getD 34 undef = x34 at *
    generalize a'.tmps.getD 35 undef = x35 at *
    generalize a'.tmps.getD 36 undef = x36 at *
    generalize a'.tmps.getD 37 undef = x37 at *
    subst e2
    simp only [List.drop_succ_cons, List.drop_zero]
    have hB10 := hB.trans (hb.mono hB.size)
    clear hb
    go_wp2
    go_ret
    exact ⟨rfl, hB10⟩
end Go.Proofs.YtialedffpaoacaaGreatDoor
