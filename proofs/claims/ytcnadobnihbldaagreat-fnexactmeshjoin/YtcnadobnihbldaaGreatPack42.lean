/- Texts that stand on each other, in one file: MCopy, HandIv, MeshB, LawM, TurnSm, MTurnL. -/
import Derived.Test.YtcnadobnihbldaaGreatPack40
import Derived.Test.YtcnadobnihbldaaGreatPack37
import Derived.Test.YtcnadobnihbldaaGreatPack17
import Derived.Test.YtcnadobnihbldaaGreatPack19
import Derived.Test.YtcnadobnihbldaaGreatPack13
import Derived.Test.YtcnadobnihbldaaGreatPack28
import Derived.Test.YtcnadobnihbldaaGreatPack41
import Derived.Test.YtcnadobnihbldaaGreatPack39
/- A Mesh copied, by the model. (Written by gen_mcopy.py.) -/
namespace Go.Proofs.YtcnadobnihbldaaGreat
open Go.RowKit Go.Sort

theorem apQ_more {qs : List IvP} (h : ApQ qs) {a : Ip} {t : Iv} {B : Nat} (hx : ∀ j (hj : j < qs.length) b, qs[j].1.x = some ⟨b, 0, none⟩ ∨ qs[j].1.y = some ⟨b, 0, none⟩ → b < B) (ha : ∀ b, a.x = some ⟨b, 0, none⟩ ∨ a.y = some ⟨b, 0, none⟩ → B ≤ b) : ApQ (qs ++ [(a, t)]) := by
  intro i j hi hj hne g
  simp only [List.length_append, List.length_cons, List.length_nil] at hi hj
  by_cases hi' : i < qs.length
  · by_cases hj' : j < qs.length
    · rw [List.getElem_append_left hi', List.getElem_append_left hj']
      exact h i j hi' hj' hne g
    · have : j = qs.length := by omega
      subst this
      rw [List.getElem_append_left hi', List.getElem_append_right (Nat.le_refl _)]
      simp only [Nat.sub_self, List.getElem_cons_zero]
      refine ⟨fun e e2 => ?_, fun e e2 => ?_⟩
      · have := hx i hi' g (.inl e); have := ha g (.inl e2); omega
      · have := hx i hi' g (.inr e); have := ha g (.inr e2); omega
  · have : i = qs.length := by omega
    subst this
    have hj' : j < qs.length := by omega
    rw [List.getElem_append_left hj', List.getElem_append_right (Nat.le_refl _)]
    simp only [Nat.sub_self, List.getElem_cons_zero]
    refine ⟨fun e e2 => ?_, fun e e2 => ?_⟩
    · have := hx j hj' g (.inl e2); have := ha g (.inl e); omega
    · have := hx j hj' g (.inr e2); have := ha g (.inr e); omega
def CpI (B : Nat) (t : Iv) (v : Value) (W : World) : Prop := ∃ (a : Ip) (g : Nat), v = .slice (some ⟨g, 0, none⟩) 1 1 ∧ Row W g 61 (ivL a t) ∧ OwnIv W B a t
theorem stab_cpI (B : Nat) (t : Iv) : ∀ (v : Value) (w1 w2 : World), CpI B t v w1 → Below w1.heap.size w1 w2 → CpI B t v w2 := by
  rintro v w1 w2 ⟨a, g, e, h2, h3⟩ hb
  exact ⟨a, g, e, h2.below hb h2.lt, h3.below hb⟩
set_option maxRecDepth 100000 in
set_option maxHeartbeats 4000000 in
theorem l10Copy_any (p : Option Addr) (c1 : Nat) (ps : List IvP) (q : Option Addr) (c2 : Nat) (ls : List Li) (w : World) (h : IvsIn w p ps) (hL : LisIn w q ls) (hq : q = none → c2 = 0) (hn : ps.length ≤ 100000) (hl : ls.length ≤ 100000000) (hm : ∀ e ∈ ps, IvM e.1 e.2 ∧ (e.1.x = none → e.1.c1 = 0) ∧ (e.1.y = none → e.1.c2 = 0) ∧ e.2.rs.length ≤ e.1.c2) :
    Calls Tryz.prog 37 #[.agg #[.slice p ps.length c1, .slice q ls.length c2]] w fun e w' => (∃ p' c' q' d' qs, e = .returned (.agg #[.slice p' ps.length c', .slice q' ls.length d']) ∧ qs.map (·.2) = ps.map (·.2) ∧ OwnMesh w' w.heap.size p' ps.length c' q' ls.length d' qs ls) ∧ Below w.heap.size w w' := by
  have HX : Hid (IvsIn w p ps) := h
  have HM : Hid (∀ e ∈ ps, IvM e.1 e.2 ∧ (e.1.x = none → e.1.c1 = 0) ∧ (e.1.y = none → e.1.c2 = 0) ∧ e.2.rs.length ≤ e.1.c2) := hm
  have r0 := ((Row.new w 26 [.slice p ps.length c1, .slice q ls.length c2]).alloc (.cells #[.slice none 0 0, .slice none 0 0] 26)).alloc (.cells #[] 56)
  have rz := (Row.new (w.alloc (.cells #[.slice p ps.length c1, .slice q ls.length c2] 26)) 26 [.slice none 0 0, .slice none 0 0]).alloc (.cells #[] 56)
  rw [show (w.alloc (.cells #[.slice p ps.length c1, .slice q ls.length c2] 26)).heap.size = w.heap.size + 1 by simp] at rz
  have hB : Below w.heap.size w (((w.alloc (.cells #[.slice p ps.length c1, .slice q ls.length c2] 26)).alloc (.cells #[.slice none 0 0, .slice none 0 0] 26)).alloc (.cells #[] 56)) := ((ent_new0 w _).alloc (by simp) _).alloc (by simp; omega) _
  have hXL := ((hL.below (ent_new0 w (.cells #[.slice p ps.length c1, .slice q ls.length c2] 26))).below (ent_new0 _ (.cells #[.slice none 0 0, .slice none 0 0] 26))).below (ent_new0 _ (.cells #[] 56))
  have ho0 := World.ownsRow_lit (base := w.heap.size + 1 + 1) (e := 56) (size := 4) ((w.alloc (.cells #[.slice p ps.length c1, .slice q ls.length c2] 26)).alloc (.cells #[.slice none 0 0, .slice none 0 0] 26)) #[] 0 (by simp) (Nat.zero_le _) (by simp)
  have hz2 : ((w.alloc (.cells #[.slice p ps.length c1, .slice q ls.length c2] 26)).alloc (.cells #[.slice none 0 0, .slice none 0 0] 26)).heap.size = w.heap.size + 1 + 1 := by simp
  rw [hz2] at ho0
  have hsz : w.heap.size + 1 + 1 < (((w.alloc (.cells #[.slice p ps.length c1, .slice q ls.length c2] 26)).alloc (.cells #[.slice none 0 0, .slice none 0 0] 26)).alloc (.cells #[] 56)).heap.size := by simp
  obtain ⟨W, hW⟩ : ∃ W, W = ((w.alloc (.cells #[.slice p ps.length c1, .slice q ls.length c2] 26)).alloc (.cells #[.slice none 0 0, .slice none 0 0] 26)).alloc (.cells #[] 56) := ⟨_, rfl⟩
  rw [← hW] at r0 rz hB hXL ho0 hsz
  obtain ⟨v4, w4, happ, hown4, hb4⟩ := run_append_lis W (w.heap.size + 1 + 1) (.slice (some ⟨w.heap.size + 1 + 1, 0, none⟩) 0 0) [] ls q c2 24 (by simpa [rowLi] using ho0) (fun e => by
    subst e
    exact ⟨lisIn_none hXL rfl, hq rfl⟩) (fun ad e j u hj => by
      rcases hXL with rfl | ⟨g, hg, _, hcell⟩
      · simp [rowLi] at hj
      · subst hg
        cases e
        rw [show (⟨g, 0, none⟩ : Addr).add j = ⟨g, j, none⟩ by unfold Addr.add; split <;> simp_all]
        exact hcell j u hj) (by simp; omega) (by omega)
  rw [List.nil_append] at hown4
  obtain ⟨q', d', rfl⟩ := owns_shape hown4
  have r4 := r0.below hb4 (by omega)
  have rz4 := rz.below hb4 (by omega)
  have hB4 : Below w.heap.size w w4 := hB.trans (hb4.mono (by omega))
  have hl4 := owns_mono hown4 (show w.heap.size ≤ w.heap.size + 1 + 1 by omega)
  have hs4 : w.heap.size + 1 + 1 < w4.heap.size := by have := hb4.size; omega
  have HA : Hid _ := And.intro (r4.alloc (.cells #[.slice none 0 0, .slice q' ls.length d'] 26)) (And.intro (rz4.alloc (.cells #[.slice none 0 0, .slice q' ls.length d'] 26)) (And.intro (Row.new w4 26 [.slice none 0 0, .slice q' ls.length d']) (And.intro (owns_below hl4 (ent_new0 w4 (.cells #[.slice none 0 0, .slice q' ls.length d'] 26))) (hB4.alloc hB4.size (.cells #[.slice none 0 0, .slice q' ls.length d'] 26)))))
  have y0 : W.cell? ⟨w.heap.size, 0, none⟩ = some (.slice p ps.length c1) := r0.cell 0
  have y1 : W.cell? ⟨w.heap.size, 1, none⟩ = some (.slice q ls.length c2) := r0.cell 1
  have HB4 : Hid (w.heap.size + 1 + 1 < w4.heap.size) := hs4
  clear r0 rz hB hXL ho0 hsz hb4 hown4 r4 rz4 hB4 hl4 hs4 hz2 h hL hq hl hm
  subst hW
  go_enter Tryz.func37, Tryz.ntmps37
  go_wp2_with (at_builtin; refine wpList_append_runs rfl _ _ 24 rfl _ _ rfl rfl happ ?_)
  clear happ y0 y1
  obtain ⟨r0, rz, rm, hlk, hB⟩ := HA.out
  have HN0 : Hid (w.heap.size ≠ w4.heap.size) := by have := HB4.out; show _ ≠ _; omega
  have HN1 : Hid (w.heap.size + 1 ≠ w4.heap.size) := by have := HB4.out; show _ ≠ _; omega
  have HB3 : Hid (w.heap.size ≤ w4.heap.size) := by have := HB4.out; show _ ≤ _; omega
  have HP : Hid _ := And.intro r0 (And.intro rz (And.intro rm (And.intro hlk hB)))
  clear r0 rz rm hlk hB HA HB4
  generalize hb3 : w4.heap.size = b3 at *
  generalize w4.alloc (.cells #[.slice none 0 0, .slice q' ls.length d'] 26) = W5 at *
  clear hb3
  go_loopw [4] (fun i wr => ∃ (k : Nat) (qs : List IvP) (pc : Option Addr) (cc : Nat), k ≤ ps.length ∧ i = .int .i64 k ∧ qs.length = k ∧ qs.map (·.2) = (ps.take k).map (·.2) ∧ Row wr b3 26 [.slice pc k cc, .slice q' ls.length d'] ∧ OwnMesh wr w.heap.size pc k cc q' ls.length d' qs ls ∧ Row wr w.heap.size 26 [.slice p ps.length c1, .slice q ls.length c2] ∧ Row wr (w.heap.size + 1) 26 [.slice none 0 0, .slice none 0 0] ∧ Below w.heap.size w wr) (fun i _ => ps.length - (intOf i).toNat)
  case atStart => exact ⟨0, [], none, 0, Nat.zero_le _, rfl, rfl, rfl, HP.out.2.2.1, ⟨World.ownsRow_nil _ _ _ 3, (fun j hj => absurd hj (by simp)), (fun i j hi => absurd hi (by simp)), HP.out.2.2.2.1⟩, HP.out.1, HP.out.2.1, HP.out.2.2.2.2⟩
  case round =>
    clear HP
    obtain ⟨k, qs, pc, cc, hk, rfl, hln, hmp, rm, om, r0, rz, hB⟩ := hrel
    have s0 : wr.cell? ⟨w.heap.size, 0, none⟩ = some (.slice p ps.length c1) := r0.cell 0
    by_cases hlt : k < ps.length
    · have dk : decide ((k : Int) < (ps.length : Int)) = true := by simpa using hlt
      obtain ⟨gp, a, t, rfl, hgp, hek, hI, c0, c1', c2'⟩ := (HX.out.below hB).at k hlt
      have hM := HM.out _ (List.getElem_mem hlt)
      rw [hek] at hM
      have HCP : Hid (∀ W, InIv W a t → Calls Tryz.prog 69 #[.agg #[.slice a.x t.is.length a.c1, .slice a.y t.rs.length a.c2, .int .i64 t.now]] W fun e w' => (∃ a2 : Ip, e = .returned (.agg #[.slice a2.x t.is.length a2.c1, .slice a2.y t.rs.length a2.c2, .int .i64 t.now]) ∧ OwnIv w' W.heap.size a2 t) ∧ Below W.heap.size W w') := fun W h => by
        refine (l07Copy_any a.x t.is.length a.c1 a.y t.rs.length a.c2 t.is t.rs t.now W rfl rfl h.1 hM.2.1 h.2 hM.2.2.1 hM.2.2.2 hM.1.1 hM.1.2.1).mono ?_
        rintro e w' ⟨q1, k1, q2, k2, he, o1, o2, hb⟩
        exact ⟨⟨⟨q1, k1, q2, k2⟩, he, o1, o2⟩, hb⟩
      have HLn : Hid (qs.length = k) := hln
      have HMp : Hid (∀ a2 : Ip, (qs ++ [(a2, t)]).map (·.2) = (ps.take (k + 1)).map (·.2)) := fun a2 => by
        rw [List.take_succ_eq_append_getElem hlt, List.map_append, List.map_append, hmp, hek]
        rfl
      have HBw : Hid (w.heap.size ≤ wr.heap.size) := hB.size
      have HXo : Hid (∀ j (hj : j < qs.length) b, qs[j].1.x = some ⟨b, 0, none⟩ ∨ qs[j].1.y = some ⟨b, 0, none⟩ → b < wr.heap.size) := fun j hj b hb => by
        rcases hb with e | e
        · exact owns_lt (om.2.1 j hj).1 b e
        · exact owns_lt (om.2.1 j hj).2 b e
      have HP : Hid _ := And.intro rm (And.intro om (And.intro r0 (And.intro rz (And.intro hB (And.intro hI hgp)))))
      clear rm om r0 rz hB hI hgp hM hek hln hmp
      go_wp2_with fail
      obtain ⟨rm, om, r0, rz, hB, hI, hgp⟩ := HP.out
      clear HP s0
      have hGN : (([(17, Is (.pointer (some ⟨b3, 0, none⟩))), (18, Is (.slice pc k cc)), (19, Is (.pointer (some ⟨w.heap.size, 0, none⟩))), (20, Is (.slice (some ⟨gp, 0, none⟩) ps.length c1)), (21, Is (.int .i64 (k : Int))), (22, Is (.pointer (some ⟨gp, k * 3, none⟩))), (23, Is (.agg #[.slice a.x t.is.length a.c1, .slice a.y t.rs.length a.c2, .int .i64 t.now])), (24, CpV wr.heap.size t), (25, CpI wr.heap.size t)] : List (Nat × (Value → World → Prop))).map (·.1)).Nodup := by simp
      refine wp_region_steady 9 (SlotG [(17, Is (.pointer (some ⟨b3, 0, none⟩))), (18, Is (.slice pc k cc)), (19, Is (.pointer (some ⟨w.heap.size, 0, none⟩))), (20, Is (.slice (some ⟨gp, 0, none⟩) ps.length c1)), (21, Is (.int .i64 (k : Int))), (22, Is (.pointer (some ⟨gp, k * 3, none⟩))), (23, Is (.agg #[.slice a.x t.is.length a.c1, .slice a.y t.rs.length a.c2, .int .i64 t.now])), (24, CpV wr.heap.size t), (25, CpI wr.heap.size t)]) (by kernel_rfl) (by kernel_rfl) (Stabs.all ⟨stab_is _, stab_is _, stab_is _, stab_is _, stab_is _, stab_is _, stab_is _, stab_cpV _ _, stab_cpI _ _, trivial⟩) ?_ ?_
      · intro o ho
        simp only [List.take_succ_cons, List.take_zero, List.mem_cons, List.not_mem_nil, or_false] at ho
        rcases ho with rfl | rfl | rfl | rfl | rfl | rfl | rfl | rfl | rfl
        · intro a' w' hb ha hdep
          have d3 : a'.tmps.getD 3 undef = .pointer (some ⟨b3, 0, none⟩) := ha.at 3 (by kernel_rfl)
          have hmk := fun (x : Value) (W : World) => SlotG.mk (x := x) (w := W) 0 rfl hGN
          clear hGN ha hdep
          go_simp
          exact ⟨_, rfl, Below.refl _ _, hmk _ _ rfl⟩
        · intro a' w' hb ha hdep
          have d17 : a'.tmps.getD 17 undef = .pointer (some ⟨b3, 0, none⟩) := (hdep 17 (of_decide_eq_true (by kernel_rfl))).is 0 rfl
          have hmk := fun (x : Value) (W : World) => SlotG.mk (x := x) (w := W) 1 rfl hGN
          clear hGN ha hdep
          have y0 : w'.cell? ⟨b3, 0, none⟩ = some (.slice pc k cc) := (rm.below hb rm.lt).cell 0
          go_simp
          exact ⟨_, rfl, Below.refl _ _, hmk _ _ rfl⟩
        · intro a' w' hb ha hdep
          have d1 : a'.tmps.getD 1 undef = .pointer (some ⟨w.heap.size, 0, none⟩) := ha.at 1 (by kernel_rfl)
          have hmk := fun (x : Value) (W : World) => SlotG.mk (x := x) (w := W) 2 rfl hGN
          clear hGN ha hdep
          go_simp
          exact ⟨_, rfl, Below.refl _ _, hmk _ _ rfl⟩
        · intro a' w' hb ha hdep
          have d19 : a'.tmps.getD 19 undef = .pointer (some ⟨w.heap.size, 0, none⟩) := (hdep 19 (of_decide_eq_true (by kernel_rfl))).is 2 rfl
          have hmk := fun (x : Value) (W : World) => SlotG.mk (x := x) (w := W) 3 rfl hGN
          clear hGN ha hdep
          have y0 : w'.cell? ⟨w.heap.size, 0, none⟩ = some (.slice (some ⟨gp, 0, none⟩) ps.length c1) := (r0.below hb r0.lt).cell 0
          go_simp
          exact ⟨_, rfl, Below.refl _ _, hmk _ _ rfl⟩
        · intro a' w' hb ha hdep
          have d4 : a'.tmps.getD 4 undef = .int .i64 (k : Int) := ha.at 4 (by kernel_rfl)
          have hmk := fun (x : Value) (W : World) => SlotG.mk (x := x) (w := W) 4 rfl hGN
          clear hGN ha hdep
          go_simp
          exact ⟨_, rfl, Below.refl _ _, hmk _ _ rfl⟩
        · intro a' w' hb ha hdep
          have d20 : a'.tmps.getD 20 undef = .slice (some ⟨gp, 0, none⟩) ps.length c1 := (hdep 20 (of_decide_eq_true (by kernel_rfl))).is 3 rfl
          have d21 : a'.tmps.getD 21 undef = .int .i64 (k : Int) := (hdep 21 (of_decide_eq_true (by kernel_rfl))).is 4 rfl
          have hmk := fun (x : Value) (W : World) => SlotG.mk (x := x) (w := W) 5 rfl hGN
          clear hGN ha hdep
          go_simp
          exact ⟨_, rfl, Below.refl _ _, hmk _ _ rfl⟩
        · intro a' w' hb ha hdep
          have d22 : a'.tmps.getD 22 undef = .pointer (some ⟨gp, k * 3, none⟩) := (hdep 22 (of_decide_eq_true (by kernel_rfl))).is 5 rfl
          have hmk := fun (x : Value) (W : World) => SlotG.mk (x := x) (w := W) 6 rfl hGN
          clear hGN ha hdep
          have z0 : w'.cell? ⟨gp, k * 3, none⟩ = some (.slice a.x t.is.length a.c1) := by rw [hb.cell (p := ⟨gp, k * 3, none⟩) hgp]; exact c0
          have z1 : w'.cell? ⟨gp, k * 3 + 1, none⟩ = some (.slice a.y t.rs.length a.c2) := by rw [hb.cell (p := ⟨gp, k * 3 + 1, none⟩) hgp]; exact c1'
          have z2 : w'.cell? ⟨gp, k * 3 + 2, none⟩ = some (.int .i64 t.now) := by rw [hb.cell (p := ⟨gp, k * 3 + 2, none⟩) hgp]; exact c2'
          go_simp
          exact ⟨_, rfl, Below.refl _ _, hmk _ _ rfl⟩
        · intro a' w' hb ha hdep
          have d23 : a'.tmps.getD 23 undef = .agg #[.slice a.x t.is.length a.c1, .slice a.y t.rs.length a.c2, .int .i64 t.now] := (hdep 23 (of_decide_eq_true (by kernel_rfl))).is 6 rfl
          have hmk := fun (x : Value) (W : World) => SlotG.mk (x := x) (w := W) 7 rfl hGN
          clear hGN ha hdep
          have hsz := hb.size
          go_simp
          refine (HCP.out _ (hI.below hb)).mono ?_
          rintro e w2 ⟨⟨a2, rfl, ho2⟩, hb2⟩
          exact ⟨_, rfl, hb2, hmk _ _ ⟨a2, rfl, ho2.mono hsz⟩⟩
        · intro a' w' hb ha hdep
          have D24 := (hdep 24 (of_decide_eq_true (by kernel_rfl))).get 7 rfl
          have hmk := fun (x : Value) (W : World) => SlotG.mk (x := x) (w := W) 8 rfl hGN
          clear hGN ha hdep
          obtain ⟨a2, d24, ho2⟩ := D24
          rw [Array.getD_eq_getD_getElem?] at d24
          go_simp
          exact ⟨_, rfl, ent_new0 _ _, hmk _ _ ⟨a2, _, rfl, Row.new w' 61 (ivL a2 t), ho2.below (ent_new0 _ _)⟩⟩
      · intro a' w' hb ha hG
        clear hGN
        have d18 : a'.tmps.getD 18 undef = .slice pc k cc := (hG _ (List.mem_of_getElem? (i := 1) rfl) 18 rfl).is 1 rfl
        have D25 := (hG _ (List.mem_of_getElem? (i := 8) rfl) 25 rfl).get 8 rfl
        have d0 : a'.tmps.getD 0 undef = .agg #[.slice (some ⟨gp, 0, none⟩) ps.length c1, .slice q ls.length c2] := ha.at 0 (by kernel_rfl)
        have d1 : a'.tmps.getD 1 undef = .pointer (some ⟨w.heap.size, 0, none⟩) := ha.at 1 (by kernel_rfl)
        have d2 : a'.tmps.getD 2 undef = .pointer (some ⟨w.heap.size + 1, 0, none⟩) := ha.at 2 (by kernel_rfl)
        have d3 : a'.tmps.getD 3 undef = .pointer (some ⟨b3, 0, none⟩) := ha.at 3 (by kernel_rfl)
        have d4 : a'.tmps.getD 4 undef = .int .i64 (k : Int) := ha.at 4 (by kernel_rfl)
        have d5 : a'.tmps.getD 5 undef = .slice (some ⟨w.heap.size + 1 + 1, 0, none⟩) 0 0 := ha.at 5 (by kernel_rfl)
        have d6 : a'.tmps.getD 6 undef = .pointer (some ⟨w.heap.size, 1, none⟩) := ha.at 6 (by kernel_rfl)
        have d7 : a'.tmps.getD 7 undef = .slice q ls.length c2 := ha.at 7 (by kernel_rfl)
        have d8 : a'.tmps.getD 8 undef = .slice q' ls.length d' := ha.at 8 (by kernel_rfl)
        have d9 : a'.tmps.getD 9 undef = .agg #[.slice none 0 0, .slice q' ls.length d'] := ha.at 9 (by kernel_rfl)
        have d28 : a'.tmps.getD 28 undef = undef := ha.at 28 (by kernel_rfl)
        have e2 : a' = ⟨#[a'.tmps.getD 0 undef, a'.tmps.getD 1 undef, a'.tmps.getD 2 undef, a'.tmps.getD 3 undef, a'.tmps.getD 4 undef, a'.tmps.getD 5 undef, a'.tmps.getD 6 undef, a'.tmps.getD 7 undef, a'.tmps.getD 8 undef, a'.tmps.getD 9 undef, a'.tmps.getD 10 undef, a'.tmps.getD 11 undef, a'.tmps.getD 12 undef, a'.tmps.getD 13 undef, a'.tmps.getD 14 undef, a'.tmps.getD 15 undef, a'.tmps.getD 16 undef, a'.tmps.getD 17 undef, a'.tmps.getD 18 undef, a'.tmps.getD 19 undef, a'.tmps.getD 20 undef, a'.tmps.getD 21 undef, a'.tmps.getD 22 undef, a'.tmps.getD 23 undef, a'.tmps.getD 24 undef, a'.tmps.getD 25 undef, a'.tmps.getD 26 undef, a'.tmps.getD 27 undef, a'.tmps.getD 28 undef], []⟩ := by rw [← (show a'.defers = [] from ha.2.1)]; exact act_eq a' 29 ha.1
        rw [d18, d0, d1, d2, d3, d4, d5, d6, d7, d8, d9, d28] at e2
        clear hG ha d18 d0 d1 d2 d3 d4 d5 d6 d7 d8 d9 d28
        generalize a'.tmps.getD 10 undef = x10 at *
        generalize a'.tmps.getD 11 undef = x11 at *
        generalize a'.tmps.getD 12 undef = x12 at *
        generalize a'.tmps.getD 13 undef = x13 at *
        generalize a'.tmps.getD 14 undef = x14 at *
        generalize a'.tmps.getD 15 undef = x15 at *
        generalize a'.tmps.getD 16 undef = x16 at *
        generalize a'.tmps.getD 17 undef = x17 at *
        generalize a'.tmps.getD 19 undef = x19 at *
        generalize a'.tmps.getD 20 undef = x20 at *
        generalize a'.tmps.getD 21 undef = x21 at *
        generalize a'.tmps.getD 22 undef = x22 at *
        generalize a'.tmps.getD 23 undef = x23 at *
        generalize a'.tmps.getD 24 undef = x24 at *
        generalize a'.tmps.getD 25 undef = x25 at *
        generalize a'.tmps.getD 26 undef = x26 at *
        generalize a'.tmps.getD 27 undef = x27 at *
        subst e2
        simp only [List.drop_succ_cons, List.drop_zero]
        obtain ⟨a2, gt, rfl, hrt, ho2⟩ := D25
        replace rm := rm.below hb rm.lt
        replace r0 := r0.below hb r0.lt
        replace rz := rz.below hb rz.lt
        replace om := om.below hb
        have hsz := hb.size
        replace hB := hB.trans (hb.mono hB.size)
        clear hb hI hgp c0 c1' c2'
        go_wp2_with (at_builtin; refine wpList_append_iv rfl _ _ rfl w.heap.size _ _ qs rfl HLn.out.symm om.1 gt 1 (a2, t) rfl hrt (by omega) (by have := HBw.out; omega) ?_)
        intro v5 w5 ho5 hb5 hk5
        have hg1 := owns_ge ho2.1
        have hg2 := owns_ge ho2.2
        have hO5 : ∀ j (hj : j < (qs ++ [(a2, t)]).length), OwnIv w5 w.heap.size (qs ++ [(a2, t)])[j].1 (qs ++ [(a2, t)])[j].2 := fun j hj => by
          simp only [List.length_append, List.length_cons, List.length_nil] at hj
          have hkp : ∀ {a3 : Ip} {t3 : Iv} {B : Nat}, OwnIv w' B a3 t3 → OwnIv w5 B a3 t3 := fun o3 => ⟨owns_kept o3.1 (fun b t l e hr => hk5 b t l (fun e2 => by subst e2; exact owns_ne o3.1 hr (by decide) e) hr), owns_kept o3.2 (fun b t l e hr => hk5 b t l (fun e2 => by subst e2; exact owns_ne o3.2 hr (by decide) e) hr)⟩
          by_cases hj2 : j < qs.length
          · rw [List.getElem_append_left hj2]; exact hkp (om.2.1 j hj2)
          · rw [List.getElem_append_right (by omega)]
            have : j - qs.length = 0 := by omega
            simp only [this, List.getElem_cons_zero]
            exact (hkp ho2).mono HBw.out
        have hA5 := apQ_more (a := a2) (t := t) om.2.2.1 HXo.out (fun b hb => by rcases hb with e | e; exact hg1 b e; exact hg2 b e)
        have hL5 := owns_kept om.2.2.2 (fun b t l e hr => hk5 b t l (fun e2 => by subst e2; exact owns_ne om.2.2.2 hr (by decide) e) hr)
        replace rm := hk5 _ _ _ (by decide) rm
        replace r0 := hk5 _ _ _ (by decide) r0
        replace rz := hk5 _ _ _ (by decide) rz
        replace hB := hB.trans hb5
        have hs5 := hb5.size
        obtain ⟨p5, c5, rfl⟩ := owns_shape ho5
        have om5 : OwnMesh w5 w.heap.size p5 (k + 1) c5 q' ls.length d' (qs ++ [(a2, t)]) ls := ⟨ho5, hO5, hA5, hL5⟩
        clear hk5 hb5 hrt ho2 om ho5 hO5 hA5 hL5 hg1 hg2
        have m0 : w5.cell? ⟨b3, 0, none⟩ = some (.slice pc k cc) := rm.cell 0
        have f0 := rm.frozen 0
        have HZ : Hid _ := And.intro (rm.set 0 (.slice p5 (k + 1) c5)) (And.intro (om5.kept (w' := w5.setCell ⟨b3, 0, none⟩ (.slice p5 (k + 1) c5)) (fun b t l ht hb => hb.other 0 _ (fun e2 => by subst e2; have h1 := rm; unfold Row at h1 hb; rw [h1] at hb; simp only [Option.some.injEq, Obj.cells.injEq] at hb; rcases ht with e | e | e | e <;> (rw [e] at hb; exact absurd hb.2.1 (by decide))))) (And.intro (r0.other 0 (.slice p5 (k + 1) c5) HN0.out) (And.intro (rz.other 0 (.slice p5 (k + 1) c5) HN1.out) (hB.setCell (p := ⟨b3, 0, none⟩) (by show w.heap.size ≤ b3; exact HB3.out) (.slice p5 (k + 1) c5)))))
        clear rm r0 rz om5 hB
        go_wp2_with fail
        clear m0 f0
        go_roundw
        case rel => exact ⟨k + 1, qs ++ [(a2, t)], p5, c5, hlt, by go_num, by rw [List.length_append, HLn.out]; rfl, HMp.out a2, HZ.out.1, HZ.out.2.1, HZ.out.2.2.1, HZ.out.2.2.2.1, HZ.out.2.2.2.2⟩
        case measure => simp [intOf]; omega
    · obtain rfl : k = ps.length := by omega
      have dk : decide ((ps.length : Int) < (ps.length : Int)) = false := by simp
      rw [List.take_length] at hmp
      have m0 : wr.cell? ⟨b3, 0, none⟩ = some (.slice pc ps.length cc) := rm.cell 0
      have m1 : wr.cell? ⟨b3, 1, none⟩ = some (.slice q' ls.length d') := rm.cell 1
      have z0 : wr.cell? ⟨w.heap.size + 1, 0, none⟩ = some (.slice none 0 0) := rz.cell 0
      have z1 : wr.cell? ⟨w.heap.size + 1, 1, none⟩ = some (.slice none 0 0) := rz.cell 1
      have f0 := rz.frozen 0
      have f1 := rz.frozen 1
      have HE : Hid (Row ((wr.setCell ⟨w.heap.size + 1, 0, none⟩ (.slice pc ps.length cc)).setCell ⟨w.heap.size + 1, 1, none⟩ (.slice q' ls.length d')) (w.heap.size + 1) 26 [.slice pc ps.length cc, .slice q' ls.length d'] ∧ OwnMesh ((wr.setCell ⟨w.heap.size + 1, 0, none⟩ (.slice pc ps.length cc)).setCell ⟨w.heap.size + 1, 1, none⟩ (.slice q' ls.length d')) w.heap.size pc ps.length cc q' ls.length d' qs ls ∧ Below w.heap.size w ((wr.setCell ⟨w.heap.size + 1, 0, none⟩ (.slice pc ps.length cc)).setCell ⟨w.heap.size + 1, 1, none⟩ (.slice q' ls.length d'))) := ⟨(rz.set 0 (.slice pc ps.length cc)).set 1 (.slice q' ls.length d'), om.kept (fun b t l ht hb => by
        have hne : b ≠ w.heap.size + 1 := fun e => by
          subst e
          have h1 := rz
          unfold Row at h1 hb
          rw [h1] at hb
          simp only [Option.some.injEq, Obj.cells.injEq] at hb
          rcases ht with e | e | e | e <;> (rw [e] at hb; exact absurd hb.2.1 (by decide))
        exact (hb.other 0 (.slice pc ps.length cc) hne).other 1 (.slice q' ls.length d') hne), (hB.setCell (p := ⟨w.heap.size + 1, 0, none⟩) (by show w.heap.size ≤ w.heap.size + 1; omega) (.slice pc ps.length cc)).setCell (p := ⟨w.heap.size + 1, 1, none⟩) (by show w.heap.size ≤ w.heap.size + 1; omega) (.slice q' ls.length d')⟩
      clear rm om r0 rz hB hlt hk hln HX HM
      go_wp2_with fail
      obtain ⟨k1, k2, k3⟩ := HE.out
      clear HE m0 m1 z0 z1 f0 f1 s0
      generalize ((wr.setCell ⟨w.heap.size + 1, 0, none⟩ (.slice pc ps.length cc)).setCell ⟨w.heap.size + 1, 1, none⟩ (.slice q' ls.length d')) = Y at *
      have e0 : Y.cell? ⟨w.heap.size + 1, 0, none⟩ = some (.slice pc ps.length cc) := k1.cell 0
      have e1 : Y.cell? ⟨w.heap.size + 1, 1, none⟩ = some (.slice q' ls.length d') := k1.cell 1
      exact bodyPost_ret (v := .agg #[.slice pc ps.length cc, .slice q' ls.length d']) (by simp [results, Tryz.results37, go_sem, e0, e1]) rfl ⟨⟨pc, cc, q', d', rfl, qs, hmp, k2⟩, k3⟩
end Go.Proofs.YtcnadobnihbldaaGreat
/- Insts handed over: their lists lie apart. (Turned from MkIv by hand.) -/
namespace Go.Proofs.YtcnadobnihbldaaGreat
open Go.RowKit Go.Sort

set_option maxRecDepth 100000 in
set_option maxHeartbeats 4000000 in
theorem toInstSA_any (x : Option Addr) (cap : Nat) (ps : List IvP) (w : World) (h : ArgIvs w x ps.length ps) (hn : ps.length ≤ 1048576) (hs : ∀ e ∈ ps, IvS e.2) :
    Calls Tryz.prog 39 #[.slice x ps.length cap] w fun e w' => ∃ g, ∃ qs : List IvP, e = .returned (.slice (some ⟨g, 0, none⟩) ps.length ps.length) ∧ w.heap.size ≤ g ∧ qs.map (·.2) = ps.map (·.2) ∧ Row w' g 61 (rowIv qs) ∧ (∀ e ∈ qs, PlIv w' (g + 1) e.1 e.2) ∧ ApQ qs ∧ Below w.heap.size w w' := by
  have HE : Hid (∀ (a : Ip) (t : Iv) (w : World), ArgIv w a t → IvS t → Calls Tryz.prog 73 #[.agg #[.slice a.x t.is.length a.c1, .slice a.y t.rs.length a.c2, .int .i64 t.now]] w fun e w' => ∃ g h, e = .returned (.agg #[.slice (some ⟨g, 0, none⟩) t.is.length t.is.length, .slice (some ⟨h, 0, none⟩) t.rs.length t.rs.length, .int .i64 t.now]) ∧ w.heap.size ≤ g ∧ w.heap.size ≤ h ∧ Row w' g 53 (rowI t.is) ∧ Row w' h 155 (rowR t.rs) ∧ Below w.heap.size w w') := fun a t w hA hS => toInst_new a.x a.c1 a.y a.c2 t.is t.rs t.now w hA.1 hA.2 hS.1 hS.2
  have HX : Hid (ArgIvs w x ps.length ps) := h
  have HS : Hid (∀ e ∈ ps, IvS e.2) := hs
  clear h hs
  go_enter Tryz.func39, Tryz.ntmps39
  go_wp2_with (at_make; refine wpList_make_ivs rfl _ _ rfl _ ps.length rfl rfl rfl (by omega) w.heap.size w (Below.refl _ _) (Nat.le_refl _) ?_)
  intro w0 hr0 hb0
  have hz : ([] : List IvP) ++ List.replicate (ps.length - 0) zeroIv = List.replicate ps.length zeroIv := by simp
  rw [← hz] at hr0
  clear hz
  go_wp2_with fail
  go_loopw [4] (fun i wr => ∃ (k : Nat) (qs : List IvP), k ≤ ps.length ∧ i = .int .i64 k ∧ qs.length = k ∧ qs.map (·.2) = (ps.take k).map (·.2) ∧ Row wr w.heap.size 61 (rowIv (qs ++ List.replicate (ps.length - k) zeroIv)) ∧ (∀ e ∈ qs, PlIv wr (w.heap.size + 1) e.1 e.2) ∧ ApQ qs ∧ Below w.heap.size w wr) (fun i _ => ps.length - (intOf i).toNat)
  case atStart => exact ⟨0, [], Nat.zero_le _, rfl, rfl, rfl, hr0, fun e he => by simp at he, fun i j hi => absurd hi (by simp), hb0⟩
  case round =>
    obtain ⟨k, qs, hk, rfl, hql, hqm, hr, hpl, hap, hb⟩ := hrel
    by_cases hlt : k < ps.length
    · obtain ⟨p, a, t, rfl, hek, hA, hW, c0, c1, c2⟩ := (HX.out.below hb).at k hlt
      have hS := HS.out ps[k] (List.getElem_mem hlt)
      rw [hek] at hS
      have HEk : Hid (Calls Tryz.prog 73 #[.agg #[.slice a.x t.is.length a.c1, .slice a.y t.rs.length a.c2, .int .i64 t.now]] wr fun e w' => ∃ g h, e = .returned (.agg #[.slice (some ⟨g, 0, none⟩) t.is.length t.is.length, .slice (some ⟨h, 0, none⟩) t.rs.length t.rs.length, .int .i64 t.now]) ∧ wr.heap.size ≤ g ∧ wr.heap.size ≤ h ∧ Row w' g 53 (rowI t.is) ∧ Row w' h 155 (rowR t.rs) ∧ Below wr.heap.size wr w') := HE.out a t wr hA hS
      have HK : Hid (ps[k] = (a, t)) := hek
      have hlt0 := hr.lt
      clear HE hek hr0 hb0 hA hW hS
      generalize a.x = ax at *
      generalize a.y = ay at *
      generalize a.c1 = ac1 at *
      generalize a.c2 = ac2 at *
      obtain ⟨is, rs, now⟩ := t
      simp only at HEk c0 c1 c2
      generalize hN1 : is.length = n1 at *
      generalize hN2 : rs.length = n2 at *
      have HN : Hid (n1 = is.length ∧ n2 = rs.length) := ⟨hN1.symm, hN2.symm⟩
      clear hN1 hN2
      go_wp2_with fail
      refine (HEk.out).mono ?_
      rintro e w1 ⟨g, h, rfl, hg, hh, k1, k2, hb1⟩
      have hr1 := hr.below hb1 hr.lt
      have hB1 := hb.trans (hb1.mono hb.size)
      have hpl1 : ∀ e ∈ qs ++ [((⟨some ⟨g, 0, none⟩, n1, some ⟨h, 0, none⟩, n2⟩, ⟨is, rs, now⟩) : IvP)], PlIv w1 (w.heap.size + 1) e.1 e.2 := fun e he => by
        rcases List.mem_append.1 he with he | he
        · exact (hpl e he).below hb1
        · rw [List.mem_singleton] at he
          subst he
          exact ⟨g, h, by simp only [← HN.out.1, ← HN.out.2], by omega, by omega, k1, k2⟩
      have hap1 : ApQ (qs ++ [((⟨some ⟨g, 0, none⟩, n1, some ⟨h, 0, none⟩, n2⟩, ⟨is, rs, now⟩) : IvP)]) := apQ_more hap (B := wr.heap.size) (fun j hj b hbb => by
        obtain ⟨g2, h2, e2, -, -, a1, a2⟩ := hpl qs[j] (List.getElem_mem hj)
        rw [e2] at hbb
        simp only [Option.some.injEq, Addr.mk.injEq, and_true] at hbb
        rcases hbb with rfl | rfl
        · exact a1.lt
        · exact a2.lt) (fun b hbb => by
        simp only [Option.some.injEq, Addr.mk.injEq, and_true] at hbb
        rcases hbb with rfl | rfl <;> omega)
      clear c0 c1 c2 hb1 HEk hr hb hpl hap k1 k2
      have hlr : (rowIv (qs ++ List.replicate (ps.length - k) zeroIv)).length = ps.length * 3 := by rw [rowIv_length, List.length_append, List.length_replicate, hql]; omega
      obtain ⟨z0, hz0⟩ := Row.someIv hr1 (k * 3) (by omega)
      obtain ⟨z1, hz1⟩ := Row.someIv hr1 (k * 3 + 1) (by omega)
      obtain ⟨z2, hz2⟩ := Row.someIv hr1 (k * 3 + 2) (by omega)
      have f0 := hr1.frozen (k * 3)
      have f1 := hr1.frozen (k * 3 + 1)
      have f2 := hr1.frozen (k * 3 + 2)
      have hr2 := threeIv_row hr1 (k * 3) (.slice (some ⟨g, 0, none⟩) n1 n1) (.slice (some ⟨h, 0, none⟩) n2 n2) (.int .i64 now)
      have hset := rowIv_set qs ps.length k hql hlt ⟨some ⟨g, 0, none⟩, n1, some ⟨h, 0, none⟩, n2⟩ ⟨is, rs, now⟩
      simp only [← HN.out.1, ← HN.out.2] at hset
      rw [hset] at hr2
      have hB2 := threeIv_below hB1 w.heap.size (k * 3) (Nat.le_refl _) (.slice (some ⟨g, 0, none⟩) n1 n1) (.slice (some ⟨h, 0, none⟩) n2 n2) (.int .i64 now)
      have hP2 := fun e he => (hpl1 e he).kept (w' := threeIv w1 w.heap.size (k * 3) (.slice (some ⟨g, 0, none⟩) n1 n1) (.slice (some ⟨h, 0, none⟩) n2 n2) (.int .i64 now)) (Nat.lt_succ_self _) (fun b tt l hne hr => threeIv_other hr hne (k * 3) (.slice (some ⟨g, 0, none⟩) n1 n1) (.slice (some ⟨h, 0, none⟩) n2 n2) (.int .i64 now))
      unfold threeIv at hr2 hB2 hP2
      have hm2 : (qs ++ [((⟨some ⟨g, 0, none⟩, n1, some ⟨h, 0, none⟩, n2⟩, ⟨is, rs, now⟩) : IvP)]).map (·.2) = (ps.take (k + 1)).map (·.2) := by
        rw [List.map_append, hqm, List.take_succ_eq_append_getElem hlt, List.map_append, HK.out]
        rfl
      have HH : Hid _ := And.intro hr2 (And.intro hB2 (And.intro hP2 (And.intro hm2 hap1)))
      clear hr1 hB1 hlr hr2 hB2 hP2 hm2 hpl1 hset hap1
      go_wp2_with fail
      go_roundw
      case rel => exact ⟨k + 1, _, hlt, by go_num, by rw [List.length_append, hql]; rfl, HH.out.2.2.2.1, HH.out.1, HH.out.2.2.1, HH.out.2.2.2.2, HH.out.2.1⟩
      case measure => simp [intOf]; omega
    · obtain rfl : k = ps.length := by omega
      rw [Nat.sub_self, List.replicate_zero, List.append_nil] at hr
      rw [List.take_length] at hqm
      clear hlt hk
      go_wp2
      go_ret
      exact ⟨w.heap.size, rfl, Nat.le_refl _, qs, hqm, hr, fun a b h => hpl (a, b) h, hap, hb⟩
end Go.Proofs.YtcnadobnihbldaaGreat
/- A Mesh handed over: its lists lie apart. (Turned from MeshA by hand.) -/
namespace Go.Proofs.YtcnadobnihbldaaGreat
open Go.RowKit Go.Sort

set_option maxRecDepth 100000 in
set_option maxHeartbeats 4000000 in
theorem toMeshA_any (p : Option Addr) (c1 : Nat) (q : Option Addr) (c2 : Nat) (ps : List IvP) (ls : List Li) (w : World) (h : ArgIvs w p ps.length ps ∧ ArgLi w q ls.length ls) (hn : ps.length ≤ 1048576 ∧ ls.length ≤ 1048576 ∧ ∀ e ∈ ps, IvS e.2) :
    Calls Tryz.prog 17 #[.agg #[.slice p ps.length c1, .slice q ls.length c2]] w fun e w' => ∃ (g : Nat) (qs : List IvP) (h : Nat), e = .returned (.agg #[.slice (some ⟨g, 0, none⟩) ps.length ps.length, .slice (some ⟨h, 0, none⟩) ls.length ls.length]) ∧ w.heap.size ≤ g ∧ w.heap.size ≤ h ∧ qs.map (·.2) = ps.map (·.2) ∧ Row w' g 61 (rowIv qs) ∧ (∀ e ∈ qs, PlIv w' (g + 1) e.1 e.2) ∧ Row w' h 56 (rowLi ls) ∧ ApQ qs ∧ Below w.heap.size w w' := by
  have HI : Hid (∀ w, ArgIvs w p ps.length ps → Calls Tryz.prog 39 #[.slice p ps.length c1] w fun e w' => ∃ (g : Nat) (qs : List IvP), e = .returned (.slice (some ⟨g, 0, none⟩) ps.length ps.length) ∧ w.heap.size ≤ g ∧ qs.map (·.2) = ps.map (·.2) ∧ Row w' g 61 (rowIv qs) ∧ (∀ e ∈ qs, PlIv w' (g + 1) e.1 e.2) ∧ ApQ qs ∧ Below w.heap.size w w') := fun w h => toInstSA_any p c1 ps w h hn.1 hn.2.2
  have HS : Hid (∀ w, ArgLi w q ls.length ls → Calls Tryz.prog 40 #[.slice q ls.length c2] w fun e w' => ∃ g, e = .returned (.slice (some ⟨g, 0, none⟩) ls.length ls.length) ∧ w.heap.size ≤ g ∧ Row w' g 56 (rowLi ls) ∧ Below w.heap.size w w') := fun w h => toLinkS_any q c2 ls w h hn.2.1
  have HX : Hid (ArgIvs w p ps.length ps ∧ ArgLi w q ls.length ls) := h
  clear h hn
  generalize ps.length = n1 at *
  generalize ls.length = n2 at *
  obtain ⟨W, hW, q0, q1, q2, hB, hS⟩ := three_new w [.slice p n1 c1, .slice q n2 c2] [.slice none 0 0, .slice none 0 0] [.slice none 0 0, .slice none 0 0] 39 26 26
  have HW : Hid _ := hW
  have HQ : Hid _ := And.intro q0 (And.intro q1 (And.intro q2 (And.intro hB hS)))
  clear hW q0 q1 q2 hB hS
  go_enter Tryz.func17, Tryz.ntmps17
  go_wp2_with fail
  rw [← HW.out]
  obtain ⟨q0, q1, q2, hB, hS⟩ := HQ.out
  refine (HI.out _ (HX.out.1.below hB)).mono ?_
  rintro e w1 ⟨g, qs, rfl, hg, hqm, rg, hp, hap, hb1⟩
  have q0 := q0.below hb1 q0.lt
  have q1 := q1.below hb1 q1.lt
  have q2 := q2.below hb1 q2.lt
  have hB := hB.trans (hb1.mono hB.size)
  have hs := hb1.size
  clear hb1
  clear HI HW HQ
  have x1 : w1.cell? ⟨w.heap.size, 1, none⟩ = some (.slice q n2 c2) := q0.cell 1
  have a0 : w1.cell? ⟨(w.heap.size + 1 + 1), 0, none⟩ = some (.slice none 0 0) := q2.cell 0
  have f0 : w1.frozen? ⟨(w.heap.size + 1 + 1), 0, none⟩ = false := q2.frozen 0
  have ng : g ≠ (w.heap.size + 1 + 1) := by omega
  have HE : Hid (Row (w1.setCell ⟨(w.heap.size + 1 + 1), 0, none⟩ (.slice (some ⟨g, 0, none⟩) n1 n1)) w.heap.size 39 [.slice p n1 c1, .slice q n2 c2] ∧ Row (w1.setCell ⟨(w.heap.size + 1 + 1), 0, none⟩ (.slice (some ⟨g, 0, none⟩) n1 n1)) (w.heap.size + 1) 26 [.slice none 0 0, .slice none 0 0] ∧ Row (w1.setCell ⟨(w.heap.size + 1 + 1), 0, none⟩ (.slice (some ⟨g, 0, none⟩) n1 n1)) (w.heap.size + 1 + 1) 26 [.slice (some ⟨g, 0, none⟩) n1 n1, .slice none 0 0] ∧ Row (w1.setCell ⟨(w.heap.size + 1 + 1), 0, none⟩ (.slice (some ⟨g, 0, none⟩) n1 n1)) g 61 (rowIv qs) ∧ (∀ e ∈ qs, PlIv (w1.setCell ⟨(w.heap.size + 1 + 1), 0, none⟩ (.slice (some ⟨g, 0, none⟩) n1 n1)) (g + 1) e.1 e.2) ∧ Below w.heap.size w (w1.setCell ⟨(w.heap.size + 1 + 1), 0, none⟩ (.slice (some ⟨g, 0, none⟩) n1 n1)) ∧ (w1.setCell ⟨(w.heap.size + 1 + 1), 0, none⟩ (.slice (some ⟨g, 0, none⟩) n1 n1)).heap.size = w1.heap.size) := ⟨(q0).other 0 (.slice (some ⟨g, 0, none⟩) n1 n1) (by omega), (q1).other 0 (.slice (some ⟨g, 0, none⟩) n1 n1) (by omega), (q2).set 0 (.slice (some ⟨g, 0, none⟩) n1 n1), (rg).other 0 (.slice (some ⟨g, 0, none⟩) n1 n1) ng, fun e he => (hp e he).kept (w' := _) (b := (w.heap.size + 1 + 1)) (by omega) (fun b_ t_ l_ hne hr => hr.other 0 (.slice (some ⟨g, 0, none⟩) n1 n1) hne), (hB.setCell (p := ⟨(w.heap.size + 1 + 1), 0, none⟩) (by show w.heap.size ≤ (w.heap.size + 1 + 1); omega) (.slice (some ⟨g, 0, none⟩) n1 n1)), by simp⟩
  clear q0 q1 q2 hB hp rg
  go_wp2_with fail
  generalize (w1.setCell ⟨(w.heap.size + 1 + 1), 0, none⟩ (.slice (some ⟨g, 0, none⟩) n1 n1)) = W1 at *
  obtain ⟨q0, q1, q2, rg, hp, hB, hS⟩ := HE.out
  clear HE a0 f0 ng
  refine (HS.out _ (HX.out.2.below hB)).mono ?_
  rintro e w3 ⟨h, rfl, hh, rh, hb2⟩
  have q0 := q0.below hb2 q0.lt
  have q1 := q1.below hb2 q1.lt
  have q2 := q2.below hb2 q2.lt
  have rg := rg.below hb2 rg.lt
  have hp := fun e he => (hp e he).below hb2
  have hB := hB.trans (hb2.mono hB.size)
  have hs := hb2.size
  clear hb2
  clear HS HX x1
  have a0 : w3.cell? ⟨(w.heap.size + 1 + 1), 0, none⟩ = some (.slice (some ⟨g, 0, none⟩) n1 n1) := q2.cell 0
  have a1 : w3.cell? ⟨(w.heap.size + 1 + 1), 1, none⟩ = some (.slice none 0 0) := q2.cell 1
  have f1 : w3.frozen? ⟨(w.heap.size + 1 + 1), 1, none⟩ = false := q2.frozen 1
  have b0 : w3.cell? ⟨(w.heap.size + 1), 0, none⟩ = some (.slice none 0 0) := q1.cell 0
  have b1 : w3.cell? ⟨(w.heap.size + 1), 1, none⟩ = some (.slice none 0 0) := q1.cell 1
  have e0 : w3.frozen? ⟨(w.heap.size + 1), 0, none⟩ = false := q1.frozen 0
  have e1 : w3.frozen? ⟨(w.heap.size + 1), 1, none⟩ = false := q1.frozen 1
  have ng2 : g ≠ (w.heap.size + 1 + 1) := by omega
  have nh2 : h ≠ (w.heap.size + 1 + 1) := by omega
  have ng1 : g ≠ (w.heap.size + 1) := by omega
  have nh1 : h ≠ (w.heap.size + 1) := by omega
  have n12 : (w.heap.size + 1) ≠ (w.heap.size + 1 + 1) := by omega
  have HF : Hid (Row (((w3.setCell ⟨(w.heap.size + 1 + 1), 1, none⟩ (.slice (some ⟨h, 0, none⟩) n2 n2)).setCell ⟨(w.heap.size + 1), 0, none⟩ (.slice (some ⟨g, 0, none⟩) n1 n1)).setCell ⟨(w.heap.size + 1), 1, none⟩ (.slice (some ⟨h, 0, none⟩) n2 n2)) (w.heap.size + 1) 26 [.slice (some ⟨g, 0, none⟩) n1 n1, .slice (some ⟨h, 0, none⟩) n2 n2] ∧ Row (((w3.setCell ⟨(w.heap.size + 1 + 1), 1, none⟩ (.slice (some ⟨h, 0, none⟩) n2 n2)).setCell ⟨(w.heap.size + 1), 0, none⟩ (.slice (some ⟨g, 0, none⟩) n1 n1)).setCell ⟨(w.heap.size + 1), 1, none⟩ (.slice (some ⟨h, 0, none⟩) n2 n2)) g 61 (rowIv qs) ∧ Row (((w3.setCell ⟨(w.heap.size + 1 + 1), 1, none⟩ (.slice (some ⟨h, 0, none⟩) n2 n2)).setCell ⟨(w.heap.size + 1), 0, none⟩ (.slice (some ⟨g, 0, none⟩) n1 n1)).setCell ⟨(w.heap.size + 1), 1, none⟩ (.slice (some ⟨h, 0, none⟩) n2 n2)) h 56 (rowLi ls) ∧ (∀ e ∈ qs, PlIv (((w3.setCell ⟨(w.heap.size + 1 + 1), 1, none⟩ (.slice (some ⟨h, 0, none⟩) n2 n2)).setCell ⟨(w.heap.size + 1), 0, none⟩ (.slice (some ⟨g, 0, none⟩) n1 n1)).setCell ⟨(w.heap.size + 1), 1, none⟩ (.slice (some ⟨h, 0, none⟩) n2 n2)) (g + 1) e.1 e.2) ∧ Below w.heap.size w (((w3.setCell ⟨(w.heap.size + 1 + 1), 1, none⟩ (.slice (some ⟨h, 0, none⟩) n2 n2)).setCell ⟨(w.heap.size + 1), 0, none⟩ (.slice (some ⟨g, 0, none⟩) n1 n1)).setCell ⟨(w.heap.size + 1), 1, none⟩ (.slice (some ⟨h, 0, none⟩) n2 n2))) := ⟨(((q1).other 1 (.slice (some ⟨h, 0, none⟩) n2 n2) n12).set 0 (.slice (some ⟨g, 0, none⟩) n1 n1)).set 1 (.slice (some ⟨h, 0, none⟩) n2 n2), (((rg).other 1 (.slice (some ⟨h, 0, none⟩) n2 n2) ng2).other 0 (.slice (some ⟨g, 0, none⟩) n1 n1) ng1).other 1 (.slice (some ⟨h, 0, none⟩) n2 n2) ng1, (((rh).other 1 (.slice (some ⟨h, 0, none⟩) n2 n2) nh2).other 0 (.slice (some ⟨g, 0, none⟩) n1 n1) nh1).other 1 (.slice (some ⟨h, 0, none⟩) n2 n2) nh1, fun e he => (((hp e he).kept (b := (w.heap.size + 1 + 1)) (by omega) (fun b_ t_ l_ hne hr => hr.other 1 (.slice (some ⟨h, 0, none⟩) n2 n2) hne)).kept (b := (w.heap.size + 1)) (by omega) (fun b_ t_ l_ hne hr => hr.other 0 (.slice (some ⟨g, 0, none⟩) n1 n1) hne)).kept (b := (w.heap.size + 1)) (by omega) (fun b_ t_ l_ hne hr => hr.other 1 (.slice (some ⟨h, 0, none⟩) n2 n2) hne), (((hB.setCell (p := ⟨(w.heap.size + 1 + 1), 1, none⟩) (by show w.heap.size ≤ (w.heap.size + 1 + 1); omega) (.slice (some ⟨h, 0, none⟩) n2 n2)).setCell (p := ⟨(w.heap.size + 1), 0, none⟩) (by show w.heap.size ≤ (w.heap.size + 1); omega) (.slice (some ⟨g, 0, none⟩) n1 n1)).setCell (p := ⟨(w.heap.size + 1), 1, none⟩) (by show w.heap.size ≤ (w.heap.size + 1); omega) (.slice (some ⟨h, 0, none⟩) n2 n2))⟩
  clear q0 q1 q2 rg rh hB hp
  go_wp2_with fail
  have hF := HF.out
  clear HF a0 b0 e0 a1 b1 e1 f1
  generalize (((w3.setCell ⟨(w.heap.size + 1 + 1), 1, none⟩ (.slice (some ⟨h, 0, none⟩) n2 n2)).setCell ⟨(w.heap.size + 1), 0, none⟩ (.slice (some ⟨g, 0, none⟩) n1 n1)).setCell ⟨(w.heap.size + 1), 1, none⟩ (.slice (some ⟨h, 0, none⟩) n2 n2)) = Y at *
  obtain ⟨k1, k2, k3, k5, k6⟩ := hF
  have e0 : Y.cell? ⟨(w.heap.size + 1), 0, none⟩ = some (.slice (some ⟨g, 0, none⟩) n1 n1) := k1.cell 0
  have e1 : Y.cell? ⟨(w.heap.size + 1), 1, none⟩ = some (.slice (some ⟨h, 0, none⟩) n2 n2) := k1.cell 1
  exact bodyPost_ret (v := .agg #[.slice (some ⟨g, 0, none⟩) n1 n1, .slice (some ⟨h, 0, none⟩) n2 n2]) (by simp [results, Tryz.results17, go_sem, e0, e1]) rfl ⟨g, qs, h, rfl, by omega, by omega, hqm, k2, k5, k3, hap, k6⟩
end Go.Proofs.YtcnadobnihbldaaGreat
/- Meshes in a law's walk: handed over, answered, marked, each by the blocks it lies in. (By hand.) -/
namespace Go.Proofs.YtcnadobnihbldaaGreat
open Go.RowKit Go.Sort

theorem PlIv.mono {w : World} {base base' : Nat} {a : Ip} {t : Iv} (k : PlIv w base a t) (hb : base' ≤ base) : PlIv w base' a t := by
  obtain ⟨g, h, e, b1, b2, a1, a2⟩ := k
  exact ⟨g, h, e, by omega, by omega, a1, a2⟩
theorem PlIv.own {w : World} {base : Nat} {a : Ip} {t : Iv} (k : PlIv w base a t) (hs : IvS t) : OwnIv w base a t := by
  obtain ⟨g, h, rfl, b1, b2, a1, a2⟩ := k
  have := hs.m
  exact ⟨owns_mono (ownsI_row rfl this.1 a1) b1, owns_mono (ownsR_row rfl this.2 a2) b2⟩
theorem PlIv.m {w : World} {base : Nat} {a : Ip} {t : Iv} (k : PlIv w base a t) (hs : IvS t) : IvM a t ∧ (a.x = none → a.c1 = 0) ∧ (a.y = none → a.c2 = 0) ∧ t.rs.length ≤ a.c2 := by
  obtain ⟨g, h, rfl, b1, b2, a1, a2⟩ := k
  have := hs.m
  exact ⟨⟨this.1, this.2, Nat.le_refl _⟩, fun e => (by cases e), fun e => (by cases e), Nat.le_refl _⟩
/-- A Mesh that was handed over: its blocks lie from lo on, below hi. -/
def HandM (ps : List IvP) (ls : List Li) (lo hi : Nat) (W : World) (g h : Nat) : Prop := ∃ qs : List IvP, qs.map (·.2) = ps.map (·.2) ∧ (lo ≤ g ∧ g < hi) ∧ (lo ≤ h ∧ h < hi) ∧ Row W g 61 (rowIv qs) ∧ Row W h 56 (rowLi ls) ∧ (∀ e ∈ qs, PlIv W lo e.1 e.2 ∧ ∀ b, e.1.x = some ⟨b, 0, none⟩ ∨ e.1.y = some ⟨b, 0, none⟩ → b < hi) ∧ ApQ qs
theorem HandM.keep {ps : List IvP} {ls : List Li} {lo hi : Nat} {W W' : World} {g h : Nat} (k : HandM ps ls lo hi W g h) (hk : ∀ b t l, lo ≤ b → b < hi → Row W b t l → Row W' b t l) : HandM ps ls lo hi W' g h := by
  obtain ⟨qs, k1, k2, k3, k4, k5, k6, k7⟩ := k
  refine ⟨qs, k1, k2, k3, hk _ _ _ k2.1 k2.2 k4, hk _ _ _ k3.1 k3.2 k5, fun e he => ?_, k7⟩
  obtain ⟨⟨g', h', e', b1, b2, a1, a2⟩, hl⟩ := k6 e he
  exact ⟨⟨g', h', e', b1, b2, hk _ _ _ b1 (hl g' (.inl (by rw [e']))) a1, hk _ _ _ b2 (hl h' (.inr (by rw [e']))) a2⟩, hl⟩
theorem HandM.below {ps : List IvP} {ls : List Li} {lo hi : Nat} {W W' : World} {g h : Nat} (k : HandM ps ls lo hi W g h) (hb : Below W.heap.size W W') : HandM ps ls lo hi W' g h := k.keep fun _ _ _ _ _ r => r.below hb r.lt
theorem HandM.chg {ps : List IvP} {ls : List Li} {lo hi a b : Nat} {W W' : World} {g h : Nat} (k : HandM ps ls lo hi W g h) (hc : Chg a b W W') (hd : hi ≤ a ∨ b ≤ lo) : HandM ps ls lo hi W' g h := k.keep fun _ _ _ h1 h2 r => hc.row r (by omega)
/-- The value is a Mesh that was handed over. -/
def HandedMV (ps : List IvP) (ls : List Li) (v : Value) (W : World) : Prop := ∃ g h lo hi, v = .agg #[.slice (some ⟨g, 0, none⟩) ps.length ps.length, .slice (some ⟨h, 0, none⟩) ls.length ls.length] ∧ HandM ps ls lo hi W g h
theorem stab_MV (ps : List IvP) (ls : List Li) : ∀ (v : Value) (w1 w2 : World), HandedMV ps ls v w1 → Below w1.heap.size w1 w2 → HandedMV ps ls v w2 := by
  rintro v w1 w2 ⟨g, h, lo, hi, e, k⟩ hb
  exact ⟨g, h, lo, hi, e, k.below hb⟩
/-- What the law's own look at the size left of a Mesh. -/
def SmA (ps : List IvP) (ls : List Li) : Prop := ps.length ≤ 1048576 ∧ ls.length ≤ 1048576 ∧ (∀ e ∈ ps, IvS e.2) ∧ kAt 1 (ps.map (·.2)) ps.length ≤ 100000000
theorem smA_of {ps : List IvP} {ls : List Li} {v L : Int} (hL : L ≤ 1048576) (h0 : 0 ≤ v) (h : v + (sumL ps : Int) + (ps.length : Int) + (ls.length : Int) ≤ L) : SmA ps ls := by
  refine ⟨by omega, by omega, fun e he => ?_, kAt_small (L := 1048576) (by omega) (Nat.le_refl _)⟩
  have := sumL_mem he
  exact ⟨by omega, by omega⟩
theorem toMeshH_any (p : Option Addr) (c1 : Nat) (q : Option Addr) (c2 : Nat) (ps : List IvP) (ls : List Li) (w : World) (h : ArgM w p ps q ls) (hn : SmA ps ls) :
    Calls Tryz.prog 17 #[.agg #[.slice p ps.length c1, .slice q ls.length c2]] w fun e w' => (∃ g h, e = .returned (.agg #[.slice (some ⟨g, 0, none⟩) ps.length ps.length, .slice (some ⟨h, 0, none⟩) ls.length ls.length]) ∧ HandM ps ls w.heap.size w'.heap.size w' g h) ∧ Below w.heap.size w w' := by
  refine (toMeshA_any p c1 q c2 ps ls w h ⟨hn.1, hn.2.1, hn.2.2.1⟩).mono ?_
  rintro e w' ⟨g, qs, h, rfl, h1, h2, h3, h4, h5, h6, h7, hb⟩
  refine ⟨⟨g, h, rfl, qs, h3, ⟨h1, h4.lt⟩, ⟨h2, h6.lt⟩, h4, h6, fun e he => ⟨(h5 e he).mono (by omega), fun b hbb => ?_⟩, h7⟩, hb⟩
  obtain ⟨g', h', e', -, -, a1, a2⟩ := h5 e he
  rw [e'] at hbb
  simp only [Option.some.injEq, Addr.mk.injEq, and_true] at hbb
  rcases hbb with rfl | rfl
  · exact a1.lt
  · exact a2.lt
theorem eqMeshH_any {ps : List IvP} {ls : List Li} {lo hi lo' hi' : Nat} {W : World} {g h g' h' : Nat} (hn : SmA ps ls) (a : HandM ps ls lo hi W g h) (b : HandM ps ls lo' hi' W g' h') :
    Calls Tryz.prog 19 #[.agg #[.slice (some ⟨g, 0, none⟩) ps.length ps.length, .slice (some ⟨h, 0, none⟩) ls.length ls.length], .agg #[.slice (some ⟨g', 0, none⟩) ps.length ps.length, .slice (some ⟨h', 0, none⟩) ls.length ls.length]] W fun e w' => e = .returned (.bool true) ∧ Below W.heap.size W w' := by
  obtain ⟨qs, k1, k2, k3, k4, k5, k6, k7⟩ := a
  obtain ⟨rs, l1, l2, l3, l4, l5, l6, l7⟩ := b
  have hl := len_sndI k1
  have := eqMesh_any (some ⟨g, 0, none⟩) ps.length (some ⟨h, 0, none⟩) ls.length (some ⟨g', 0, none⟩) ps.length (some ⟨h', 0, none⟩) ls.length qs rs ls W ⟨⟨ivsIn_row k4 fun e he => (k6 e he).1.inIv, (lisAt_row k5).lisIn⟩, ⟨ivsIn_row l4 fun e he => (l6 e he).1.inIv, (lisAt_row l5).lisIn⟩⟩ (k1.trans l1.symm) ⟨by rw [hl]; exact hn.1, hn.2.1, same_sndI (P := IvS) k1 hn.2.2.1⟩
  rw [hl] at this
  exact this
theorem markMeshH_any {ps : List IvP} {ls : List Li} {lo hi : Nat} {W : World} {g h : Nat} (hn : SmA ps ls) (a : HandM ps ls lo hi W g h) (hlo : lo ≤ W.heap.size) :
    Calls Tryz.prog 20 #[.agg #[.slice (some ⟨g, 0, none⟩) ps.length ps.length, .slice (some ⟨h, 0, none⟩) ls.length ls.length], .int .i64 1] W fun e w' => (∃ v : Int, e = .returned (.int .i64 v) ∧ 0 ≤ v) ∧ Chg lo hi W w' := by
  obtain ⟨qs, k1, k2, k3, k4, k5, k6, k7⟩ := a
  have hl := len_sndI k1
  have n1 := hn.1
  have n2 := hn.2.1
  have hS : ∀ e ∈ qs, IvS e.2 := same_sndI (P := IvS) k1 hn.2.2.1
  have ho : OwnMesh W lo (some ⟨g, 0, none⟩) ps.length ps.length (some ⟨h, 0, none⟩) ls.length ls.length qs ls := by
    refine ⟨owns_shut (rest := []) (by rw [rowIv_length]; omega) k2.1 (Nat.le_refl _) (by unfold maxLen; omega) (by rw [List.append_nil]; exact k4) (by rw [List.append_nil, rowIv_length]; omega), fun j hj => ?_, k7, owns_shut (rest := []) (by rw [rowLi_length]; omega) k3.1 (Nat.le_refl _) (by unfold maxLen; omega) (by rw [List.append_nil]; exact k5) (by rw [List.append_nil, rowLi_length]; omega)⟩
    exact (k6 _ (List.getElem_mem hj)).1.own (hS _ (List.getElem_mem hj))
  have := markMeshX_any 1 (some ⟨g, 0, none⟩) ps.length ps.length (some ⟨h, 0, none⟩) ls.length ls.length lo qs ls W hl.symm rfl (by omega) (by omega) (by rw [k1]; exact hn.2.2.2) ho hlo
  refine this.mono ?_
  rintro e w' ⟨rfl, -, hb, hk⟩
  refine ⟨⟨_, rfl, by omega⟩, hb, fun b t l hb2 hr => hk b t l ?_ ?_ (fun j hj => ⟨?_, ?_⟩) hr⟩
  · intro e; simp only [Option.some.injEq, Addr.mk.injEq, and_true] at e; omega
  · intro e; simp only [Option.some.injEq, Addr.mk.injEq, and_true] at e; omega
  · intro e; have := (k6 _ (List.getElem_mem hj)).2 b (.inl e); omega
  · intro e; have := (k6 _ (List.getElem_mem hj)).2 b (.inr e); omega
/-- The lists of an answer stay small. -/
def SmM (RL : List Iv) (RS : List Li) : Prop := RL.length ≤ 1048576 ∧ RS.length ≤ 1048576 ∧ (∀ e ∈ RL, IvS e) ∧ kAt 1 RL RL.length ≤ 100000000
/-- An answer's Mesh: its blocks lie from lo on, below hi. -/
def AnsM (RL : List Iv) (RS : List Li) (lo hi : Nat) (W : World) (p : Option Addr) (c : Nat) (q : Option Addr) (d : Nat) : Prop := ∃ qs : List IvP, qs.map (·.2) = RL ∧ OwnMesh W lo p RL.length c q RS.length d qs RS ∧ (∀ b, p = some ⟨b, 0, none⟩ → b < hi) ∧ (∀ b, q = some ⟨b, 0, none⟩ → b < hi) ∧ ∀ j (hj : j < qs.length) b, qs[j].1.x = some ⟨b, 0, none⟩ ∨ qs[j].1.y = some ⟨b, 0, none⟩ → b < hi
/-- The same, marked. -/
def MrkM (RL : List Iv) (RS : List Li) (lo hi : Nat) (W : World) (p : Option Addr) (c : Nat) (q : Option Addr) (d : Nat) : Prop := ∃ qs : List IvP, qs.map (·.2) = RL ∧ OwnMesh W lo p RL.length c q RS.length d (mixQ 1 qs RL.length) (marksL (kAt 1 RL RL.length) RS.length) ∧ (∀ b, p = some ⟨b, 0, none⟩ → b < hi) ∧ (∀ b, q = some ⟨b, 0, none⟩ → b < hi) ∧ ∀ j (hj : j < qs.length) b, qs[j].1.x = some ⟨b, 0, none⟩ ∨ qs[j].1.y = some ⟨b, 0, none⟩ → b < hi
theorem OwnMesh.keep {W W' : World} {lo hi n c m d : Nat} {p q : Option Addr} {qs : List IvP} {ls : List Li} (h : OwnMesh W lo p n c q m d qs ls) (hk : ∀ b t l, lo ≤ b → b < hi → Row W b t l → Row W' b t l) (h1 : ∀ b, p = some ⟨b, 0, none⟩ → b < hi) (h2 : ∀ b, q = some ⟨b, 0, none⟩ → b < hi) (h3 : ∀ j (hj : j < qs.length) b, qs[j].1.x = some ⟨b, 0, none⟩ ∨ qs[j].1.y = some ⟨b, 0, none⟩ → b < hi) : OwnMesh W' lo p n c q m d qs ls :=
  ⟨owns_kept h.1 fun b t l e r => hk b t l (owns_ge h.1 b e) (h1 b e) r, fun j hj => ⟨owns_kept (h.2.1 j hj).1 fun b t l e r => hk b t l (owns_ge (h.2.1 j hj).1 b e) (h3 j hj b (.inl e)) r, owns_kept (h.2.1 j hj).2 fun b t l e r => hk b t l (owns_ge (h.2.1 j hj).2 b e) (h3 j hj b (.inr e)) r⟩, h.2.2.1, owns_kept h.2.2.2 fun b t l e r => hk b t l (owns_ge h.2.2.2 b e) (h2 b e) r⟩
theorem AnsM.keep {RL : List Iv} {RS : List Li} {lo hi : Nat} {W W' : World} {p : Option Addr} {c : Nat} {q : Option Addr} {d : Nat} (h : AnsM RL RS lo hi W p c q d) (hk : ∀ b t l, lo ≤ b → b < hi → Row W b t l → Row W' b t l) : AnsM RL RS lo hi W' p c q d := by
  obtain ⟨qs, e, ho, h1, h2, h3⟩ := h
  exact ⟨qs, e, ho.keep hk h1 h2 h3, h1, h2, h3⟩
theorem mixQ_pl (K : Nat) (qs : List IvP) (k j : Nat) (hj : j < (mixQ K qs k).length) : (mixQ K qs k)[j].1 = (qs[j]'(by rw [mixQ_length] at hj; exact hj)).1 := by rw [mixQ_at K qs k j (by rw [mixQ_length] at hj; exact hj)]
theorem MrkM.keep {RL : List Iv} {RS : List Li} {lo hi : Nat} {W W' : World} {p : Option Addr} {c : Nat} {q : Option Addr} {d : Nat} (h : MrkM RL RS lo hi W p c q d) (hk : ∀ b t l, lo ≤ b → b < hi → Row W b t l → Row W' b t l) : MrkM RL RS lo hi W' p c q d := by
  obtain ⟨qs, e, ho, h1, h2, h3⟩ := h
  exact ⟨qs, e, ho.keep hk h1 h2 (fun j hj b hb => h3 j (by rw [mixQ_length] at hj; exact hj) b (by rw [mixQ_pl] at hb; exact hb)), h1, h2, h3⟩
theorem AnsM.below {RL : List Iv} {RS : List Li} {lo hi : Nat} {W W' : World} {p : Option Addr} {c : Nat} {q : Option Addr} {d : Nat} (h : AnsM RL RS lo hi W p c q d) (hb : Below W.heap.size W W') : AnsM RL RS lo hi W' p c q d := h.keep fun _ _ _ _ _ r => r.below hb r.lt
theorem AnsM.chg {RL : List Iv} {RS : List Li} {lo hi a b : Nat} {W W' : World} {p : Option Addr} {c : Nat} {q : Option Addr} {d : Nat} (h : AnsM RL RS lo hi W p c q d) (hc : Chg a b W W') (hd : hi ≤ a ∨ b ≤ lo) : AnsM RL RS lo hi W' p c q d := h.keep fun _ _ _ h1 h2 r => hc.row r (by omega)
theorem MrkM.below {RL : List Iv} {RS : List Li} {lo hi : Nat} {W W' : World} {p : Option Addr} {c : Nat} {q : Option Addr} {d : Nat} (h : MrkM RL RS lo hi W p c q d) (hb : Below W.heap.size W W') : MrkM RL RS lo hi W' p c q d := h.keep fun _ _ _ _ _ r => r.below hb r.lt
theorem ansM_of {RC : Int} {RL : List Iv} {RS : List Li} {e : Ending} {w w' : World} (h : OutM w.heap.size (RC, RL, RS) e w') : ∃ p c q d, e = .returned (.agg #[.slice p RL.length c, .slice q RS.length d, .int .i64 RC]) ∧ AnsM RL RS w.heap.size w'.heap.size w' p c q d := by
  obtain ⟨p, c, q, d, qs, e1, e2, ho⟩ := h
  refine ⟨p, c, q, d, e1, qs, e2, ho, owns_lt ho.1, owns_lt ho.2.2.2, fun j hj b hb => ?_⟩
  rcases hb with e | e
  · exact owns_lt (ho.2.1 j hj).1 b e
  · exact owns_lt (ho.2.1 j hj).2 b e
theorem OwnMesh.ins {W : World} {lo n c m d : Nat} {p q : Option Addr} {qs : List IvP} {ls : List Li} (h : OwnMesh W lo p n c q m d qs ls) (hn : n = qs.length) (hm : m = ls.length) : IvsIn W p qs ∧ LisIn W q ls := by
  refine ⟨?_, ownsLi_in hm h.2.2.2⟩
  have hin : ∀ x ∈ qs, InIv W x.1 x.2 := fun x hx => by
    obtain ⟨j, hj, rfl⟩ := List.mem_iff_getElem.1 hx
    exact ⟨ownsI_in rfl (h.2.1 j hj).1, ownsR_in rfl (h.2.1 j hj).2⟩
  refine ⟨?_, hin⟩
  rcases owns_opened h.1 with h0 | ⟨g, rest, e, -, -, -, hr, -⟩
  · exact .inl (List.length_eq_zero_iff.1 (by omega))
  · refine .inr ⟨g, e, hr.lt, fun j u hj => ?_⟩
    rw [hr.cell, List.getElem?_append_left (List.getElem?_eq_some_iff.1 hj).1]
    exact hj
theorem eqMeshOutA_any {RC : Int} {RL : List Iv} {RS : List Li} {lo hi lo' hi' : Nat} {W : World} {p : Option Addr} {c : Nat} {q : Option Addr} {d : Nat} {p' : Option Addr} {c' : Nat} {q' : Option Addr} {d' : Nat} (hn : SmM RL RS) (a : AnsM RL RS lo hi W p c q d) (b : AnsM RL RS lo' hi' W p' c' q' d') :
    Calls Tryz.prog 10 #[.agg #[.slice p RL.length c, .slice q RS.length d, .int .i64 RC], .agg #[.slice p' RL.length c', .slice q' RS.length d', .int .i64 RC]] W fun e w' => e = .returned (.bool true) ∧ Below W.heap.size W w' := by
  obtain ⟨qs, e, ho, -⟩ := a
  obtain ⟨rs, e', ho', -⟩ := b
  have hl : RL.length = qs.length := by rw [← e, List.length_map]
  have hl' : RL.length = rs.length := by rw [← e', List.length_map]
  have hS : ∀ x ∈ qs, IvS x.2 := fun x hx => hn.2.2.1 _ (by rw [← e]; exact List.mem_map_of_mem hx)
  have := eqMeshOut_any RC p c q d p' c' q' d' qs rs RS W ⟨ho.ins hl rfl, ho'.ins hl' rfl⟩ (e.trans e'.symm) ⟨by rw [← hl]; exact hn.1, hn.2.1, hS⟩
  rw [← hl] at this
  exact this
theorem markMeshOutA_any {RC : Int} {RL : List Iv} {RS : List Li} {lo hi : Nat} {W : World} {p : Option Addr} {c : Nat} {q : Option Addr} {d : Nat} (hn : SmM RL RS) (a : AnsM RL RS lo hi W p c q d) (hlo : lo ≤ W.heap.size) :
    Calls Tryz.prog 13 #[.agg #[.slice p RL.length c, .slice q RS.length d, .int .i64 RC], .int .i64 1] W fun e w' => e = .returned (.int .i64 (((kAt 1 RL RL.length : Nat) : Int) + 4 * (RS.length : Int))) ∧ MrkM RL RS lo hi w' p c q d ∧ Chg lo hi W w' := by
  obtain ⟨qs, e, ho, h1, h2, h3⟩ := a
  have hl : RL.length = qs.length := by rw [← e, List.length_map]
  have n1 := hn.1
  have n2 := hn.2.1
  have := markMeshOutX_any 1 p RL.length c q RS.length d RC lo qs RS W hl rfl (by omega) (by omega) (by rw [e]; exact hn.2.2.2) ho hlo
  rw [e] at this
  refine this.mono ?_
  rintro e2 w' ⟨rfl, om, hb, hk⟩
  refine ⟨rfl, ⟨qs, e, om, h1, h2, h3⟩, hb, fun b t l hb2 hr => hk b t l ?_ ?_ (fun j hj => ⟨?_, ?_⟩) hr⟩
  · intro e; have := h1 b e; omega
  · intro e; have := h2 b e; omega
  · intro e; have := h3 j hj b (.inl e); omega
  · intro e; have := h3 j hj b (.inr e); omega
theorem heldMeshOutA_any {RC : Int} {RL : List Iv} {RS : List Li} {lo hi : Nat} {W : World} {p : Option Addr} {c : Nat} {q : Option Addr} {d : Nat} (hn : SmM RL RS) (a : MrkM RL RS lo hi W p c q d) :
    Calls Tryz.prog 14 #[.agg #[.slice p RL.length c, .slice q RS.length d, .int .i64 RC], .int .i64 1] W fun e w' => e = .returned (.int .i64 (((kAt 1 RL RL.length : Nat) : Int) + 4 * (RS.length : Int))) ∧ Below W.heap.size W w' := by
  obtain ⟨qs, e, ho, h1, h2, h3⟩ := a
  have hl : RL.length = qs.length := by rw [← e, List.length_map]
  have n1 := hn.1
  have n2 := hn.2.1
  have hin := ho.ins (by rw [mixQ_length]; exact hl) (by rw [marksL_length])
  refine heldMeshOut_any 1 p RL.length c q RS.length d RC RL (mixQ 1 qs RL.length) W (by rw [mixQ_length]; exact hl) (by omega) (by omega) hn.2.2.2 hin.1 (fun j hj => ?_) hin.2
  rw [mixQ_length] at hj
  rw [mixQ_at 1 qs _ j hj, mixT_done _ _ (by omega), e]
end Go.Proofs.YtcnadobnihbldaaGreat
/- What a cut or a join answers stays small. (By hand.) -/
namespace Go.Proofs.YtcnadobnihbldaaGreat
open Go.RowKit Go.Sort

def Bnd (t : Iv) : Prop := t.is.length ≤ 100 ∧ t.rs.length ≤ 100
theorem bnd_get {ts : List Iv} (h : ∀ t ∈ ts, Bnd t) (k : Nat) : Bnd ts[k]! := by
  by_cases hk : k < ts.length
  · rw [getElem!_pos ts k hk]; exact h _ (List.getElem_mem hk)
  · rw [getElem!_neg ts k hk]
    exact ⟨Nat.zero_le _, Nat.zero_le _⟩
theorem smM_bnd {ts : List Iv} {ls : List Li} (h : ∀ t ∈ ts, Bnd t) (hn : ts.length ≤ 100) (hl : ls.length ≤ 100) : SmM ts ls := by
  refine ⟨by omega, by omega, fun e he => ?_, ?_⟩
  · have := h e he
    unfold Bnd at this
    exact ⟨by omega, by omega⟩
  · have : ∀ n, kAt 1 ts n ≤ 1 + n * 1401 := fun n => by
      induction n with
      | zero => simp [kAt]
      | succ n ih =>
        have := bnd_get h n
        unfold Bnd at this
        simp only [kAt, szT]
        omega
    have := this ts.length
    omega
theorem turnO_bnd {t : Iv} (h : Bnd t) (i : Int) (up : Bool) : Bnd ⟨(turnO t i up).2.1, (turnO t i up).2.2.1, (turnO t i up).2.2.2⟩ := by
  unfold Bnd at h ⊢
  unfold turnO
  split
  · unfold upO
    split
    · split
      · simp
      · split
        · unfold outW
          split
          · refine ⟨?_, ?_⟩
            · show (setU t.is i.toNat true).length ≤ _
              rw [setU_length]; exact h.1
            · exact Nat.le_trans (ownO_len _ _ _ _) (by omega)
          · simp
        · simp
    · simp
  · unfold downO
    split
    · split
      · simp
      · split
        · exact ⟨by rw [setU_length]; exact h.1, Nat.le_trans (List.length_filterMap_le _ _) h.2⟩
        · simp
    · simp
theorem turnT_bnd {t : Iv} (h : Bnd t) (i : Int) (up : Bool) : Bnd (turnT t i up) := by
  unfold turnT
  split
  · exact turnO_bnd h i up
  · exact h
theorem turn1_bnd {ts : List Iv} (h : ∀ t ∈ ts, Bnd t) (r : Nat) (i : Int) (up : Bool) : ∀ t ∈ turn1 ts r i up, Bnd t := fun t ht => by
  unfold turn1 at ht
  rcases List.mem_or_eq_of_mem_set ht with h1 | rfl
  · exact h t h1
  · exact turnT_bnd (bnd_get h r) i up
theorem mesh_bnd {ts : List Iv} {ls : List Li} (h : meshB ts ls = true) : ∀ t ∈ ts, Bnd t := fun t ht => by
  obtain ⟨k, hk, rfl⟩ := List.mem_iff_getElem.1 ht
  have := router_right h hk
  unfold ivB instB at this
  simp only [Bool.and_eq_true] at this
  have h1 := this.1
  have h2 := (ribB_spec this.2.1).1
  unfold ifsB at h1
  simp only [Bool.and_eq_true, decide_eq_true_eq] at h1
  exact ⟨by omega, by omega⟩
theorem smM_nil : SmM [] [] := smM_bnd (fun t ht => by simp at ht) (by simp) (by simp)
theorem smM_turn {ts : List Iv} {ls : List Li} {n : Int} {up : Bool} {RC : Int} {RL : List Iv} {RS : List Li} (HR : (RC, RL, RS) = turnMO ts ls n up) : SmM RL RS := by
  unfold turnMO at HR
  split at HR
  · rename_i hm
    have hf := mesh_few hm
    split at HR
    · split at HR
      · cases HR; exact smM_nil
      · cases HR
        refine smM_bnd (turn1_bnd (turn1_bnd (mesh_bnd hm) _ _ _) _ _ _) ?_ (by omega)
        unfold turn2 turn1
        rw [List.length_set, List.length_set]
        omega
    · cases HR; exact smM_nil
  · cases HR; exact smM_nil
end Go.Proofs.YtcnadobnihbldaaGreat
/- Laws for the model's turn of a mesh. (By hand.) -/
namespace Go.Proofs.YtcnadobnihbldaaGreat
open Go.RowKit Go.Sort

theorem ivs_end {w : World} {p : Option Addr} {ps : List IvP} (h : IvsIn w p ps) {r i : Nat} (hr : r < ps.length) (hi : i < ps[r].2.is.length) : ∃ gp gx nn cc, p = some ⟨gp, 0, none⟩ ∧ w.cell? ⟨gp, r * 3, none⟩ = some (.slice (some ⟨gx, 0, none⟩) nn cc) ∧ (i < nn ∧ decide ((i : Int) < ((nn : Nat) : Int)) = true) ∧ w.cell? ⟨gx, i * 5 + 4, none⟩ = some (.bool ps[r].2.is[i].u) := by
  obtain ⟨g, a, t, rfl, hg, hek, hI, y0, -, -⟩ := h.at r hr
  rw [show ps[r].2 = t by rw [hek]] at hi
  obtain ⟨gi, fd, fa, fl, fc, fu, ex, hgi, hfk, e0, e1, e2, e3, e4⟩ := hI.1.at i hi
  rw [ex] at y0
  refine ⟨g, gi, _, _, rfl, y0, ⟨hi, by simpa using hi⟩, ?_⟩
  have : ps[r].2.is[i]'(by rw [hek]; exact hi) = t.is[i] := by simp only [hek]
  rw [this, hfk]
  exact e4
theorem OwnMesh.at {w : World} {base : Nat} {p : Option Addr} {n c : Nat} {q : Option Addr} {m d : Nat} {qs : List IvP} {ls : List Li} (h : OwnMesh w base p n c q m d qs ls) (hn : n = qs.length) {r : Nat} (hr : r < qs.length) :
    ∃ g rest, p = some ⟨g, 0, none⟩ ∧ base ≤ g ∧ g < w.heap.size ∧ Row w g 61 (rowIv qs ++ rest) ∧ w.cell? ⟨g, r * 3, none⟩ = some (.slice qs[r].1.x qs[r].2.is.length qs[r].1.c1) ∧ w.cell? ⟨g, r * 3 + 1, none⟩ = some (.slice qs[r].1.y qs[r].2.rs.length qs[r].1.c2) ∧ w.cell? ⟨g, r * 3 + 2, none⟩ = some (.int .i64 qs[r].2.now) ∧ OwnIv w base qs[r].1 qs[r].2 := by
  obtain ⟨h1, h2, -, -⟩ := h
  rcases owns_opened h1 with h0 | ⟨g, rest, rfl, hb, hc1, hc2, hrw, hl⟩
  · omega
  have hc : ∀ k, k < 3 → (rowIv qs ++ rest)[r * 3 + k]? = (ivL qs[r].1 qs[r].2)[k]? := fun k hk => by
    rw [List.getElem?_append_left (by rw [rowIv_length]; omega)]
    exact rowIv_get qs r k hr hk
  have hcl : ∀ k v, (ivL qs[r].1 qs[r].2)[k]? = some v → k < 3 → w.cell? ⟨g, r * 3 + k, none⟩ = some v := fun k v e hk => by
    exact (hrw.cell _).trans ((hc k hk).trans e)
  exact ⟨g, rest, rfl, hb, hrw.lt, hrw, hcl 0 _ rfl (by omega), hcl 1 _ rfl (by omega), hcl 2 _ rfl (by omega), h2 r hr⟩
theorem OwnMesh.olds {w : World} {base : Nat} {p : Option Addr} {n c : Nat} {q : Option Addr} {m d : Nat} {qs : List IvP} {ls : List Li} (h : OwnMesh w base p n c q m d qs ls) : ∀ j (hj : j < qs.length) b, qs[j].1.x = some ⟨b, 0, none⟩ ∨ qs[j].1.y = some ⟨b, 0, none⟩ → b < w.heap.size := fun j hj b hb => by
  have o := h.2.1 j hj
  rcases hb with e | e
  · exact owns_lt o.1 b e
  · exact owns_lt o.2 b e
theorem OwnMesh.cells {w : World} {base g : Nat} {n c : Nat} {q : Option Addr} {m d : Nat} {qs : List IvP} {ls : List Li} (h : OwnMesh w base (some ⟨g, 0, none⟩) n c q m d qs ls) (hn : n = qs.length) {r : Nat} (hr : r < qs.length) {a : Ip} {t : Iv} (hq : qs[r] = (a, t)) :
    ∃ rest, base ≤ g ∧ g < w.heap.size ∧ Row w g 61 (rowIv qs ++ rest) ∧ w.cell? ⟨g, r * 3, none⟩ = some (.slice a.x t.is.length a.c1) ∧ w.cell? ⟨g, r * 3 + 1, none⟩ = some (.slice a.y t.rs.length a.c2) ∧ w.cell? ⟨g, r * 3 + 2, none⟩ = some (.int .i64 t.now) ∧ OwnIv w base a t := by
  obtain ⟨g', rest, e, h1, h2, h3, h4, h5, h6, h7⟩ := h.at hn hr
  cases e
  rw [hq] at h4 h5 h6 h7
  exact ⟨rest, h1, h2, h3, h4, h5, h6, h7⟩
theorem turn_hit {qs : List IvP} {r : Nat} (hr : r < qs.length) {a a' : Ip} {t : Iv} (hq : qs[r] = (a, t)) {i : Int} {up : Bool} {is : List If} {rs : List Rt} {nw : Int} (h : turnO t i up = (0, is, rs, nw)) : (qs.set r (a', ⟨is, rs, nw⟩)).map (·.2) = turn1 (qs.map (·.2)) r i up := by
  unfold turn1
  rw [set_snd, map_at hr, hq]
  unfold turnT
  rw [h]
  rfl
theorem turn_miss {qs : List IvP} {r : Nat} (hr : r < qs.length) {a : Ip} {t : Iv} (hq : qs[r] = (a, t)) {i : Int} {up : Bool} {c : Int} {is : List If} {rs : List Rt} {nw : Int} (h : turnO t i up = (c, is, rs, nw)) (hc : ¬ c = 0) : qs.map (·.2) = turn1 (qs.map (·.2)) r i up := by
  unfold turn1
  rw [map_at hr]
  unfold turnT
  rw [hq, h, if_neg hc, show t = (qs.map (·.2))[r]'(by simpa using hr) by rw [List.getElem_map, hq]]
  exact (List.set_getElem_self _).symm
theorem putIv_eq (w : World) (g r : Nat) (x : Option Addr) (c : Nat) (y : Option Addr) (d : Nat) (is : List If) (rs : List Rt) (nw : Int) : ((w.setCell ⟨g, r * 3, none⟩ (.slice x is.length c)).setCell ⟨g, r * 3 + 1, none⟩ (.slice y rs.length d)).setCell ⟨g, r * 3 + 2, none⟩ (.int .i64 nw) = putIv w g r ⟨x, c, y, d⟩ ⟨is, rs, nw⟩ := rfl
theorem putIv_below {base : Nat} {w W : World} (h : Below base w W) {g : Nat} (hg : base ≤ g) (r : Nat) (a : Ip) (T : Iv) : Below base w (putIv W g r a T) := ((h.setCell (p := ⟨g, r * 3, none⟩) hg _).setCell (p := ⟨g, r * 3 + 1, none⟩) hg _).setCell (p := ⟨g, r * 3 + 2, none⟩) hg _
theorem putIv_size (w : World) (g r : Nat) (a : Ip) (T : Iv) : (putIv w g r a T).heap.size = w.heap.size := by unfold putIv; simp
theorem owns_put {w : World} {base sz n cv g : Nat} {ty : TypeId} {p : Option Addr} {xs : List Value} (h : w.ownsRow base ty sz (.slice p n cv) n xs) {l : List Value} (hr : Row w g 61 l) (ht : 61 ≠ ty) (r : Nat) (a : Ip) (T : Iv) : (putIv w g r a T).ownsRow base ty sz (.slice p n cv) n xs :=
  owns_kept h (fun b t l e hrow => putIv_other hrow (fun e2 => by subst e2; exact owns_ne h hr ht e))
/-- A router is put into its place: the mesh behind it. -/
theorem step_hit {w : World} {base g : Nat} {n c : Nat} {q : Option Addr} {m d : Nat} {qs : List IvP} {ls : List Li} (h : OwnMesh w base (some ⟨g, 0, none⟩) n c q m d qs ls) (hn : n = qs.length) {r s : Nat} {a0 a : Ip} {t0 T : Iv} {z : IvP} (hq : ∃ h : r < qs.length, qs[r] = (a0, t0)) {N M : Nat} (ho : OwnIv w N a T) (hbN : base ≤ N) {i : Int} {up : Bool} (hT : turnO t0 i up = (0, T.is, T.rs, T.now))
    (hold : ∀ j (hj : j < qs.length) b, qs[j].1.x = some ⟨b, 0, none⟩ ∨ qs[j].1.y = some ⟨b, 0, none⟩ → b < N) (hrs : r ≠ s) (hz : ∃ h : s < qs.length, qs[s] = z) (hM : ∀ b, a.x = some ⟨b, 0, none⟩ ∨ a.y = some ⟨b, 0, none⟩ → b < M) (hNM : N ≤ M) :
    ∃ qs1, OwnMesh (putIv w g r a T) base (some ⟨g, 0, none⟩) n c q m d qs1 ls ∧ qs1.map (·.2) = turn1 (qs.map (·.2)) r i up ∧ n = qs1.length ∧ (∃ h : s < qs1.length, qs1[s] = z) ∧ ∀ j (hj : j < qs1.length) b, qs1[j].1.x = some ⟨b, 0, none⟩ ∨ qs1[j].1.y = some ⟨b, 0, none⟩ → b < M := by
  obtain ⟨hr, hq⟩ := hq
  obtain ⟨hs, hz⟩ := hz
  refine ⟨qs.set r (a, T), (h.store hn hr ⟨owns_mono ho.1 hbN, owns_mono ho.2 hbN⟩ hold (.inr fun b hb => ?_)).1, turn_hit hr hq hT, by rw [List.length_set]; exact hn, ⟨by rw [List.length_set]; exact hs, by rw [List.getElem_set_ne hrs]; exact hz⟩, ?_⟩
  · rcases hb with e | e
    · exact owns_ge ho.1 b e
    · exact owns_ge ho.2 b e
  · intro j hj b hb
    rw [List.length_set] at hj
    rw [List.getElem_set] at hb
    by_cases e : r = j
    · rw [if_pos e] at hb; exact hM b hb
    · rw [if_neg e] at hb; exact Nat.lt_of_lt_of_le (hold j hj b hb) hNM
theorem step_miss {w : World} {base g : Nat} {n c : Nat} {q : Option Addr} {m d : Nat} {qs : List IvP} {ls : List Li} (h : OwnMesh w base (some ⟨g, 0, none⟩) n c q m d qs ls) (hn : n = qs.length) {r s : Nat} {a0 : Ip} {t0 : Iv} {z : IvP} (hq : ∃ h : r < qs.length, qs[r] = (a0, t0)) {N M : Nat} {i : Int} {up : Bool} {cc : Int} {is : List If} {rs : List Rt} {nw : Int} (hT : turnO t0 i up = (cc, is, rs, nw)) (hc : ¬ cc = 0)
    (hold : ∀ j (hj : j < qs.length) b, qs[j].1.x = some ⟨b, 0, none⟩ ∨ qs[j].1.y = some ⟨b, 0, none⟩ → b < N) (hz : ∃ h : s < qs.length, qs[s] = z) (hNM : N ≤ M) :
    ∃ qs1, OwnMesh w base (some ⟨g, 0, none⟩) n c q m d qs1 ls ∧ qs1.map (·.2) = turn1 (qs.map (·.2)) r i up ∧ n = qs1.length ∧ (∃ h : s < qs1.length, qs1[s] = z) ∧ ∀ j (hj : j < qs1.length) b, qs1[j].1.x = some ⟨b, 0, none⟩ ∨ qs1[j].1.y = some ⟨b, 0, none⟩ → b < M := by
  obtain ⟨hr, hq⟩ := hq
  exact ⟨qs, h, turn_miss hr hq hT hc, hn, hz, fun j hj b hb => Nat.lt_of_lt_of_le (hold j hj b hb) hNM⟩
/-- What Down or Up answered, in memory. -/
def AnsI (B : Nat) (c : Int) (is : List If) (rs : List Rt) (nw : Int) (v : Value) (w : World) : Prop := ∃ p c1 q c2, v = .agg #[.slice p is.length c1, .slice q rs.length c2, .int .i64 nw, .int .i64 c] ∧ w.ownsRow B 53 5 (.slice p is.length c1) is.length (rowI is) ∧ w.ownsRow B 155 9 (.slice q rs.length c2) rs.length (rowR rs)
theorem stab_ansI (B : Nat) (c : Int) (is : List If) (rs : List Rt) (nw : Int) : ∀ (x : Value) (w1 w2 : World), AnsI B c is rs nw x w1 → Below w1.heap.size w1 w2 → AnsI B c is rs nw x w2 := by
  rintro x w1 w2 ⟨p, c1, q, c2, e, h1, h2⟩ hb
  exact ⟨p, c1, q, c2, e, owns_below h1 hb, owns_below h2 hb⟩
theorem own_down {B : Nat} {a : Ip} {t : Iv} {W : World} (i : Int) (h : OwnIv W B a t) (h1 : t.is.length ≤ 100000000) (h2 : t.rs.length ≤ 100000000) :
    Calls Tryz.prog 86 #[.agg #[.slice a.x t.is.length a.c1, .slice a.y t.rs.length a.c2, .int .i64 t.now], .int .i64 i] W fun e w' => (∃ v, e = .returned v ∧ AnsI W.heap.size (turnO t i false).1 (turnO t i false).2.1 (turnO t i false).2.2.1 (turnO t i false).2.2.2 v w') ∧ Below W.heap.size W w' :=
  Calls.mono (specDown_any a.x a.c1 a.y a.c2 t.is t.rs t.now i W (ownsI_in rfl h.1) (owns_room h.1).1 (owns_room h.1).2 (ownsR_in rfl h.2) (owns_room h.2).2 (owns_room h.2).1 h1 h2) (by
    rintro e w' ⟨⟨p, c, q, d, rfl, o1, o2⟩, hb⟩
    exact ⟨⟨_, rfl, p, c, q, d, rfl, o1, o2⟩, hb⟩)
theorem own_up {B : Nat} {a : Ip} {t : Iv} {W : World} (i : Int) (h : OwnIv W B a t) (h1 : t.is.length ≤ 100000000) (h2 : t.rs.length ≤ 100000000) :
    Calls Tryz.prog 87 #[.agg #[.slice a.x t.is.length a.c1, .slice a.y t.rs.length a.c2, .int .i64 t.now], .int .i64 i] W fun e w' => (∃ v, e = .returned v ∧ AnsI W.heap.size (turnO t i true).1 (turnO t i true).2.1 (turnO t i true).2.2.1 (turnO t i true).2.2.2 v w') ∧ Below W.heap.size W w' :=
  Calls.mono (specUp_any a.x a.c1 a.y a.c2 t.is t.rs t.now i W (ownsI_in rfl h.1) (owns_room h.1).1 (owns_room h.1).2 (ownsR_in rfl h.2) (owns_room h.2).2 (owns_room h.2).1 h1 h2) (by
    rintro e w' ⟨⟨p, c, q, d, rfl, o1, o2⟩, hb⟩
    exact ⟨⟨_, rfl, p, c, q, d, rfl, o1, o2⟩, hb⟩)
end Go.Proofs.YtcnadobnihbldaaGreat
