/- Texts that stand on each other, in one file: RipReadS, SignS, RipOpenS, LaidKeys, Five, EqNet, EqEnts, MarkE. -/
import Derived.Test.YtkkhjeigndcmaaaDoorPack3
import Derived.Test.YtkkhjeigndcmaaaDoorTail
import Derived.Test.YtkkhjeigndcmaaaDoorPack2
import Derived.Test.YtkkhjeigndcmaaaDoorMacS
import Derived.Test.YtkkhjeigndcmaaaDoorWithBlock
import Derived.Lib.LaidTab
import Derived.Test.YtkkhjeigndcmaaaDoorPack1
/- RipRead of the model. (Written by gen_ripreads.py.) -/
namespace Go.Proofs.YtkkhjeigndcmaaaDoor
open Go.RowKit Go.Sort

theorem cut20 (t : ByteArray) (k : Nat) : readE (t.extract (4 + 20 * k) (24 + 20 * k)).data.toList = readE ((t.data.toList.drop 4).drop (20 * k)) := by
  rw [extract_list, ← readE_cut ((t.data.toList.drop 4).drop (20 * k))]
  congr 1
  simp only [cutL, List.drop_zero, List.drop_drop]
  rw [List.drop_take, show 24 + 20 * k - (4 + 20 * k) = 20 by omega]
theorem cut_ext (t : ByteArray) (a b : Nat) : (t.extract a b).data.toList = cutL t.data.toList a b := extract_list t a b
/-- The state of the model's loop. -/
def SpSt (t : ByteArray) (w : World) (k : Nat) (p : Option Addr) (cv : Nat) (C : Int) (W : World) : Prop :=
  Row W w.heap.size 26 [.int .i64 0, .slice none 0 0, .int .i64 0, .int .i64 0] ∧ Row W (w.heap.size + 1) 24 [.int .i64 C, .slice p k cv] ∧ OwnE W (w.heap.size + 2) (.slice p k cv) (readEs (t.data.toList.drop 4) k) ∧ Below w.heap.size w W
theorem SpSt.below {t : ByteArray} {w : World} {k : Nat} {p : Option Addr} {cv : Nat} {C : Int} {W W' : World} (h : SpSt t w k p cv C W) (hb : Below W.heap.size W W') : SpSt t w k p cv C W' :=
  ⟨h.1.below hb h.1.lt, h.2.1.below hb h.2.1.lt, h.2.2.1.below hb, h.2.2.2.trans (hb.mono h.2.2.2.size)⟩
theorem spSt_next {t : ByteArray} {w : World} {k : Nat} {p : Option Addr} {cv : Nat} {C : Int} {W W' : World} {p4 : Option Addr} {cv4 : Nat} (h : SpSt t w k p cv C W) (hb : Below (w.heap.size + 2) W W') (how : OwnE W' (w.heap.size + 2) (.slice p4 (k + 1) cv4) (readEs (t.data.toList.drop 4) (k + 1))) :
    SpSt t w (k + 1) p4 cv4 C (W'.setCell ⟨w.heap.size + 1, 1, none⟩ (.slice p4 (k + 1) cv4)) := by
  obtain ⟨h1, h2, _, h4⟩ := h
  refine ⟨(h1.below hb (by omega)).other 1 _ (by omega), (h2.below hb (by omega)).set 1 _, how.set _ (by show w.heap.size + 1 < w.heap.size + 2; omega) _, (h4.trans (hb.mono (by omega))).setCell (p := ⟨w.heap.size + 1, 1, none⟩) (by show w.heap.size ≤ w.heap.size + 1; omega) _⟩
set_option maxRecDepth 100000 in
set_option maxHeartbeats 4000000 in
theorem specRipRead_in (t : ByteArray) (w : World) (h4 : 4 ≤ t.size) (h8 : t.size ≤ 8000) :
    Calls Tryd.prog 12 #[.string t] w fun e w' => RdOut (rdR t) 0 w w' e := by
  have d8 : decide (8000 < (t.size : Int)) = false := by simp; omega
  have d4 : decide ((t.size : Int) < 4) = false := by simp; omega
  have HG : Hid (∀ (s : ByteArray) w, s.size ≤ 4 → Calls Tryd.prog 13 #[.string s] w fun e w' => e = .returned (.int .i64 (numL s.data.toList : Nat)) ∧ w = w') := fun s w h => specGet_any s w h
  have HL : Hid (∀ (m : Int) w, Calls Tryd.prog 23 #[.int .i64 m] w fun e w' => e = .returned (.int .i64 (lenM m)) ∧ w = w') := specLen_any
  have hlt : 0 < t.size := by omega
  have hC : ((t[0]'hlt).toNat : Int) = (numL (cutL t.data.toList 0 1) : Nat) := by
    have e : cutL t.data.toList 0 1 = [t[0]'hlt] := by
      unfold cutL
      rw [List.drop_zero, List.take_one, List.head?_eq_getElem?, List.getElem?_eq_getElem (by simpa using hlt)]
      rfl
    rw [e]; simp [numL]
  have HC : Hid _ := hC
  clear hC
  go_enter Tryd.func12, Tryd.ntmps12
  go_wp2_with fail
  rw [HC.out]
  have hC0 : (0 : Int) ≤ (numL (cutL t.data.toList 0 1) : Nat) ∧ ((numL (cutL t.data.toList 0 1) : Nat) : Int) ≤ 255 := by rw [← HC.out]; have := (t[0]'hlt).toNat_lt; omega
  have HPl : Hid (∀ k, k = nE t.data.toList → rdR t = if ripO (numL (cutL t.data.toList 0 1) : Nat) (readEs (t.data.toList.drop 4) k) = t then (((numL (cutL t.data.toList 0 1) : Nat) : Int), readEs (t.data.toList.drop 4) k, 0) else (0, [], 3)) := fun k hk => by
    subst hk
    unfold rdR plainR
    rw [if_neg (by omega), if_neg (by omega)]
    split
    · rename_i h
      split at h
      · rename_i he
        simp only [Option.some.injEq, Prod.mk.injEq] at h
        rw [if_pos he, h.1, h.2]
      · cases h
    · rename_i h
      split at h
      · cases h
      · rename_i he
        rw [if_neg he]
  have hw64 := wrap64_in ((numL (cutL t.data.toList 0 1) : Nat) : Int) (by omega) (by omega)
  rw [hw64]
  clear HC hw64
  generalize ((numL (cutL t.data.toList 0 1) : Nat) : Int) = C at *
  have hS0 : SpSt t w 0 none 0 C ((w.alloc (.cells #[.int .i64 0, .slice none 0 0, .int .i64 0, .int .i64 0] 26)).alloc (.cells #[.int .i64 C, .slice none 0 0] 24)) := by
    have q1 := Row.new (w.alloc (.cells #[.int .i64 0, .slice none 0 0, .int .i64 0, .int .i64 0] 26)) 24 [.int .i64 C, .slice none 0 0]
    rw [show (w.alloc (.cells #[.int .i64 0, .slice none 0 0, .int .i64 0, .int .i64 0] 26)).heap.size = w.heap.size + 1 by simp] at q1
    exact ⟨(Row.new w _ _).alloc _, q1, OwnE.nil _ _, (ent_new0 w _).alloc (by simp) _⟩
  go_loopw [4] (fun i wr => ∃ (k : Nat) (p : Option Addr) (cv : Nat), k ≤ 9 ∧ 4 + 20 * k ≤ t.size ∧ i = .int .i64 (4 + 20 * (k : Int)) ∧ SpSt t w k p cv C wr) (fun i _ => 8000 - (intOf i).toNat)
  case atStart => exact ⟨0, none, 0, by omega, by omega, by go_num, hS0⟩
  case round =>
    obtain ⟨k, p, cv, hk9, hk, rfl, hST⟩ := hrel
    clear hS0
    have HST : Hid (SpSt t w k p cv C wr) := hST
    have hs2 : w.heap.size + 1 < wr.heap.size := hST.2.1.lt
    clear hST
    by_cases h1 : 24 + 20 * k ≤ t.size
    · have d1 : decide (4 + 20 * (k : Int) + 20 ≤ (t.size : Int)) = true := by simp; omega
      by_cases h2 : k < 9
      · have d2 : decide (4 + 20 * (k : Int) < 184) = true := by simp; omega
        have hsl := slice_to t (4 + 20 * k) (24 + 20 * k) (4 + 20 * (k : Int)) (4 + 20 * (k : Int) + 20) (by omega) (by omega) (by omega) h1
        have HSL : Hid _ := hsl
        have HT : Hid (∃ T, T = t.extract (4 + 20 * k) (24 + 20 * k)) := ⟨_, rfl⟩
        obtain ⟨T, hT⟩ := HT.out
        rw [← hT] at HSL
        have hTs : T.size = 20 := by rw [hT, ByteArray.size_extract]; omega
        have HRE : Hid (readE T.data.toList = readE ((t.data.toList.drop 4).drop (20 * k))) := by rw [hT]; exact cut20 t k
        clear hsl HT hT
        have HSa : Hid (∀ w, (Instr.slice 9 (.string T) (some (.int .i64 4)) (some (.int .i64 8)) none).run Tryd.prog w = .ok (.string (T.extract 4 8)) w) := fun w => slice_to T 4 8 4 8 rfl rfl (by omega) (by omega) w
        have HSb : Hid (∀ w, (Instr.slice 9 (.string T) (some (.int .i64 8)) (some (.int .i64 12)) none).run Tryd.prog w = .ok (.string (T.extract 8 12)) w) := fun w => slice_to T 8 12 8 12 rfl rfl (by omega) (by omega) w
        have HSc : Hid (∀ w, (Instr.slice 9 (.string T) (some (.int .i64 12)) (some (.int .i64 16)) none).run Tryd.prog w = .ok (.string (T.extract 12 16)) w) := fun w => slice_to T 12 16 12 16 rfl rfl (by omega) (by omega) w
        have HSd : Hid (∀ w, (Instr.slice 9 (.string T) (some (.int .i64 16)) none none).run Tryd.prog w = .ok (.string (T.extract 16 20)) w) := fun w => by have := slice_on T 16 16 rfl (by omega) w; rw [hTs] at this; exact this
        have HSe : Hid (∀ w, (Instr.slice 9 (.string T) (some (.int .i64 2)) (some (.int .i64 4)) none).run Tryd.prog w = .ok (.string (T.extract 2 4)) w) := fun w => slice_to T 2 4 2 4 rfl rfl (by omega) (by omega) w
        have HGa : Hid (∀ w, Calls Tryd.prog 13 #[.string (T.extract 4 8)] w fun e w' => e = .returned (.int .i64 (numL (cutL T.data.toList 4 8) : Nat)) ∧ w = w') := fun w => by have := HG.out (T.extract 4 8) w (by rw [ByteArray.size_extract]; omega); rwa [cut_ext] at this
        have HGb : Hid (∀ w, Calls Tryd.prog 13 #[.string (T.extract 8 12)] w fun e w' => e = .returned (.int .i64 (numL (cutL T.data.toList 8 12) : Nat)) ∧ w = w') := fun w => by have := HG.out (T.extract 8 12) w (by rw [ByteArray.size_extract]; omega); rwa [cut_ext] at this
        have HGc : Hid (∀ w, Calls Tryd.prog 13 #[.string (T.extract 12 16)] w fun e w' => e = .returned (.int .i64 (numL (cutL T.data.toList 12 16) : Nat)) ∧ w = w') := fun w => by have := HG.out (T.extract 12 16) w (by rw [ByteArray.size_extract]; omega); rwa [cut_ext] at this
        have HGd : Hid (∀ w, Calls Tryd.prog 13 #[.string (T.extract 16 20)] w fun e w' => e = .returned (.int .i64 (numL (cutL T.data.toList 16 20) : Nat)) ∧ w = w') := fun w => by have := HG.out (T.extract 16 20) w (by rw [ByteArray.size_extract]; omega); rwa [cut_ext] at this
        have HGe : Hid (∀ w, Calls Tryd.prog 13 #[.string (T.extract 2 4)] w fun e w' => e = .returned (.int .i64 (numL (cutL T.data.toList 2 4) : Nat)) ∧ w = w') := fun w => by have := HG.out (T.extract 2 4) w (by rw [ByteArray.size_extract]; omega); rwa [cut_ext] at this
        have HLn : Hid (∀ w, Calls Tryd.prog 23 #[.int .i64 (numL (cutL T.data.toList 8 12) : Nat)] w fun e w' => e = .returned (.int .i64 (lenM (numL (cutL T.data.toList 8 12) : Nat))) ∧ w = w') := fun w => HL.out _ w
        have HNX : Hid (readEs (t.data.toList.drop 4) (k + 1) = readEs (t.data.toList.drop 4) k ++ [⟨((numL (cutL T.data.toList 4 8) : Nat) : Int), lenM (numL (cutL T.data.toList 8 12) : Nat), ((numL (cutL T.data.toList 12 16) : Nat) : Int), ((numL (cutL T.data.toList 16 20) : Nat) : Int), ((numL (cutL T.data.toList 2 4) : Nat) : Int)⟩]) := by
          show readEs _ k ++ [readE ((t.data.toList.drop 4).drop (20 * k))] = _
          rw [← HRE.out]
          rfl
        have hkk : (readEs (t.data.toList.drop 4) k).length ≤ 1000000 := by rw [readEs_length]; omega
        generalize T.extract 4 8 = Ta at *
        generalize T.extract 8 12 = Tb at *
        generalize T.extract 12 16 = Tc at *
        generalize T.extract 16 20 = Td at *
        generalize T.extract 2 4 = Te at *
        generalize lenM (numL (cutL T.data.toList 8 12) : Nat) = LV at *
        generalize ((numL (cutL T.data.toList 4 8) : Nat) : Int) = V1 at *
        generalize ((numL (cutL T.data.toList 8 12) : Nat) : Int) = V2 at *
        generalize ((numL (cutL T.data.toList 12 16) : Nat) : Int) = V3 at *
        generalize ((numL (cutL T.data.toList 16 20) : Nat) : Int) = V4 at *
        generalize ((numL (cutL T.data.toList 2 4) : Nat) : Int) = V5 at *
        have hs := HSL.out
        clear HG HL HRE HPl hTs
        go_wp2_with fail
        clear hs
        have HR : Hid (Row wr (w.heap.size + 1) 24 [.int .i64 C, .slice p k cv]) := HST.out.2.1
        have hGN : (([(34, Is (.pointer (some ⟨w.heap.size + 1, 1, none⟩))), (35, Is (.slice p k cv)), (36, Is (.string T)), (37, Is (.string Ta)), (38, Is (.int .i64 V1)), (39, Is (.string T)), (40, Is (.string Tb)), (41, Is (.int .i64 V2)), (42, Is (.int .i64 LV)), (43, Is (.agg #[.int .i64 V1, .int .i64 LV])), (44, Is (.string T)), (45, Is (.string Tc)), (46, Is (.int .i64 V3)), (47, Is (.string T)), (48, Is (.string Td)), (49, Is (.int .i64 V4)), (50, Is (.string T)), (51, Is (.string Te)), (52, Is (.int .i64 V5)), (53, Is (.agg #[.int .i64 V1, .int .i64 LV, .int .i64 V3, .int .i64 V4, .int .i64 V5])), (54, fun x W' => ∃ gx, x = .slice (some ⟨gx, 0, none⟩) 1 1 ∧ Row W' gx 51 (entL ⟨V1, LV, V3, V4, V5⟩))] : List (Nat × (Value → World → Prop))).map (·.1)).Nodup := by simp
        refine wp_region_steady 21 (SlotG [(34, Is (.pointer (some ⟨w.heap.size + 1, 1, none⟩))), (35, Is (.slice p k cv)), (36, Is (.string T)), (37, Is (.string Ta)), (38, Is (.int .i64 V1)), (39, Is (.string T)), (40, Is (.string Tb)), (41, Is (.int .i64 V2)), (42, Is (.int .i64 LV)), (43, Is (.agg #[.int .i64 V1, .int .i64 LV])), (44, Is (.string T)), (45, Is (.string Tc)), (46, Is (.int .i64 V3)), (47, Is (.string T)), (48, Is (.string Td)), (49, Is (.int .i64 V4)), (50, Is (.string T)), (51, Is (.string Te)), (52, Is (.int .i64 V5)), (53, Is (.agg #[.int .i64 V1, .int .i64 LV, .int .i64 V3, .int .i64 V4, .int .i64 V5])), (54, fun x W' => ∃ gx, x = .slice (some ⟨gx, 0, none⟩) 1 1 ∧ Row W' gx 51 (entL ⟨V1, LV, V3, V4, V5⟩))]) (by kernel_rfl) (by kernel_rfl) (Stabs.all ⟨stab_is _, stab_is _, stab_is _, stab_is _, stab_is _, stab_is _, stab_is _, stab_is _, stab_is _, stab_is _, stab_is _, stab_is _, stab_is _, stab_is _, stab_is _, stab_is _, stab_is _, stab_is _, stab_is _, stab_is _, stab_ent _ _, trivial⟩) ?_ ?_
        · intro o ho
          simp only [List.take_succ_cons, List.take_zero, List.mem_cons, List.not_mem_nil, or_false] at ho
          rcases ho with rfl | rfl | rfl | rfl | rfl | rfl | rfl | rfl | rfl | rfl | rfl | rfl | rfl | rfl | rfl | rfl | rfl | rfl | rfl | rfl | rfl
          · intro a' w' hb ha hdep
            have d3 : a'.tmps.getD 3 undef = .pointer (some ⟨w.heap.size + 1, 0, none⟩) := ha.at 3 (by kernel_rfl)
            have hmk := fun (x : Value) (W : World) => SlotG.mk (x := x) (w := W) 0 rfl hGN
            clear hGN ha hdep
            go_simp
            exact ⟨_, rfl, Below.refl _ _, hmk _ _ rfl⟩
          · intro a' w' hb ha hdep
            have d34 : a'.tmps.getD 34 undef = .pointer (some ⟨w.heap.size + 1, 1, none⟩) := (hdep 34 (of_decide_eq_true (by kernel_rfl))).is 0 rfl
            have hmk := fun (x : Value) (W : World) => SlotG.mk (x := x) (w := W) 1 rfl hGN
            clear hGN ha hdep
            have c1 : w'.cell? ⟨w.heap.size + 1, 1, none⟩ = some (.slice p k cv) := (HR.out.below hb HR.out.lt).cell 1
            go_simp
            exact ⟨_, rfl, Below.refl _ _, hmk _ _ rfl⟩
          · intro a' w' hb ha hdep
            have d5 : a'.tmps.getD 5 undef = .string T := ha.at 5 (by kernel_rfl)
            have hmk := fun (x : Value) (W : World) => SlotG.mk (x := x) (w := W) 2 rfl hGN
            clear hGN ha hdep
            go_simp
            exact ⟨_, rfl, Below.refl _ _, hmk _ _ rfl⟩
          · intro a' w' hb ha hdep
            have d36 : a'.tmps.getD 36 undef = .string T := (hdep 36 (of_decide_eq_true (by kernel_rfl))).is 2 rfl
            have hmk := fun (x : Value) (W : World) => SlotG.mk (x := x) (w := W) 3 rfl hGN
            clear hGN ha hdep
            have hs := HSa.out w'
            go_simp
            exact ⟨_, rfl, Below.refl _ _, hmk _ _ rfl⟩
          · intro a' w' hb ha hdep
            have d37 : a'.tmps.getD 37 undef = .string Ta := (hdep 37 (of_decide_eq_true (by kernel_rfl))).is 3 rfl
            have hmk := fun (x : Value) (W : World) => SlotG.mk (x := x) (w := W) 4 rfl hGN
            clear hGN ha hdep
            go_simp
            refine (HGa.out _).mono ?_
            rintro e w2 ⟨rfl, rfl⟩
            exact ⟨_, rfl, Below.refl _ _, hmk _ _ rfl⟩
          · intro a' w' hb ha hdep
            have d5 : a'.tmps.getD 5 undef = .string T := ha.at 5 (by kernel_rfl)
            have hmk := fun (x : Value) (W : World) => SlotG.mk (x := x) (w := W) 5 rfl hGN
            clear hGN ha hdep
            go_simp
            exact ⟨_, rfl, Below.refl _ _, hmk _ _ rfl⟩
          · intro a' w' hb ha hdep
            have d39 : a'.tmps.getD 39 undef = .string T := (hdep 39 (of_decide_eq_true (by kernel_rfl))).is 5 rfl
            have hmk := fun (x : Value) (W : World) => SlotG.mk (x := x) (w := W) 6 rfl hGN
            clear hGN ha hdep
            have hs := HSb.out w'
            go_simp
            exact ⟨_, rfl, Below.refl _ _, hmk _ _ rfl⟩
          · intro a' w' hb ha hdep
            have d40 : a'.tmps.getD 40 undef = .string Tb := (hdep 40 (of_decide_eq_true (by kernel_rfl))).is 6 rfl
            have hmk := fun (x : Value) (W : World) => SlotG.mk (x := x) (w := W) 7 rfl hGN
            clear hGN ha hdep
            go_simp
            refine (HGb.out _).mono ?_
            rintro e w2 ⟨rfl, rfl⟩
            exact ⟨_, rfl, Below.refl _ _, hmk _ _ rfl⟩
          · intro a' w' hb ha hdep
            have d41 : a'.tmps.getD 41 undef = .int .i64 V2 := (hdep 41 (of_decide_eq_true (by kernel_rfl))).is 7 rfl
            have hmk := fun (x : Value) (W : World) => SlotG.mk (x := x) (w := W) 8 rfl hGN
            clear hGN ha hdep
            go_simp
            refine (HLn.out _).mono ?_
            rintro e w2 ⟨rfl, rfl⟩
            exact ⟨_, rfl, Below.refl _ _, hmk _ _ rfl⟩
          · intro a' w' hb ha hdep
            have d38 : a'.tmps.getD 38 undef = .int .i64 V1 := (hdep 38 (of_decide_eq_true (by kernel_rfl))).is 4 rfl
            have d42 : a'.tmps.getD 42 undef = .int .i64 LV := (hdep 42 (of_decide_eq_true (by kernel_rfl))).is 8 rfl
            have hmk := fun (x : Value) (W : World) => SlotG.mk (x := x) (w := W) 9 rfl hGN
            clear hGN ha hdep
            rw [Array.getD_eq_getD_getElem?] at d38 d42
            go_simp
            exact ⟨_, rfl, Below.refl _ _, hmk _ _ rfl⟩
          · intro a' w' hb ha hdep
            have d5 : a'.tmps.getD 5 undef = .string T := ha.at 5 (by kernel_rfl)
            have hmk := fun (x : Value) (W : World) => SlotG.mk (x := x) (w := W) 10 rfl hGN
            clear hGN ha hdep
            go_simp
            exact ⟨_, rfl, Below.refl _ _, hmk _ _ rfl⟩
          · intro a' w' hb ha hdep
            have d44 : a'.tmps.getD 44 undef = .string T := (hdep 44 (of_decide_eq_true (by kernel_rfl))).is 10 rfl
            have hmk := fun (x : Value) (W : World) => SlotG.mk (x := x) (w := W) 11 rfl hGN
            clear hGN ha hdep
            have hs := HSc.out w'
            go_simp
            exact ⟨_, rfl, Below.refl _ _, hmk _ _ rfl⟩
          · intro a' w' hb ha hdep
            have d45 : a'.tmps.getD 45 undef = .string Tc := (hdep 45 (of_decide_eq_true (by kernel_rfl))).is 11 rfl
            have hmk := fun (x : Value) (W : World) => SlotG.mk (x := x) (w := W) 12 rfl hGN
            clear hGN ha hdep
            go_simp
            refine (HGc.out _).mono ?_
            rintro e w2 ⟨rfl, rfl⟩
            exact ⟨_, rfl, Below.refl _ _, hmk _ _ rfl⟩
          · intro a' w' hb ha hdep
            have d5 : a'.tmps.getD 5 undef = .string T := ha.at 5 (by kernel_rfl)
            have hmk := fun (x : Value) (W : World) => SlotG.mk (x := x) (w := W) 13 rfl hGN
            clear hGN ha hdep
            go_simp
            exact ⟨_, rfl, Below.refl _ _, hmk _ _ rfl⟩
          · intro a' w' hb ha hdep
            have d47 : a'.tmps.getD 47 undef = .string T := (hdep 47 (of_decide_eq_true (by kernel_rfl))).is 13 rfl
            have hmk := fun (x : Value) (W : World) => SlotG.mk (x := x) (w := W) 14 rfl hGN
            clear hGN ha hdep
            have hs := HSd.out w'
            go_simp
            exact ⟨_, rfl, Below.refl _ _, hmk _ _ rfl⟩
          · intro a' w' hb ha hdep
            have d48 : a'.tmps.getD 48 undef = .string Td := (hdep 48 (of_decide_eq_true (by kernel_rfl))).is 14 rfl
            have hmk := fun (x : Value) (W : World) => SlotG.mk (x := x) (w := W) 15 rfl hGN
            clear hGN ha hdep
            go_simp
            refine (HGd.out _).mono ?_
            rintro e w2 ⟨rfl, rfl⟩
            exact ⟨_, rfl, Below.refl _ _, hmk _ _ rfl⟩
          · intro a' w' hb ha hdep
            have d5 : a'.tmps.getD 5 undef = .string T := ha.at 5 (by kernel_rfl)
            have hmk := fun (x : Value) (W : World) => SlotG.mk (x := x) (w := W) 16 rfl hGN
            clear hGN ha hdep
            go_simp
            exact ⟨_, rfl, Below.refl _ _, hmk _ _ rfl⟩
          · intro a' w' hb ha hdep
            have d50 : a'.tmps.getD 50 undef = .string T := (hdep 50 (of_decide_eq_true (by kernel_rfl))).is 16 rfl
            have hmk := fun (x : Value) (W : World) => SlotG.mk (x := x) (w := W) 17 rfl hGN
            clear hGN ha hdep
            have hs := HSe.out w'
            go_simp
            exact ⟨_, rfl, Below.refl _ _, hmk _ _ rfl⟩
          · intro a' w' hb ha hdep
            have d51 : a'.tmps.getD 51 undef = .string Te := (hdep 51 (of_decide_eq_true (by kernel_rfl))).is 17 rfl
            have hmk := fun (x : Value) (W : World) => SlotG.mk (x := x) (w := W) 18 rfl hGN
            clear hGN ha hdep
            go_simp
            refine (HGe.out _).mono ?_
            rintro e w2 ⟨rfl, rfl⟩
            exact ⟨_, rfl, Below.refl _ _, hmk _ _ rfl⟩
          · intro a' w' hb ha hdep
            have d43 : a'.tmps.getD 43 undef = .agg #[.int .i64 V1, .int .i64 LV] := (hdep 43 (of_decide_eq_true (by kernel_rfl))).is 9 rfl
            have d46 : a'.tmps.getD 46 undef = .int .i64 V3 := (hdep 46 (of_decide_eq_true (by kernel_rfl))).is 12 rfl
            have d49 : a'.tmps.getD 49 undef = .int .i64 V4 := (hdep 49 (of_decide_eq_true (by kernel_rfl))).is 15 rfl
            have d52 : a'.tmps.getD 52 undef = .int .i64 V5 := (hdep 52 (of_decide_eq_true (by kernel_rfl))).is 18 rfl
            have hmk := fun (x : Value) (W : World) => SlotG.mk (x := x) (w := W) 19 rfl hGN
            clear hGN ha hdep
            rw [Array.getD_eq_getD_getElem?] at d43 d46 d49 d52
            go_simp
            exact ⟨_, rfl, Below.refl _ _, hmk _ _ rfl⟩
          · intro a' w' hb ha hdep
            have d53 : a'.tmps.getD 53 undef = .agg #[.int .i64 V1, .int .i64 LV, .int .i64 V3, .int .i64 V4, .int .i64 V5] := (hdep 53 (of_decide_eq_true (by kernel_rfl))).is 19 rfl
            have hmk := fun (x : Value) (W : World) => SlotG.mk (x := x) (w := W) 20 rfl hGN
            clear hGN ha hdep
            rw [Array.getD_eq_getD_getElem?] at d53
            go_simp
            exact ⟨_, rfl, ent_new0 _ _, hmk _ _ ⟨_, rfl, Row.new w' 51 _⟩⟩
        · intro a' w' hb ha hG
          clear hGN
          have d35 : a'.tmps.getD 35 undef = .slice p k cv := (hG _ (List.mem_of_getElem? (i := 1) rfl) 35 rfl).is 1 rfl
          have D54 := (hG _ (List.mem_of_getElem? (i := 20) rfl) 54 rfl).get 20 rfl
          have d0 : a'.tmps.getD 0 undef = .string t := ha.at 0 (by kernel_rfl)
          have d1 : a'.tmps.getD 1 undef = undef := ha.at 1 (by kernel_rfl)
          have d2 : a'.tmps.getD 2 undef = .pointer (some ⟨w.heap.size, 0, none⟩) := ha.at 2 (by kernel_rfl)
          have d3 : a'.tmps.getD 3 undef = .pointer (some ⟨w.heap.size + 1, 0, none⟩) := ha.at 3 (by kernel_rfl)
          have d4 : a'.tmps.getD 4 undef = .int .i64 (4 + 20 * (k : Int)) := ha.at 4 (by kernel_rfl)
          have d6 : a'.tmps.getD 6 undef = .string t := ha.at 6 (by kernel_rfl)
          have d7 : a'.tmps.getD 7 undef = .int .i64 (t.size : Int) := ha.at 7 (by kernel_rfl)
          have d8 : a'.tmps.getD 8 undef = .bool false := ha.at 8 (by kernel_rfl)
          have d9 : a'.tmps.getD 9 undef = undef := ha.at 9 (by kernel_rfl)
          have d10 : a'.tmps.getD 10 undef = .string t := ha.at 10 (by kernel_rfl)
          have d11 : a'.tmps.getD 11 undef = .int .i64 (t.size : Int) := ha.at 11 (by kernel_rfl)
          have d12 : a'.tmps.getD 12 undef = .bool false := ha.at 12 (by kernel_rfl)
          have d13 : a'.tmps.getD 13 undef = undef := ha.at 13 (by kernel_rfl)
          have d14 : a'.tmps.getD 14 undef = .string t := ha.at 14 (by kernel_rfl)
          have d15 : a'.tmps.getD 15 undef = .int .u8 C := ha.at 15 (by kernel_rfl)
          have d16 : a'.tmps.getD 16 undef = .int .i64 C := ha.at 16 (by kernel_rfl)
          have d17 : a'.tmps.getD 17 undef = .agg #[.int .i64 C, .slice none 0 0] := ha.at 17 (by kernel_rfl)
          have d57 : a'.tmps.getD 57 undef = undef := ha.at 57 (by kernel_rfl)
          have d58 : a'.tmps.getD 58 undef = undef := ha.at 58 (by kernel_rfl)
          have d59 : a'.tmps.getD 59 undef = undef := ha.at 59 (by kernel_rfl)
          have d60 : a'.tmps.getD 60 undef = undef := ha.at 60 (by kernel_rfl)
          have d61 : a'.tmps.getD 61 undef = undef := ha.at 61 (by kernel_rfl)
          have d62 : a'.tmps.getD 62 undef = undef := ha.at 62 (by kernel_rfl)
          have d63 : a'.tmps.getD 63 undef = undef := ha.at 63 (by kernel_rfl)
          have e2 : a' = ⟨#[a'.tmps.getD 0 undef, a'.tmps.getD 1 undef, a'.tmps.getD 2 undef, a'.tmps.getD 3 undef, a'.tmps.getD 4 undef, a'.tmps.getD 5 undef, a'.tmps.getD 6 undef, a'.tmps.getD 7 undef, a'.tmps.getD 8 undef, a'.tmps.getD 9 undef, a'.tmps.getD 10 undef, a'.tmps.getD 11 undef, a'.tmps.getD 12 undef, a'.tmps.getD 13 undef, a'.tmps.getD 14 undef, a'.tmps.getD 15 undef, a'.tmps.getD 16 undef, a'.tmps.getD 17 undef, a'.tmps.getD 18 undef, a'.tmps.getD 19 undef, a'.tmps.getD 20 undef, a'.tmps.getD 21 undef, a'.tmps.getD 22 undef, a'.tmps.getD 23 undef, a'.tmps.getD 24 undef, a'.tmps.getD 25 undef, a'.tmps.getD 26 undef, a'.tmps.getD 27 undef, a'.tmps.getD 28 undef, a'.tmps.getD 29 undef, a'.tmps.getD 30 undef, a'.tmps.getD 31 undef, a'.tmps.getD 32 undef, a'.tmps.getD 33 undef, a'.tmps.getD 34 undef, a'.tmps.getD 35 undef, a'.tmps.getD 36 undef, a'.tmps.getD 37 undef, a'.tmps.getD 38 undef, a'.tmps.getD 39 undef, a'.tmps.getD 40 undef, a'.tmps.getD 41 undef, a'.tmps.getD 42 undef, a'.tmps.getD 43 undef, a'.tmps.getD 44 undef, a'.tmps.getD 45 undef, a'.tmps.getD 46 undef, a'.tmps.getD 47 undef, a'.tmps.getD 48 undef, a'.tmps.getD 49 undef, a'.tmps.getD 50 undef, a'.tmps.getD 51 undef, a'.tmps.getD 52 undef, a'.tmps.getD 53 undef, a'.tmps.getD 54 undef, a'.tmps.getD 55 undef, a'.tmps.getD 56 undef, a'.tmps.getD 57 undef, a'.tmps.getD 58 undef, a'.tmps.getD 59 undef, a'.tmps.getD 60 undef, a'.tmps.getD 61 undef, a'.tmps.getD 62 undef, a'.tmps.getD 63 undef], []⟩ := by rw [← (show a'.defers = [] from ha.2.1)]; exact act_eq a' 64 ha.1
          rw [d35, d0, d1, d2, d3, d4, d6, d7, d8, d9, d10, d11, d12, d13, d14, d15, d16, d17, d57, d58, d59, d60, d61, d62, d63] at e2
          clear hG ha d35 d0 d1 d2 d3 d4 d6 d7 d8 d9 d10 d11 d12 d13 d14 d15 d16 d17 d57 d58 d59 d60 d61 d62 d63
          generalize a'.tmps.getD 5 undef = x5 at *
          generalize a'.tmps.getD 18 undef = x18 at *
          generalize a'.tmps.getD 19 undef = x19 at *
          generalize a'.tmps.getD 20 undef = x20 at *
          generalize a'.tmps.getD 21 undef = x21 at *
          generalize a'.tmps.getD 22 undef = x22 at *
          generalize a'.tmps.getD 23 undef = x23 at *
          generalize a'.tmps.getD 24 undef = x24 at *
          generalize a'.tmps.getD 25 undef = x25 at *
          generalize a'.tmps.getD 26 undef = x26 at *
          generalize a'.tmps.getD 27 undef = x27 at *
          generalize a'.tmps.getD 28 undef = x28 at *
          generalize a'.tmps.getD 29 undef = x29 at *
          generalize a'.tmps.getD 30 undef = x30 at *
          generalize a'.tmps.getD 31 undef = x31 at *
          generalize a'.tmps.getD 32 undef = x32 at *
          generalize a'.tmps.getD 33 undef = x33 at *
          generalize a'.tmps.getD 34 undef = x34 at *
          generalize a'.tmps.getD 36 undef = x36 at *
          generalize a'.tmps.getD 37 undef = x37 at *
          generalize a'.tmps.getD 38 undef = x38 at *
          generalize a'.tmps.getD 39 undef = x39 at *
          generalize a'.tmps.getD 40 undef = x40 at *
          generalize a'.tmps.getD 41 undef = x41 at *
          generalize a'.tmps.getD 42 undef = x42 at *
          generalize a'.tmps.getD 43 undef = x43 at *
          generalize a'.tmps.getD 44 undef = x44 at *
          generalize a'.tmps.getD 45 undef = x45 at *
          generalize a'.tmps.getD 46 undef = x46 at *
          generalize a'.tmps.getD 47 undef = x47 at *
          generalize a'.tmps.getD 48 undef = x48 at *
          generalize a'.tmps.getD 49 undef = x49 at *
          generalize a'.tmps.getD 50 undef = x50 at *
          generalize a'.tmps.getD 51 undef = x51 at *
          generalize a'.tmps.getD 52 undef = x52 at *
          generalize a'.tmps.getD 53 undef = x53 at *
          generalize a'.tmps.getD 54 undef = x54 at *
          generalize a'.tmps.getD 55 undef = x55 at *
          generalize a'.tmps.getD 56 undef = x56 at *
          subst e2
          simp only [List.drop_succ_cons, List.drop_zero]
          obtain ⟨gx, rfl, hgx⟩ := D54
          have hs3 := hb.size
          have how3 := HST.out.2.2.1.below hb
          refine wpList_append_ent rfl (.tmp 35) (.tmp 54) rfl (w.heap.size + 2) _ (readEs (t.data.toList.drop 4) k) rfl how3 gx 1 ⟨V1, LV, V3, V4, V5⟩ rfl hgx hkk (by omega) ?_
          intro v4 w4 hown4 hb4
          rw [← HNX.out] at hown4
          obtain ⟨p4, cv4, hv4, -⟩ := hown4.form
          rw [readEs_length] at hv4
          subst hv4
          have hr14 := (HST.out.below hb).2.1.below hb4 (by omega)
          have c0 : w4.cell? ⟨w.heap.size + 1, 0, none⟩ = some (.int .i64 C) := hr14.cell 0
          have c1 : w4.cell? ⟨w.heap.size + 1, 1, none⟩ = some (.slice p k cv) := hr14.cell 1
          have f1 := hr14.frozen 1
          have HX : Hid (SpSt t w (k + 1) p4 cv4 C (w4.setCell ⟨w.heap.size + 1, 1, none⟩ (.slice p4 (k + 1) cv4))) := spSt_next (HST.out.below hb) hb4 hown4
          clear hr14 hown4 hgx how3 hb4 HST HNX hb HR HSL HSa HSb HSc HSd HSe HGa HGb HGc HGd HGe HLn d1 d2
          go_wp2
          go_roundw
          case rel => exact ⟨k + 1, p4, cv4, by omega, by omega, by go_num, HX.out⟩
          case measure => simp [intOf]; omega
      · have d2 : decide (4 + 20 * (k : Int) < 184) = false := by simp; omega
        have hrd := HPl.out k (by unfold nE; rw [show t.data.toList.length = t.size by simp]; omega)
        have how := HST.out.2.2.1
        obtain ⟨p2, cv2, hv2, hEn⟩ := how.form
        rw [readEs_length] at hv2
        obtain ⟨rfl, -, rfl⟩ : p = p2 ∧ k = k ∧ cv = cv2 := by simpa using hv2
        have hBy := specRipBytes_any C p cv (readEs (t.data.toList.drop 4) k) wr hEn (by rw [readEs_length]; omega)
        rw [readEs_length] at hBy
        unfold ripV at hBy
        have HBy : Hid (Calls Tryd.prog 24 #[.agg #[.int .i64 C, .slice p k cv]] wr fun e w' => e = .returned (.string (ripO C (readEs (t.data.toList.drop 4) k))) ∧ Below wr.heap.size wr w') := hBy
        have e0 : wr.cell? ⟨w.heap.size + 1, 0, none⟩ = some (.int .i64 C) := HST.out.2.1.cell 0
        have e1 : wr.cell? ⟨w.heap.size + 1, 1, none⟩ = some (.slice p k cv) := HST.out.2.1.cell 1
        have hsE : OwnE wr (w.heap.size + 2) (.slice p k cv) (readEs (t.data.toList.drop 4) k) := how
        have HSX : Hid (Row wr w.heap.size 26 [.int .i64 0, .slice none 0 0, .int .i64 0, .int .i64 0] ∧ Row wr (w.heap.size + 1) 24 [.int .i64 C, .slice p k cv] ∧ OwnE wr (w.heap.size + 2) (.slice p k cv) (readEs (t.data.toList.drop 4) k) ∧ Below w.heap.size w wr) := HST.out
        clear how hBy hEn hv2 HPl HG HL HST hsE
        generalize readEs (t.data.toList.drop 4) k = es at *
        go_wp2_with fail
        refine (HBy.out).mono ?_
        rintro e w2 ⟨rfl, hb2⟩
        obtain ⟨s1, s2, s3, s4⟩ := HSX.out
        have HS2 : Hid (Row w2 w.heap.size 26 [.int .i64 0, .slice none 0 0, .int .i64 0, .int .i64 0] ∧ Row w2 (w.heap.size + 1) 24 [.int .i64 C, .slice p k cv] ∧ OwnE w2 (w.heap.size + 2) (.slice p k cv) es ∧ Below w.heap.size w w2) := ⟨s1.below hb2 s1.lt, s2.below hb2 s2.lt, s3.below hb2, s4.trans (hb2.mono s4.size)⟩
        clear e0 e1 s1 s2 s3 s4 hb2 HSX HBy
        have c0 : w2.cell? ⟨w.heap.size, 0, none⟩ = some (.int .i64 0) := HS2.out.1.cell 0
        have c1 : w2.cell? ⟨w.heap.size, 1, none⟩ = some (.slice none 0 0) := HS2.out.1.cell 1
        have c2 : w2.cell? ⟨w.heap.size, 2, none⟩ = some (.int .i64 0) := HS2.out.1.cell 2
        have c3 : w2.cell? ⟨w.heap.size, 3, none⟩ = some (.int .i64 0) := HS2.out.1.cell 3
        have f0 := HS2.out.1.frozen 0
        have f1 := HS2.out.1.frozen 1
        have f2 := HS2.out.1.frozen 2
        have f3 := HS2.out.1.frozen 3
        have e0 : w2.cell? ⟨w.heap.size + 1, 0, none⟩ = some (.int .i64 C) := HS2.out.2.1.cell 0
        have e1 : w2.cell? ⟨w.heap.size + 1, 1, none⟩ = some (.slice p k cv) := HS2.out.2.1.cell 1
        by_cases he : ripO C es = t
        · rw [if_pos he] at hrd
          have HRd : Hid (rdR t = (C, es, 0)) := hrd
          clear hrd
          have HEt : Hid (ripO C es = t) := he
          clear he
          rw [HEt.out]
          have hres : Row ((((w2.setCell ⟨w.heap.size, 0, none⟩ (.int .i64 C)).setCell ⟨w.heap.size, 1, none⟩ (.slice p k cv)).setCell ⟨w.heap.size, 2, none⟩ (.int .i64 0)).setCell ⟨w.heap.size, 3, none⟩ (.int .i64 0)) w.heap.size 26 [.int .i64 C, .slice p k cv, .int .i64 0, .int .i64 0] := (((HS2.out.1.set 0 _).set 1 _).set 2 _).set 3 _
          have hbs : Below w.heap.size w ((((w2.setCell ⟨w.heap.size, 0, none⟩ (.int .i64 C)).setCell ⟨w.heap.size, 1, none⟩ (.slice p k cv)).setCell ⟨w.heap.size, 2, none⟩ (.int .i64 0)).setCell ⟨w.heap.size, 3, none⟩ (.int .i64 0)) := (((HS2.out.2.2.2.setCell (p := ⟨w.heap.size, 0, none⟩) (Nat.le_refl _) _).setCell (p := ⟨w.heap.size, 1, none⟩) (Nat.le_refl _) _).setCell (p := ⟨w.heap.size, 2, none⟩) (Nat.le_refl _) _).setCell (p := ⟨w.heap.size, 3, none⟩) (Nat.le_refl _) _
          have hos : OwnE ((((w2.setCell ⟨w.heap.size, 0, none⟩ (.int .i64 C)).setCell ⟨w.heap.size, 1, none⟩ (.slice p k cv)).setCell ⟨w.heap.size, 2, none⟩ (.int .i64 0)).setCell ⟨w.heap.size, 3, none⟩ (.int .i64 0)) w.heap.size (.slice p k cv) es := ((((HS2.out.2.2.1.set ⟨w.heap.size, 0, none⟩ (by show w.heap.size < w.heap.size + 2; omega) _).set ⟨w.heap.size, 1, none⟩ (by show w.heap.size < w.heap.size + 2; omega) _).set ⟨w.heap.size, 2, none⟩ (by show w.heap.size < w.heap.size + 2; omega) _).set ⟨w.heap.size, 3, none⟩ (by show w.heap.size < w.heap.size + 2; omega) _).mono (by omega)
          have HZ : Hid _ := And.intro hres (And.intro hbs hos)
          clear hres hbs hos HS2
          go_wp2_with fail
          have HZ2 := HZ.out
          clear HZ c0 c1 c2 c3 f0 f1 f2 f3 e0 e1
          generalize ((((w2.setCell ⟨w.heap.size, 0, none⟩ (.int .i64 C)).setCell ⟨w.heap.size, 1, none⟩ (.slice p k cv)).setCell ⟨w.heap.size, 2, none⟩ (.int .i64 0)).setCell ⟨w.heap.size, 3, none⟩ (.int .i64 0)) = Z at *
          obtain ⟨z1, z2, z3⟩ := HZ2
          have r0 : Z.cell? ⟨w.heap.size, 0, none⟩ = some (.int .i64 C) := z1.cell 0
          have r1 : Z.cell? ⟨w.heap.size, 1, none⟩ = some (.slice p k cv) := z1.cell 1
          have r2 : Z.cell? ⟨w.heap.size, 2, none⟩ = some (.int .i64 0) := z1.cell 2
          have r3 : Z.cell? ⟨w.heap.size, 3, none⟩ = some (.int .i64 0) := z1.cell 3
          refine bodyPost_ret (v := .agg #[.int .i64 C, .slice p k cv, .int .i64 0, .int .i64 0]) (by simp [results, Tryd.results12, go_sem, r0, r1, r2, r3]) rfl ?_
          rw [HRd.out]
          exact ⟨_, rfl, z3, z2⟩
        · rw [if_neg he] at hrd
          have HRd : Hid (rdR t = (0, [], 3)) := hrd
          clear hrd
          have hne := text_ne he
          clear he
          generalize ripO C es = RO at *
          have hres : Row ((((w2.setCell ⟨w.heap.size, 0, none⟩ (.int .i64 0)).setCell ⟨w.heap.size, 1, none⟩ (.slice none 0 0)).setCell ⟨w.heap.size, 2, none⟩ (.int .i64 0)).setCell ⟨w.heap.size, 3, none⟩ (.int .i64 3)) w.heap.size 26 [.int .i64 0, .slice none 0 0, .int .i64 0, .int .i64 3] := (((HS2.out.1.set 0 _).set 1 _).set 2 _).set 3 _
          have hbs : Below w.heap.size w ((((w2.setCell ⟨w.heap.size, 0, none⟩ (.int .i64 0)).setCell ⟨w.heap.size, 1, none⟩ (.slice none 0 0)).setCell ⟨w.heap.size, 2, none⟩ (.int .i64 0)).setCell ⟨w.heap.size, 3, none⟩ (.int .i64 3)) := (((HS2.out.2.2.2.setCell (p := ⟨w.heap.size, 0, none⟩) (Nat.le_refl _) _).setCell (p := ⟨w.heap.size, 1, none⟩) (Nat.le_refl _) _).setCell (p := ⟨w.heap.size, 2, none⟩) (Nat.le_refl _) _).setCell (p := ⟨w.heap.size, 3, none⟩) (Nat.le_refl _) _
          have hos : OwnE ((((w2.setCell ⟨w.heap.size, 0, none⟩ (.int .i64 0)).setCell ⟨w.heap.size, 1, none⟩ (.slice none 0 0)).setCell ⟨w.heap.size, 2, none⟩ (.int .i64 0)).setCell ⟨w.heap.size, 3, none⟩ (.int .i64 3)) w.heap.size (.slice none 0 0) [] := OwnE.nil _ _
          have HZ : Hid _ := And.intro hres (And.intro hbs hos)
          clear hres hbs hos HS2
          go_wp2_with fail
          have HZ2 := HZ.out
          clear HZ c0 c1 c2 c3 f0 f1 f2 f3 e0 e1
          generalize ((((w2.setCell ⟨w.heap.size, 0, none⟩ (.int .i64 0)).setCell ⟨w.heap.size, 1, none⟩ (.slice none 0 0)).setCell ⟨w.heap.size, 2, none⟩ (.int .i64 0)).setCell ⟨w.heap.size, 3, none⟩ (.int .i64 3)) = Z at *
          obtain ⟨z1, z2, z3⟩ := HZ2
          have r0 : Z.cell? ⟨w.heap.size, 0, none⟩ = some (.int .i64 0) := z1.cell 0
          have r1 : Z.cell? ⟨w.heap.size, 1, none⟩ = some (.slice none 0 0) := z1.cell 1
          have r2 : Z.cell? ⟨w.heap.size, 2, none⟩ = some (.int .i64 0) := z1.cell 2
          have r3 : Z.cell? ⟨w.heap.size, 3, none⟩ = some (.int .i64 3) := z1.cell 3
          refine bodyPost_ret (v := .agg #[.int .i64 0, .slice none 0 0, .int .i64 0, .int .i64 3]) (by simp [results, Tryd.results12, go_sem, r0, r1, r2, r3]) rfl ?_
          rw [HRd.out]
          exact ⟨_, rfl, z3, z2⟩
    · have d1 : decide (4 + 20 * (k : Int) + 20 ≤ (t.size : Int)) = false := by simp; omega
      have hrd := HPl.out k (by unfold nE; rw [show t.data.toList.length = t.size by simp]; omega)
      have how := HST.out.2.2.1
      obtain ⟨p2, cv2, hv2, hEn⟩ := how.form
      rw [readEs_length] at hv2
      obtain ⟨rfl, -, rfl⟩ : p = p2 ∧ k = k ∧ cv = cv2 := by simpa using hv2
      have hBy := specRipBytes_any C p cv (readEs (t.data.toList.drop 4) k) wr hEn (by rw [readEs_length]; omega)
      rw [readEs_length] at hBy
      unfold ripV at hBy
      have HBy : Hid (Calls Tryd.prog 24 #[.agg #[.int .i64 C, .slice p k cv]] wr fun e w' => e = .returned (.string (ripO C (readEs (t.data.toList.drop 4) k))) ∧ Below wr.heap.size wr w') := hBy
      have e0 : wr.cell? ⟨w.heap.size + 1, 0, none⟩ = some (.int .i64 C) := HST.out.2.1.cell 0
      have e1 : wr.cell? ⟨w.heap.size + 1, 1, none⟩ = some (.slice p k cv) := HST.out.2.1.cell 1
      have hsE : OwnE wr (w.heap.size + 2) (.slice p k cv) (readEs (t.data.toList.drop 4) k) := how
      have HSX : Hid (Row wr w.heap.size 26 [.int .i64 0, .slice none 0 0, .int .i64 0, .int .i64 0] ∧ Row wr (w.heap.size + 1) 24 [.int .i64 C, .slice p k cv] ∧ OwnE wr (w.heap.size + 2) (.slice p k cv) (readEs (t.data.toList.drop 4) k) ∧ Below w.heap.size w wr) := HST.out
      clear how hBy hEn hv2 HPl HG HL HST hsE
      generalize readEs (t.data.toList.drop 4) k = es at *
      go_wp2_with fail
      refine (HBy.out).mono ?_
      rintro e w2 ⟨rfl, hb2⟩
      obtain ⟨s1, s2, s3, s4⟩ := HSX.out
      have HS2 : Hid (Row w2 w.heap.size 26 [.int .i64 0, .slice none 0 0, .int .i64 0, .int .i64 0] ∧ Row w2 (w.heap.size + 1) 24 [.int .i64 C, .slice p k cv] ∧ OwnE w2 (w.heap.size + 2) (.slice p k cv) es ∧ Below w.heap.size w w2) := ⟨s1.below hb2 s1.lt, s2.below hb2 s2.lt, s3.below hb2, s4.trans (hb2.mono s4.size)⟩
      clear e0 e1 s1 s2 s3 s4 hb2 HSX HBy
      have c0 : w2.cell? ⟨w.heap.size, 0, none⟩ = some (.int .i64 0) := HS2.out.1.cell 0
      have c1 : w2.cell? ⟨w.heap.size, 1, none⟩ = some (.slice none 0 0) := HS2.out.1.cell 1
      have c2 : w2.cell? ⟨w.heap.size, 2, none⟩ = some (.int .i64 0) := HS2.out.1.cell 2
      have c3 : w2.cell? ⟨w.heap.size, 3, none⟩ = some (.int .i64 0) := HS2.out.1.cell 3
      have f0 := HS2.out.1.frozen 0
      have f1 := HS2.out.1.frozen 1
      have f2 := HS2.out.1.frozen 2
      have f3 := HS2.out.1.frozen 3
      have e0 : w2.cell? ⟨w.heap.size + 1, 0, none⟩ = some (.int .i64 C) := HS2.out.2.1.cell 0
      have e1 : w2.cell? ⟨w.heap.size + 1, 1, none⟩ = some (.slice p k cv) := HS2.out.2.1.cell 1
      by_cases he : ripO C es = t
      · rw [if_pos he] at hrd
        have HRd : Hid (rdR t = (C, es, 0)) := hrd
        clear hrd
        have HEt : Hid (ripO C es = t) := he
        clear he
        rw [HEt.out]
        have hres : Row ((((w2.setCell ⟨w.heap.size, 0, none⟩ (.int .i64 C)).setCell ⟨w.heap.size, 1, none⟩ (.slice p k cv)).setCell ⟨w.heap.size, 2, none⟩ (.int .i64 0)).setCell ⟨w.heap.size, 3, none⟩ (.int .i64 0)) w.heap.size 26 [.int .i64 C, .slice p k cv, .int .i64 0, .int .i64 0] := (((HS2.out.1.set 0 _).set 1 _).set 2 _).set 3 _
        have hbs : Below w.heap.size w ((((w2.setCell ⟨w.heap.size, 0, none⟩ (.int .i64 C)).setCell ⟨w.heap.size, 1, none⟩ (.slice p k cv)).setCell ⟨w.heap.size, 2, none⟩ (.int .i64 0)).setCell ⟨w.heap.size, 3, none⟩ (.int .i64 0)) := (((HS2.out.2.2.2.setCell (p := ⟨w.heap.size, 0, none⟩) (Nat.le_refl _) _).setCell (p := ⟨w.heap.size, 1, none⟩) (Nat.le_refl _) _).setCell (p := ⟨w.heap.size, 2, none⟩) (Nat.le_refl _) _).setCell (p := ⟨w.heap.size, 3, none⟩) (Nat.le_refl _) _
        have hos : OwnE ((((w2.setCell ⟨w.heap.size, 0, none⟩ (.int .i64 C)).setCell ⟨w.heap.size, 1, none⟩ (.slice p k cv)).setCell ⟨w.heap.size, 2, none⟩ (.int .i64 0)).setCell ⟨w.heap.size, 3, none⟩ (.int .i64 0)) w.heap.size (.slice p k cv) es := ((((HS2.out.2.2.1.set ⟨w.heap.size, 0, none⟩ (by show w.heap.size < w.heap.size + 2; omega) _).set ⟨w.heap.size, 1, none⟩ (by show w.heap.size < w.heap.size + 2; omega) _).set ⟨w.heap.size, 2, none⟩ (by show w.heap.size < w.heap.size + 2; omega) _).set ⟨w.heap.size, 3, none⟩ (by show w.heap.size < w.heap.size + 2; omega) _).mono (by omega)
        have HZ : Hid _ := And.intro hres (And.intro hbs hos)
        clear hres hbs hos HS2
        go_wp2_with fail
        have HZ2 := HZ.out
        clear HZ c0 c1 c2 c3 f0 f1 f2 f3 e0 e1
        generalize ((((w2.setCell ⟨w.heap.size, 0, none⟩ (.int .i64 C)).setCell ⟨w.heap.size, 1, none⟩ (.slice p k cv)).setCell ⟨w.heap.size, 2, none⟩ (.int .i64 0)).setCell ⟨w.heap.size, 3, none⟩ (.int .i64 0)) = Z at *
        obtain ⟨z1, z2, z3⟩ := HZ2
        have r0 : Z.cell? ⟨w.heap.size, 0, none⟩ = some (.int .i64 C) := z1.cell 0
        have r1 : Z.cell? ⟨w.heap.size, 1, none⟩ = some (.slice p k cv) := z1.cell 1
        have r2 : Z.cell? ⟨w.heap.size, 2, none⟩ = some (.int .i64 0) := z1.cell 2
        have r3 : Z.cell? ⟨w.heap.size, 3, none⟩ = some (.int .i64 0) := z1.cell 3
        refine bodyPost_ret (v := .agg #[.int .i64 C, .slice p k cv, .int .i64 0, .int .i64 0]) (by simp [results, Tryd.results12, go_sem, r0, r1, r2, r3]) rfl ?_
        rw [HRd.out]
        exact ⟨_, rfl, z3, z2⟩
      · rw [if_neg he] at hrd
        have HRd : Hid (rdR t = (0, [], 3)) := hrd
        clear hrd
        have hne := text_ne he
        clear he
        generalize ripO C es = RO at *
        have hres : Row ((((w2.setCell ⟨w.heap.size, 0, none⟩ (.int .i64 0)).setCell ⟨w.heap.size, 1, none⟩ (.slice none 0 0)).setCell ⟨w.heap.size, 2, none⟩ (.int .i64 0)).setCell ⟨w.heap.size, 3, none⟩ (.int .i64 3)) w.heap.size 26 [.int .i64 0, .slice none 0 0, .int .i64 0, .int .i64 3] := (((HS2.out.1.set 0 _).set 1 _).set 2 _).set 3 _
        have hbs : Below w.heap.size w ((((w2.setCell ⟨w.heap.size, 0, none⟩ (.int .i64 0)).setCell ⟨w.heap.size, 1, none⟩ (.slice none 0 0)).setCell ⟨w.heap.size, 2, none⟩ (.int .i64 0)).setCell ⟨w.heap.size, 3, none⟩ (.int .i64 3)) := (((HS2.out.2.2.2.setCell (p := ⟨w.heap.size, 0, none⟩) (Nat.le_refl _) _).setCell (p := ⟨w.heap.size, 1, none⟩) (Nat.le_refl _) _).setCell (p := ⟨w.heap.size, 2, none⟩) (Nat.le_refl _) _).setCell (p := ⟨w.heap.size, 3, none⟩) (Nat.le_refl _) _
        have hos : OwnE ((((w2.setCell ⟨w.heap.size, 0, none⟩ (.int .i64 0)).setCell ⟨w.heap.size, 1, none⟩ (.slice none 0 0)).setCell ⟨w.heap.size, 2, none⟩ (.int .i64 0)).setCell ⟨w.heap.size, 3, none⟩ (.int .i64 3)) w.heap.size (.slice none 0 0) [] := OwnE.nil _ _
        have HZ : Hid _ := And.intro hres (And.intro hbs hos)
        clear hres hbs hos HS2
        go_wp2_with fail
        have HZ2 := HZ.out
        clear HZ c0 c1 c2 c3 f0 f1 f2 f3 e0 e1
        generalize ((((w2.setCell ⟨w.heap.size, 0, none⟩ (.int .i64 0)).setCell ⟨w.heap.size, 1, none⟩ (.slice none 0 0)).setCell ⟨w.heap.size, 2, none⟩ (.int .i64 0)).setCell ⟨w.heap.size, 3, none⟩ (.int .i64 3)) = Z at *
        obtain ⟨z1, z2, z3⟩ := HZ2
        have r0 : Z.cell? ⟨w.heap.size, 0, none⟩ = some (.int .i64 0) := z1.cell 0
        have r1 : Z.cell? ⟨w.heap.size, 1, none⟩ = some (.slice none 0 0) := z1.cell 1
        have r2 : Z.cell? ⟨w.heap.size, 2, none⟩ = some (.int .i64 0) := z1.cell 2
        have r3 : Z.cell? ⟨w.heap.size, 3, none⟩ = some (.int .i64 3) := z1.cell 3
        refine bodyPost_ret (v := .agg #[.int .i64 0, .slice none 0 0, .int .i64 0, .int .i64 3]) (by simp [results, Tryd.results12, go_sem, r0, r1, r2, r3]) rfl ?_
        rw [HRd.out]
        exact ⟨_, rfl, z3, z2⟩
set_option maxRecDepth 100000 in
theorem specRipRead_any (t : ByteArray) (w : World) (hz : t.size ≤ 1048576) :
    Calls Tryd.prog 12 #[.string t] w fun e w' => RdOut (rdR t) 0 w w' e := by
  by_cases h8 : t.size ≤ 8000
  · by_cases h4 : 4 ≤ t.size
    · exact specRipRead_in t w h4 h8
    · have HR : Hid (rdR t = (0, [], 3)) := by show _ = _; unfold rdR; rw [if_neg (by omega), if_pos (by omega)]
      have d8 : decide (8000 < (t.size : Int)) = false := by simp; omega
      have d4 : decide ((t.size : Int) < 4) = true := by simp; omega
      rw [HR.out]
      go_enter Tryd.func12, Tryd.ntmps12
      go_wp2
      refine bodyPost_ret (v := .agg #[.int .i64 0, .slice none 0 0, .int .i64 0, .int .i64 3]) (by simp [results, Tryd.results12, go_sem]) rfl ?_
      exact ⟨_, rfl, OwnE.nil _ _, ent_new0 _ _⟩
  · have HR : Hid (rdR t = (0, [], 2)) := rdR_long t (by omega)
    have d8 : decide (8000 < (t.size : Int)) = true := by simp; omega
    rw [HR.out]
    go_enter Tryd.func12, Tryd.ntmps12
    go_wp2
    refine bodyPost_ret (v := .agg #[.int .i64 0, .slice none 0 0, .int .i64 0, .int .i64 2]) (by simp [results, Tryd.results12, go_sem]) rfl ?_
    exact ⟨_, rfl, OwnE.nil _ _, ent_new0 _ _⟩
end Go.Proofs.YtkkhjeigndcmaaaDoor
/- What is signed, of the model. -/
namespace Go.Proofs.YtkkhjeigndcmaaaDoor
open Go.RowKit Go.Sort

set_option maxRecDepth 100000 in
theorem specKey_any (k : ByteArray) (w : World) (hk : k.size ≤ maxLen) : Calls Tryd.prog 9 #[.string k] w fun e w' => e = .returned (.bool (inKey k)) ∧ w = w' := by
  unfold maxLen at hk
  by_cases h1 : 1 ≤ k.size
  · have d1 : decide (1 ≤ (k.size : Int)) = true := by simp; omega
    by_cases h2 : k.size ≤ 32
    · have d2 : decide ((k.size : Int) ≤ 32) = true := by simp; omega
      have HE : Hid (inKey k = true) := by show decide _ = true; simp [h1, h2]
      rw [HE.out]
      go_enter Tryd.func9, Tryd.ntmps9
      go_wp2
      go_ret
      exact ⟨rfl, rfl⟩
    · have d2 : decide ((k.size : Int) ≤ 32) = false := by simp; omega
      have HE : Hid (inKey k = false) := by show decide _ = false; simp; omega
      rw [HE.out]
      go_enter Tryd.func9, Tryd.ntmps9
      go_wp2
      go_ret
      exact ⟨rfl, rfl⟩
  · have d1 : decide (1 ≤ (k.size : Int)) = false := by simp; omega
    have HE : Hid (inKey k = false) := by show decide _ = false; simp; omega
    rw [HE.out]
    go_enter Tryd.func9, Tryd.ntmps9
    go_wp2
    go_ret
    exact ⟨rfl, rfl⟩
theorem mark_eq (R : ByteArray) (seq : Int) : R ++ wordT 65535 ++ wordT 3 ++ fourQ seq = R ++ markT seq := by
  apply ByteArray.ext
  apply Array.toList_inj.1
  simp [wordT, fourQ, fourQL, markT, markL, wordsL]
set_option maxRecDepth 100000 in
set_option maxHeartbeats 1000000 in
theorem spec05Sign_any (c : Int) (p : Option Addr) (cap : Nat) (es : List Ent) (k : ByteArray) (seq : Int) (w : World) (h : EntsIn w p es) (hr : ripB c es = true) (hk : inKey k = true) (hs : inSeq seq = true) :
    Calls Tryd.prog 26 #[ripV c p es.length cap, .string k, .int .i64 seq] w fun e w' => e = .returned (.string (signT c es k seq)) ∧ Below w.heap.size w w' := by
  have h8 := (ripB_spec hr).2.1
  have hk2 : 1 ≤ k.size ∧ k.size ≤ 32 := by simpa [inKey] using hk
  have hseq : 1 ≤ seq ∧ seq ≤ 1000000 := by simpa [inSeq] using hs
  have HX : Hid (EntsIn w p es) := h
  have HB : Hid (∀ w, EntsIn w p es → Calls Tryd.prog 37 #[ripV c p es.length cap] w fun e w' => e = .returned (.string (ripT c es)) ∧ Below w.heap.size w w') := fun w h => spec05Bytes_any c p cap es w h hr
  have HW1 : Hid (∀ w, Calls Tryd.prog 39 #[.int .i64 65535] w fun e w' => e = .returned (.string (wordT 65535)) ∧ Below w.heap.size w w') := fun w => specWord_any 65535 w (by omega) (by omega)
  have HW2 : Hid (∀ w, Calls Tryd.prog 39 #[.int .i64 3] w fun e w' => e = .returned (.string (wordT 3)) ∧ Below w.heap.size w w') := fun w => specWord_any 3 w (by omega) (by omega)
  have HF : Hid (∀ w, Calls Tryd.prog 40 #[.int .i64 seq] w fun e w' => e = .returned (.string (fourQ seq)) ∧ Below w.heap.size w w') := fun w => spec4_any seq w (by omega) (by omega)
  have HME : Hid (ripT c es ++ wordT 65535 ++ wordT 3 ++ fourQ seq = aheadT c es seq) := mark_eq _ _
  have hsz := aheadT_size c es seq
  have HM : Hid (∀ w, Calls Tryd.prog 11 #[.string k, .string (aheadT c es seq)] w fun e w' => e = .returned (.string (macT k (aheadT c es seq))) ∧ Below w.heap.size w w') := fun w => specMac_in k _ w (by omega) (by omega)
  have HS : Hid (∀ w, (Instr.slice 9 (.string (macT k (aheadT c es seq))) none (some (.int .i64 16)) none).run Tryd.prog w = .ok (.string (shortT k (aheadT c es seq))) w) := fun w => slice_upto (macT k (aheadT c es seq)) 16 16 rfl (by rw [macT_size]; omega) w
  have HG : Hid (signT c es k seq = aheadT c es seq ++ shortT k (aheadT c es seq)) := rfl
  have s0 := ripT_size c es
  have s1 := wordT_size 65535
  have s2 := wordT_size 3
  have s3 := fourQ_size seq
  have s4 := shortT_size k (aheadT c es seq)
  rw [HG.out]
  unfold ripV at *
  clear hr hk hs h HG
  generalize ripT c es = RT at *
  generalize wordT 65535 = W1 at *
  generalize wordT 3 = W2 at *
  generalize fourQ seq = F at *
  generalize shortT k (aheadT c es seq) = ST at *
  generalize macT k (aheadT c es seq) = MT at *
  generalize aheadT c es seq = AT at *
  go_enter Tryd.func26, Tryd.ntmps26
  go_wp2_with fail
  refine (HB.out _ (HX.out.alloc _)).mono ?_
  rintro e w1 ⟨rfl, hb1⟩
  have hB1 := (ent_new0 w _).trans (hb1.mono (by simp))
  clear hb1 HB
  go_wp2_with fail
  refine (HW1.out _).mono ?_
  rintro e w2 ⟨rfl, hb2⟩
  have hB2 := hB1.trans (hb2.mono hB1.size)
  clear hb2 HW1 hB1
  have z1 : ¬ 9223372036854775807 < 4 + 20 * es.length + 2 := by omega
  go_wp2_with fail
  refine (HW2.out _).mono ?_
  rintro e w3 ⟨rfl, hb3⟩
  have hB3 := hB2.trans (hb3.mono hB2.size)
  clear hb3 HW2 hB2
  have z2 : ¬ 9223372036854775807 < 4 + 20 * es.length + 2 + 2 := by omega
  go_wp2_with fail
  refine (HF.out _).mono ?_
  rintro e w4 ⟨rfl, hb4⟩
  have hB4 := hB3.trans (hb4.mono hB3.size)
  clear hb4 HF hB3
  have z3 : ¬ 9223372036854775807 < 4 + 20 * es.length + 2 + 2 + 4 := by omega
  go_wp2_with fail
  rw [HME.out]
  refine (HM.out _).mono ?_
  rintro e w5 ⟨rfl, hb5⟩
  have hB5 := hB4.trans (hb5.mono hB4.size)
  clear hb5 HM hB4 HME s1 s2 s3 s0
  have hsl := HS.out w5
  have z4 : ¬ 9223372036854775807 < 12 + 20 * es.length + 16 := by omega
  go_wp2
  go_ret
  exact ⟨rfl, hB5⟩
set_option maxRecDepth 100000 in
set_option maxHeartbeats 1000000 in
theorem specRipSign_any (c : Int) (p : Option Addr) (cap : Nat) (es : List Ent) (k : ByteArray) (seq : Int) (w : World) (h : EntsIn w p es) (hn : es.length ≤ 100000000) (hz : k.size ≤ 1048576) :
    Calls Tryd.prog 14 #[ripV c p es.length cap, .string k, .int .i64 seq] w fun e w' => e = .returned (.string (signO c es k seq)) ∧ Below w.heap.size w w' := by
  have HR : Hid (∀ w, EntsIn w p es → Calls Tryd.prog 25 #[ripV c p es.length cap] w fun e w' => e = .returned (.bool (ripB c es)) ∧ Below w.heap.size w w') := fun w h => specRipRight_any c p cap es w h hn
  have HX : Hid (EntsIn w p es) := h
  have HK : Hid (∀ w, Calls Tryd.prog 9 #[.string k] w fun e w' => e = .returned (.bool (inKey k)) ∧ w = w') := fun w => specKey_any k w (by unfold maxLen; omega)
  have HQ : Hid (∀ w, Calls Tryd.prog 20 #[.int .i64 seq, .int .i64 1, .int .i64 1000000] w fun e w' => e = .returned (.bool (inSeq seq)) ∧ w = w') := l03Is_any seq 1 1000000
  clear h
  by_cases h8 : k.size ≤ 8000
  · have d8 : decide (8000 < (k.size : Int)) = false := by simp; omega
    by_cases hr : ripB c es = true
    · rw [hr] at HR
      by_cases hk : inKey k = true
      · rw [hk] at HK
        by_cases hs : inSeq seq = true
        · rw [hs] at HQ
          have HA : Hid (signO c es k seq = signT c es k seq) := if_pos ⟨hr, hs, hk⟩
          rw [HA.out]
          have HS : Hid (∀ w, EntsIn w p es → Calls Tryd.prog 26 #[ripV c p es.length cap, .string k, .int .i64 seq] w fun e w' => e = .returned (.string (signT c es k seq)) ∧ Below w.heap.size w w') := fun w h => spec05Sign_any c p cap es k seq w h hr hk hs
          unfold ripV at *
          clear HA hr hs hk
          generalize signT c es k seq = GT at *
          go_enter Tryd.func14, Tryd.ntmps14
          go_wp2_with fail
          refine (HR.out _ (HX.out.alloc _)).mono ?_
          rintro e w1 ⟨rfl, hb1⟩
          obtain ⟨c0, c1, hs1, hB1⟩ := cell2_later rfl hb1
          clear hb1
          go_wp2_with fail
          refine (HK.out _).mono ?_
          rintro e w2 ⟨rfl, rfl⟩
          go_wp2_with fail
          refine (HQ.out _).mono ?_
          rintro e w2 ⟨rfl, rfl⟩
          go_wp2_with fail
          refine (HS.out _ (HX.out.below hB1)).mono ?_
          rintro e w2 ⟨rfl, hb2⟩
          have hB2 := hB1.trans (hb2.mono hB1.size)
          clear hb2
          go_wp2
          go_ret
          exact ⟨rfl, hB2⟩
        · have HA : Hid (signO c es k seq = ByteArray.empty) := if_neg (fun h => hs h.2.1)
          rw [show inSeq seq = false by simpa using hs] at HQ
          rw [HA.out]
          unfold ripV at *
          go_enter Tryd.func14, Tryd.ntmps14
          go_wp2_with fail
          refine (HR.out _ (HX.out.alloc _)).mono ?_
          rintro e w1 ⟨rfl, hb1⟩
          have hB1 := (ent_new0 w _).trans (hb1.mono (by simp))
          clear hb1
          go_wp2_with fail
          refine (HK.out _).mono ?_
          rintro e w2 ⟨rfl, rfl⟩
          go_wp2_with fail
          refine (HQ.out _).mono ?_
          rintro e w2 ⟨rfl, rfl⟩
          go_wp2
          go_ret
          exact ⟨rfl, hB1⟩
      · have HA : Hid (signO c es k seq = ByteArray.empty) := if_neg (fun h => hk h.2.2)
        rw [show inKey k = false by simpa using hk] at HK
        rw [HA.out]
        unfold ripV at *
        go_enter Tryd.func14, Tryd.ntmps14
        go_wp2_with fail
        refine (HR.out _ (HX.out.alloc _)).mono ?_
        rintro e w1 ⟨rfl, hb1⟩
        have hB1 := (ent_new0 w _).trans (hb1.mono (by simp))
        clear hb1
        go_wp2_with fail
        refine (HK.out _).mono ?_
        rintro e w2 ⟨rfl, rfl⟩
        go_wp2
        go_ret
        exact ⟨rfl, hB1⟩
    · have HA : Hid (signO c es k seq = ByteArray.empty) := if_neg (fun h => hr h.1)
      rw [show ripB c es = false by simpa using hr] at HR
      rw [HA.out]
      unfold ripV at *
      go_enter Tryd.func14, Tryd.ntmps14
      go_wp2_with fail
      refine (HR.out _ (HX.out.alloc _)).mono ?_
      rintro e w1 ⟨rfl, hb1⟩
      have hB1 := (ent_new0 w _).trans (hb1.mono (by simp))
      clear hb1
      go_wp2
      go_ret
      exact ⟨rfl, hB1⟩
  · have HA : Hid (signO c es k seq = ByteArray.empty) := if_neg (fun h => by have h2 : 1 ≤ k.size ∧ k.size ≤ 32 := by simpa [inKey] using h.2.2
                                                                              omega)
    have d8 : decide (8000 < (k.size : Int)) = true := by simp; omega
    rw [HA.out]
    unfold ripV at *
    go_enter Tryd.func14, Tryd.ntmps14
    go_wp2
    go_ret
    exact ⟨rfl, ent_new0 w _⟩
end Go.Proofs.YtkkhjeigndcmaaaDoor
/- RipOpen of the model. (Written by gen_openS.py.) -/
namespace Go.Proofs.YtkkhjeigndcmaaaDoor
open Go.RowKit Go.Sort

set_option maxRecDepth 100000 in
theorem specTime_any (a : Int) (w : World) : Calls Tryd.prog 10 #[.int .i64 a] w fun e w' => e = .returned (.bool (inTime a)) ∧ w = w' := by
  have HT : Hid (∀ w, Calls Tryd.prog 20 #[.int .i64 a, .int .i64 0, .int .i64 1000000] w fun e w' => e = .returned (.bool (inTime a)) ∧ w = w') := l03Is_any a 0 1000000
  generalize inTime a = T at *
  go_enter Tryd.func10, Tryd.ntmps10
  go_wp2_with fail
  refine (HT.out _).mono ?_
  rintro e w1 ⟨rfl, rfl⟩
  go_wp2
  go_ret
  exact ⟨rfl, rfl⟩
theorem rdR_small {x : ByteArray} {c : Int} {es : List Ent} {code : Int} (h : rdR x = (c, es, code)) : es.length ≤ 9 := by
  unfold rdR at h
  split at h
  · simp only [Prod.mk.injEq] at h; rw [← h.2.1]; simp
  · split at h
    · simp only [Prod.mk.injEq] at h; rw [← h.2.1]; simp
    · split at h
      · rename_i hp
        simp only [Prod.mk.injEq] at h
        unfold plainR at hp
        split at hp
        · simp only [Option.some.injEq, Prod.mk.injEq] at hp
          rw [← h.2.1, ← hp.2, readEs_length]
          unfold nE
          omega
        · cases hp
      · simp only [Prod.mk.injEq] at h; rw [← h.2.1]; simp
theorem opR_model {t k : ByteArray} {last : Int} (h6 : whyC t k last = 6) (hm : shortT k (t.extract 0 (t.size - 16)) = t.extract (t.size - 16) t.size) {c : Int} {es : List Ent} {code : Int} (hr : rdR (t.extract 0 (t.size - 16 - 8)) = (c, es, code)) {q : Int}
    (hq : q = (numL (t.extract (t.size - 16 - 4) (t.size - 16)).data.toList : Int)) :
    opR t k last = if code ≠ 0 ∨ signO c es k q ≠ t then (0, [], 0, 3) else if q ≤ last then (0, [], 0, 8) else (c, es, q, 0) := by
  obtain ⟨hz, _, hk, _, h28⟩ := whyC_six h6
  have no : (∀ c' es' q', ripOfR (t.extract 0 (t.size - 16)).data.toList = some (c', es', q') → q' = 0) → opR t k last = (0, [], 0, 3) := by
    intro h
    cases hR : ripOfR (t.extract 0 (t.size - 16)).data.toList with
    | none => exact opR_none h6 hm hR
    | some x =>
      obtain ⟨c', es', q'⟩ := x
      rw [opR_some h6 hm hR, if_pos (h _ _ _ hR)]; rfl
  by_cases hx : ∃ c' es' q', ripOfR (t.extract 0 (t.size - 16)).data.toList = some (c', es', q') ∧ q' ≠ 0
  · obtain ⟨c', es', q', hR, hq0⟩ := hx
    obtain ⟨hp, ha, hs, hg⟩ := open_there t k h28 hk hm hR hq0
    have hrd : rdR (t.extract 0 (t.size - 16 - 8)) = (c', es', 0) := by
      have hsz : (t.extract 0 (t.size - 16 - 8)).size = t.size - 24 := by rw [ByteArray.size_extract]; omega
      unfold rdR
      rw [if_neg (by rw [hsz]; omega), if_neg (by rw [hsz]; omega), hp]
    rw [hrd] at hr
    simp only [Prod.mk.injEq] at hr
    obtain ⟨rfl, rfl, rfl⟩ := hr
    have hqq : q = q' := by
      have h1 := open_seq c' es' q' hs
      have hza : (aheadT c' es' q').size = t.size - 16 := by rw [← ha, ByteArray.size_extract]; omega
      have e1 : (t.extract (t.size - 16 - 4) (t.size - 16)).data.toList = cutL (aheadT c' es' q').data.toList ((aheadT c' es' q').size - 4) (aheadT c' es' q').size := by
        rw [hza, ← ha, extract_list, extract_list]
        unfold cutL
        rw [List.drop_zero, List.take_take, Nat.min_self]
      rw [hq, e1, h1]
    subst hqq
    have hcond : ¬ ((0 : Int) ≠ 0 ∨ signO c' es' k q ≠ t) := by simp [hg]
    rw [opR_some h6 hm hR, if_neg hq0, if_neg hcond]
    rfl
  · have hno := no (fun c' es' q' h => by
      by_cases h0 : q' = 0
      · exact h0
      · exact absurd ⟨c', es', q', h, h0⟩ hx)
    rw [hno]
    by_cases hg : signO c es k q = t
    · exact absurd ⟨c, es, q, open_back t k h28 hg⟩ hx
    · rw [if_pos (.inr hg)]
set_option maxRecDepth 100000 in
set_option maxHeartbeats 2000000 in
theorem specRipOpen_six (t k : ByteArray) (last : Int) (w : World) (h6 : whyC t k last = 6) :
    Calls Tryd.prog 4 #[.string t, .string k, .int .i64 last] w fun e w' => RdOut (opC t k last) (opQ t k last) w w' e := by
  obtain ⟨hz, hkz, hk, ht, h28⟩ := whyC_six h6
  have d1 : decide (8000 < (t.size : Int)) = false := by simp; omega
  have d2 : decide (8000 < (k.size : Int)) = false := by simp; omega
  have d3 : decide ((t.size : Int) < 28) = false := by simp; omega
  have HK : Hid (∀ w, Calls Tryd.prog 9 #[.string k] w fun e w' => e = .returned (.bool true) ∧ w = w') := fun w => by have := specKey_any k w (by unfold maxLen; omega); rw [hk] at this; exact this
  have HT : Hid (∀ w, Calls Tryd.prog 10 #[.int .i64 last] w fun e w' => e = .returned (.bool true) ∧ w = w') := fun w => by have := specTime_any last w; rw [ht] at this; exact this
  have HM : Hid (∀ w, Calls Tryd.prog 11 #[.string k, .string (t.extract 0 (t.size - 16))] w fun e w' => e = .returned (.string (macT k (t.extract 0 (t.size - 16)))) ∧ Below w.heap.size w w') := fun w => specMac_in k _ w hkz (by rw [ByteArray.size_extract]; omega)
  have HSm : Hid (∀ w, (Instr.slice 9 (.string (macT k (t.extract 0 (t.size - 16)))) none (some (.int .i64 16)) none).run Tryd.prog w = .ok (.string (shortT k (t.extract 0 (t.size - 16)))) w) := fun w => slice_upto (macT k (t.extract 0 (t.size - 16))) 16 16 rfl (by rw [macT_size]; omega) w
  have hx : IntKind.i64.wrap ((t.size : Int) - 16) = ((t.size - 16 : Nat) : Int) := by rw [wrap_i64_in _ (by omega) (by omega)]; omega
  have hx8 : IntKind.i64.wrap (((t.size - 16 : Nat) : Int) - 8) = ((t.size - 16 - 8 : Nat) : Int) := by rw [wrap_i64_in _ (by omega) (by omega)]; omega
  have hx4 : IntKind.i64.wrap (((t.size - 16 : Nat) : Int) - 4) = ((t.size - 16 - 4 : Nat) : Int) := by rw [wrap_i64_in _ (by omega) (by omega)]; omega
  have hS1 : ∀ w, (Instr.slice 9 (.string t) none (some (.int .i64 ((t.size - 16 : Nat) : Int))) none).run Tryd.prog w = .ok (.string (t.extract 0 (t.size - 16))) w := fun w => slice_upto t _ _ rfl (by omega) w
  have hS2 : ∀ w, (Instr.slice 9 (.string t) (some (.int .i64 ((t.size - 16 : Nat) : Int))) none none).run Tryd.prog w = .ok (.string (t.extract (t.size - 16) t.size)) w := fun w => slice_on t _ _ rfl (by omega) w
  have hS3 : ∀ w, (Instr.slice 9 (.string t) none (some (.int .i64 ((t.size - 16 - 8 : Nat) : Int))) none).run Tryd.prog w = .ok (.string (t.extract 0 (t.size - 16 - 8))) w := fun w => slice_upto t _ _ rfl (by omega) w
  have hS4 : ∀ w, (Instr.slice 9 (.string t) (some (.int .i64 ((t.size - 16 - 4 : Nat) : Int))) (some (.int .i64 ((t.size - 16 : Nat) : Int))) none).run Tryd.prog w = .ok (.string (t.extract (t.size - 16 - 4) (t.size - 16))) w := fun w => slice_to t _ _ _ _ rfl rfl (by omega) (by omega) w
  have HG : Hid (∀ w, Calls Tryd.prog 13 #[.string (t.extract (t.size - 16 - 4) (t.size - 16))] w fun e w' => e = .returned (.int .i64 (numL (t.extract (t.size - 16 - 4) (t.size - 16)).data.toList : Int)) ∧ w = w') := fun w => specGet_any _ w (by rw [ByteArray.size_extract]; omega)
  have HRd : Hid (∀ w, Calls Tryd.prog 12 #[.string (t.extract 0 (t.size - 16 - 8))] w fun e w' => RdOut (rdR (t.extract 0 (t.size - 16 - 8))) 0 w w' e) := fun w => specRipRead_any _ w (by rw [ByteArray.size_extract]; omega)
  have H3 : Hid (_ → _) := opR_mac h6
  have H4 : Hid (_ → ∀ c es code, _ → _) := fun hm c es code hr => opR_model h6 hm (c := c) (es := es) (code := code) hr rfl
  have HQ0 : Hid (Row (w.alloc (.cells #[.int .i64 0, .slice none 0 0, .int .i64 0, .int .i64 0] 26)) w.heap.size 26 [.int .i64 0, .slice none 0 0, .int .i64 0, .int .i64 0]) := Row.new w _ _
  have hbl := ent_new0 w (.cells #[.int .i64 0, .slice none 0 0, .int .i64 0, .int .i64 0] 26)
  generalize hWW : w.alloc (.cells #[.int .i64 0, .slice none 0 0, .int .i64 0, .int .i64 0] 26) = W at *
  have HWW : Hid _ := hWW
  have hsW : W.heap.size = w.heap.size + 1 := by rw [← hWW]; simp
  have hR3 : ∀ r, rdR (t.extract 0 (t.size - 16 - 8)) = r → r.2.1.length ≤ 9 := fun r h => rdR_small (c := r.1) (es := r.2.1) (code := r.2.2) h
  have HR3 : Hid _ := hR3
  clear hWW h6 hR3 hk ht
  generalize macT k (t.extract 0 (t.size - 16)) = mt at *
  generalize shortT k (t.extract 0 (t.size - 16)) = sm at *
  generalize t.extract 0 (t.size - 16 - 8) = x8 at *
  generalize t.extract 0 (t.size - 16) = a at *
  generalize t.extract (t.size - 16) t.size = m at *
  generalize (numL (t.extract (t.size - 16 - 4) (t.size - 16)).data.toList : Int) = q at *
  generalize t.extract (t.size - 16 - 4) (t.size - 16) = x4 at *
  go_enter Tryd.func4, Tryd.ntmps4
  go_wp2_with fail
  rw [HWW.out]
  clear HWW
  refine (HK.out _).mono ?_
  rintro e w1 ⟨rfl, rfl⟩
  go_wp2_with fail
  refine (HT.out _).mono ?_
  rintro e w1 ⟨rfl, rfl⟩
  clear HK HT
  have hSm := HSm.out
  go_wp2_with fail
  refine wp_region_quiet_below (by kernel_rfl) (by kernel_rfl) ?_
  repeat (go_big_quiet_step ((go_at_call 11; exact Calls.regrown_of (HM.out _))))
  refine wpQuiet_nil ?_
  intro w1 hw'
  obtain ⟨⟨dq, osq⟩, hw''⟩ := hw'
  have hbq := below_regrown W dq osq
  rw [← hw''] at hbq
  have hB1 : Below w.heap.size w w1 := hbl.trans (hbq.mono (by omega))
  have HQ1 : Hid (Row w1 w.heap.size 26 [.int .i64 0, .slice none 0 0, .int .i64 0, .int .i64 0]) := HQ0.out.below hbq HQ0.out.lt
  have hs1 := hbq.size
  clear hw'' osq dq hbq HQ0 HM HSm hSm hbl hS1 hS2 hx
  by_cases hm : sm = m
  · have H4' : Hid (∀ c es code, _ → _) := H4.out hm
    have tm : (!sm.toList == m.toList) = false := by rw [hm]; simp
    rw [tm]
    clear tm
    clear H3 H4
    go_wp2_with fail
    refine (HRd.out _).mono ?_
    intro e w2 hO
    obtain ⟨v, rfl, ho2, hb2⟩ := hO
    generalize hR : rdR x8 = R at *
    obtain ⟨c, es, code⟩ := R
    have hsm := HR3.out _ rfl
    have H5 : Hid _ := H4'.out c es code rfl
    simp only at ho2 hsm
    obtain ⟨p, cv, rfl, hin2⟩ := ho2.form
    have hB2 : Below w.heap.size w w2 := hB1.trans (hb2.mono (by omega))
    have q2 := HQ1.out.below hb2 HQ1.out.lt
    have hs2 := hb2.size
    have HQ3 : Hid (Row (w2.alloc (.cells #[.int .i64 c, .slice p es.length cv, .int .i64 0, .int .i64 code] 26)) w.heap.size 26 [.int .i64 0, .slice none 0 0, .int .i64 0, .int .i64 0]) := q2.alloc _
    have HX3 : Hid (Row (w2.alloc (.cells #[.int .i64 c, .slice p es.length cv, .int .i64 0, .int .i64 code] 26)) w2.heap.size 26 [.int .i64 c, .slice p es.length cv, .int .i64 0, .int .i64 code]) := Row.new w2 _ _
    have hB3 : Below w.heap.size w (w2.alloc (.cells #[.int .i64 c, .slice p es.length cv, .int .i64 0, .int .i64 code] 26)) := hB2.alloc (by omega) _
    have hin3 := hin2.alloc (.cells #[.int .i64 c, .slice p es.length cv, .int .i64 0, .int .i64 code] 26)
    have ho3 : OwnE (w2.alloc (.cells #[.int .i64 c, .slice p es.length cv, .int .i64 0, .int .i64 code] 26)) (w.heap.size + 1) (.slice p es.length cv) es := (ho2.alloc _).mono (by omega)
    have hs3 : (w2.alloc (.cells #[.int .i64 c, .slice p es.length cv, .int .i64 0, .int .i64 code] 26)).heap.size = w2.heap.size + 1 := by simp
    have HSg : Hid (∀ w, EntsIn w p es → Calls Tryd.prog 14 #[.agg #[.int .i64 c, .slice p es.length cv], .string k, .int .i64 q] w fun e w' => e = .returned (.string (signO c es k q)) ∧ Below w.heap.size w w') := fun w h => specRipSign_any c p cv es k q w h (by omega) (by omega)
    clear hin2 ho2 hb2 q2 hB2 HQ1 hB1 HRd HR3 H4' hR hsm
    go_wp2_with fail
    generalize hWW : w2.alloc (.cells #[.int .i64 c, .slice p es.length cv, .int .i64 0, .int .i64 code] 26) = U at *
    clear hWW
    refine (HG.out _).mono ?_
    rintro e w3 ⟨rfl, rfl⟩
    clear HG
    have x0 : U.cell? ⟨w2.heap.size, 0, none⟩ = some (.int .i64 c) := HX3.out.cell 0
    have x1 : U.cell? ⟨w2.heap.size, 1, none⟩ = some (.slice p es.length cv) := HX3.out.cell 1
    have x2 : U.cell? ⟨w2.heap.size, 2, none⟩ = some (.int .i64 0) := HX3.out.cell 2
    have x3 : U.cell? ⟨w2.heap.size, 3, none⟩ = some (.int .i64 code) := HX3.out.cell 3
    by_cases hc : code = 0
    · have ec : (code != 0) = false := by simpa using hc
      go_wp2_with fail
      refine (HSg.out _ hin3).mono ?_
      rintro e w4 ⟨rfl, hb4⟩
      have hB4 : Below w.heap.size w w4 := hB3.trans (hb4.mono (by omega))
      have HQ4 : Hid (Row w4 w.heap.size 26 [.int .i64 0, .slice none 0 0, .int .i64 0, .int .i64 0]) := HQ3.out.below hb4 HQ3.out.lt
      have ho4 : Hid (OwnE w4 (w.heap.size + 1) (.slice p es.length cv) es) := ho3.below hb4
      have X4 := HX3.out.below hb4 HX3.out.lt
      have y0 : w4.cell? ⟨w2.heap.size, 0, none⟩ = some (.int .i64 c) := X4.cell 0
      have y1 : w4.cell? ⟨w2.heap.size, 1, none⟩ = some (.slice p es.length cv) := X4.cell 1
      clear X4 x0 x1 x2 x3 hb4 HX3 HQ3 hB3 ho3 hin3 HSg hs3
      by_cases hg : signO c es k q = t
      · have eg : (!(signO c es k q).toList == t.toList) = false := by rw [hg]; simp
        generalize signO c es k q = sg at *
        by_cases hl : q ≤ last
        · have HR : Hid (opR t k last = (0, [], 0, 8)) := by show _ = _; rw [H5.out, if_neg (by simp [hc, hg]), if_pos hl]
          have el : decide (q ≤ last) = true := decide_eq_true hl
          clear H5
          have c0 : w4.cell? ⟨w.heap.size, 0, none⟩ = some (.int .i64 0) := HQ4.out.cell 0
          have f0 : w4.frozen? ⟨w.heap.size, 0, none⟩ = false := HQ4.out.frozen 0
          have c1 : w4.cell? ⟨w.heap.size, 1, none⟩ = some (.slice none 0 0) := HQ4.out.cell 1
          have f1 : w4.frozen? ⟨w.heap.size, 1, none⟩ = false := HQ4.out.frozen 1
          have c2 : w4.cell? ⟨w.heap.size, 2, none⟩ = some (.int .i64 0) := HQ4.out.cell 2
          have f2 : w4.frozen? ⟨w.heap.size, 2, none⟩ = false := HQ4.out.frozen 2
          have c3 : w4.cell? ⟨w.heap.size, 3, none⟩ = some (.int .i64 0) := HQ4.out.cell 3
          have f3 : w4.frozen? ⟨w.heap.size, 3, none⟩ = false := HQ4.out.frozen 3
          have HZ : Hid _ := And.intro (((((HQ4.out.set 0 (.int .i64 0)).set 1 (.slice none 0 0)).set 2 (.int .i64 0)).set 3 (.int .i64 8))) (((((hB4.setCell (p := ⟨w.heap.size, 0, none⟩) (Nat.le_refl _) (.int .i64 0)).setCell (p := ⟨w.heap.size, 1, none⟩) (Nat.le_refl _) (.slice none 0 0)).setCell (p := ⟨w.heap.size, 2, none⟩) (Nat.le_refl _) (.int .i64 0)).setCell (p := ⟨w.heap.size, 3, none⟩) (Nat.le_refl _) (.int .i64 8)))
          clear HQ4 hB4 ho4
          go_wp2_with fail
          have HZ2 := HZ.out
          clear HZ c0 c1 c2 c3 f0 f1 f2 f3
          generalize ((((w4.setCell ⟨w.heap.size, 0, none⟩ (.int .i64 0)).setCell ⟨w.heap.size, 1, none⟩ (.slice none 0 0)).setCell ⟨w.heap.size, 2, none⟩ (.int .i64 0)).setCell ⟨w.heap.size, 3, none⟩ (.int .i64 8)) = Z at *
          obtain ⟨h1, h2⟩ := HZ2
          have r0 : Z.cell? ⟨w.heap.size, 0, none⟩ = some (.int .i64 0) := h1.cell 0
          have r1 : Z.cell? ⟨w.heap.size, 1, none⟩ = some (.slice none 0 0) := h1.cell 1
          have r2 : Z.cell? ⟨w.heap.size, 2, none⟩ = some (.int .i64 0) := h1.cell 2
          have r3 : Z.cell? ⟨w.heap.size, 3, none⟩ = some (.int .i64 8) := h1.cell 3
          refine bodyPost_ret (v := .agg #[.int .i64 0, .slice none 0 0, .int .i64 0, .int .i64 8]) (by simp [results, Tryd.results4, go_sem, r0, r1, r2, r3]) rfl ?_
          unfold opC opQ
          rw [HR.out]
          exact ⟨_, rfl, OwnE.nil _ _, h2⟩
        · have HR : Hid (opR t k last = (c, es, q, 0)) := by show _ = _; rw [H5.out, if_neg (by simp [hc, hg]), if_neg hl]
          have el : decide (q ≤ last) = false := decide_eq_false hl
          clear H5
          generalize es.length = N at *
          have c0 : w4.cell? ⟨w.heap.size, 0, none⟩ = some (.int .i64 0) := HQ4.out.cell 0
          have f0 : w4.frozen? ⟨w.heap.size, 0, none⟩ = false := HQ4.out.frozen 0
          have c1 : w4.cell? ⟨w.heap.size, 1, none⟩ = some (.slice none 0 0) := HQ4.out.cell 1
          have f1 : w4.frozen? ⟨w.heap.size, 1, none⟩ = false := HQ4.out.frozen 1
          have c2 : w4.cell? ⟨w.heap.size, 2, none⟩ = some (.int .i64 0) := HQ4.out.cell 2
          have f2 : w4.frozen? ⟨w.heap.size, 2, none⟩ = false := HQ4.out.frozen 2
          have c3 : w4.cell? ⟨w.heap.size, 3, none⟩ = some (.int .i64 0) := HQ4.out.cell 3
          have f3 : w4.frozen? ⟨w.heap.size, 3, none⟩ = false := HQ4.out.frozen 3
          have HZ : Hid _ := And.intro (((((HQ4.out.set 0 (.int .i64 c)).set 1 (.slice p N cv)).set 2 (.int .i64 q)).set 3 (.int .i64 0))) (And.intro (((((hB4.setCell (p := ⟨w.heap.size, 0, none⟩) (Nat.le_refl _) (.int .i64 c)).setCell (p := ⟨w.heap.size, 1, none⟩) (Nat.le_refl _) (.slice p N cv)).setCell (p := ⟨w.heap.size, 2, none⟩) (Nat.le_refl _) (.int .i64 q)).setCell (p := ⟨w.heap.size, 3, none⟩) (Nat.le_refl _) (.int .i64 0))) (((((ho4.out.set ⟨w.heap.size, 0, none⟩ (by show w.heap.size < w.heap.size + 1; omega) (.int .i64 c)).set ⟨w.heap.size, 1, none⟩ (by show w.heap.size < w.heap.size + 1; omega) (.slice p N cv)).set ⟨w.heap.size, 2, none⟩ (by show w.heap.size < w.heap.size + 1; omega) (.int .i64 q)).set ⟨w.heap.size, 3, none⟩ (by show w.heap.size < w.heap.size + 1; omega) (.int .i64 0)).mono (base' := w.heap.size) (by omega)))
          clear HQ4 hB4 ho4
          go_wp2_with fail
          have HZ2 := HZ.out
          clear HZ c0 c1 c2 c3 f0 f1 f2 f3
          generalize ((((w4.setCell ⟨w.heap.size, 0, none⟩ (.int .i64 c)).setCell ⟨w.heap.size, 1, none⟩ (.slice p N cv)).setCell ⟨w.heap.size, 2, none⟩ (.int .i64 q)).setCell ⟨w.heap.size, 3, none⟩ (.int .i64 0)) = Z at *
          obtain ⟨h1, h2, h3⟩ := HZ2
          have r0 : Z.cell? ⟨w.heap.size, 0, none⟩ = some (.int .i64 c) := h1.cell 0
          have r1 : Z.cell? ⟨w.heap.size, 1, none⟩ = some (.slice p N cv) := h1.cell 1
          have r2 : Z.cell? ⟨w.heap.size, 2, none⟩ = some (.int .i64 q) := h1.cell 2
          have r3 : Z.cell? ⟨w.heap.size, 3, none⟩ = some (.int .i64 0) := h1.cell 3
          refine bodyPost_ret (v := .agg #[.int .i64 c, .slice p N cv, .int .i64 q, .int .i64 0]) (by simp [results, Tryd.results4, go_sem, r0, r1, r2, r3]) rfl ?_
          unfold opC opQ
          rw [HR.out]
          exact ⟨_, rfl, h3, h2⟩
      · have HR : Hid (opR t k last = (0, [], 0, 3)) := by show _ = _; rw [H5.out, if_pos (.inr hg)]
        have eg : (!(signO c es k q).toList == t.toList) = true := by rw [text_ne hg]; rfl
        generalize signO c es k q = sg at *
        clear H5
        have c0 : w4.cell? ⟨w.heap.size, 0, none⟩ = some (.int .i64 0) := HQ4.out.cell 0
        have f0 : w4.frozen? ⟨w.heap.size, 0, none⟩ = false := HQ4.out.frozen 0
        have c1 : w4.cell? ⟨w.heap.size, 1, none⟩ = some (.slice none 0 0) := HQ4.out.cell 1
        have f1 : w4.frozen? ⟨w.heap.size, 1, none⟩ = false := HQ4.out.frozen 1
        have c2 : w4.cell? ⟨w.heap.size, 2, none⟩ = some (.int .i64 0) := HQ4.out.cell 2
        have f2 : w4.frozen? ⟨w.heap.size, 2, none⟩ = false := HQ4.out.frozen 2
        have c3 : w4.cell? ⟨w.heap.size, 3, none⟩ = some (.int .i64 0) := HQ4.out.cell 3
        have f3 : w4.frozen? ⟨w.heap.size, 3, none⟩ = false := HQ4.out.frozen 3
        have HZ : Hid _ := And.intro (((((HQ4.out.set 0 (.int .i64 0)).set 1 (.slice none 0 0)).set 2 (.int .i64 0)).set 3 (.int .i64 3))) (((((hB4.setCell (p := ⟨w.heap.size, 0, none⟩) (Nat.le_refl _) (.int .i64 0)).setCell (p := ⟨w.heap.size, 1, none⟩) (Nat.le_refl _) (.slice none 0 0)).setCell (p := ⟨w.heap.size, 2, none⟩) (Nat.le_refl _) (.int .i64 0)).setCell (p := ⟨w.heap.size, 3, none⟩) (Nat.le_refl _) (.int .i64 3)))
        clear HQ4 hB4 ho4
        go_wp2_with fail
        have HZ2 := HZ.out
        clear HZ c0 c1 c2 c3 f0 f1 f2 f3
        generalize ((((w4.setCell ⟨w.heap.size, 0, none⟩ (.int .i64 0)).setCell ⟨w.heap.size, 1, none⟩ (.slice none 0 0)).setCell ⟨w.heap.size, 2, none⟩ (.int .i64 0)).setCell ⟨w.heap.size, 3, none⟩ (.int .i64 3)) = Z at *
        obtain ⟨h1, h2⟩ := HZ2
        have r0 : Z.cell? ⟨w.heap.size, 0, none⟩ = some (.int .i64 0) := h1.cell 0
        have r1 : Z.cell? ⟨w.heap.size, 1, none⟩ = some (.slice none 0 0) := h1.cell 1
        have r2 : Z.cell? ⟨w.heap.size, 2, none⟩ = some (.int .i64 0) := h1.cell 2
        have r3 : Z.cell? ⟨w.heap.size, 3, none⟩ = some (.int .i64 3) := h1.cell 3
        refine bodyPost_ret (v := .agg #[.int .i64 0, .slice none 0 0, .int .i64 0, .int .i64 3]) (by simp [results, Tryd.results4, go_sem, r0, r1, r2, r3]) rfl ?_
        unfold opC opQ
        rw [HR.out]
        exact ⟨_, rfl, OwnE.nil _ _, h2⟩
    · have ec : (code != 0) = true := by simpa using hc
      have HR : Hid (opR t k last = (0, [], 0, 3)) := by show _ = _; rw [H5.out, if_pos (.inl hc)]
      clear H5 HSg
      have c0 : U.cell? ⟨w.heap.size, 0, none⟩ = some (.int .i64 0) := HQ3.out.cell 0
      have f0 : U.frozen? ⟨w.heap.size, 0, none⟩ = false := HQ3.out.frozen 0
      have c1 : U.cell? ⟨w.heap.size, 1, none⟩ = some (.slice none 0 0) := HQ3.out.cell 1
      have f1 : U.frozen? ⟨w.heap.size, 1, none⟩ = false := HQ3.out.frozen 1
      have c2 : U.cell? ⟨w.heap.size, 2, none⟩ = some (.int .i64 0) := HQ3.out.cell 2
      have f2 : U.frozen? ⟨w.heap.size, 2, none⟩ = false := HQ3.out.frozen 2
      have c3 : U.cell? ⟨w.heap.size, 3, none⟩ = some (.int .i64 0) := HQ3.out.cell 3
      have f3 : U.frozen? ⟨w.heap.size, 3, none⟩ = false := HQ3.out.frozen 3
      have HZ : Hid _ := And.intro (((((HQ3.out.set 0 (.int .i64 0)).set 1 (.slice none 0 0)).set 2 (.int .i64 0)).set 3 (.int .i64 3))) (((((hB3.setCell (p := ⟨w.heap.size, 0, none⟩) (Nat.le_refl _) (.int .i64 0)).setCell (p := ⟨w.heap.size, 1, none⟩) (Nat.le_refl _) (.slice none 0 0)).setCell (p := ⟨w.heap.size, 2, none⟩) (Nat.le_refl _) (.int .i64 0)).setCell (p := ⟨w.heap.size, 3, none⟩) (Nat.le_refl _) (.int .i64 3)))
      clear HQ3 hB3 HX3 hin3 ho3
      go_wp2_with fail
      have HZ2 := HZ.out
      clear HZ c0 c1 c2 c3 f0 f1 f2 f3
      generalize ((((U.setCell ⟨w.heap.size, 0, none⟩ (.int .i64 0)).setCell ⟨w.heap.size, 1, none⟩ (.slice none 0 0)).setCell ⟨w.heap.size, 2, none⟩ (.int .i64 0)).setCell ⟨w.heap.size, 3, none⟩ (.int .i64 3)) = Z at *
      obtain ⟨h1, h2⟩ := HZ2
      have r0 : Z.cell? ⟨w.heap.size, 0, none⟩ = some (.int .i64 0) := h1.cell 0
      have r1 : Z.cell? ⟨w.heap.size, 1, none⟩ = some (.slice none 0 0) := h1.cell 1
      have r2 : Z.cell? ⟨w.heap.size, 2, none⟩ = some (.int .i64 0) := h1.cell 2
      have r3 : Z.cell? ⟨w.heap.size, 3, none⟩ = some (.int .i64 3) := h1.cell 3
      refine bodyPost_ret (v := .agg #[.int .i64 0, .slice none 0 0, .int .i64 0, .int .i64 3]) (by simp [results, Tryd.results4, go_sem, r0, r1, r2, r3]) rfl ?_
      unfold opC opQ
      rw [HR.out]
      exact ⟨_, rfl, OwnE.nil _ _, h2⟩
  · have HR : Hid (opR t k last = (0, [], 0, 5)) := H3.out hm
    have tm : (!sm.toList == m.toList) = true := by rw [text_ne hm]; rfl
    rw [tm]
    clear tm
    clear H3 H4 HRd HG HR3
    have c0 : w1.cell? ⟨w.heap.size, 0, none⟩ = some (.int .i64 0) := HQ1.out.cell 0
    have f0 : w1.frozen? ⟨w.heap.size, 0, none⟩ = false := HQ1.out.frozen 0
    have c1 : w1.cell? ⟨w.heap.size, 1, none⟩ = some (.slice none 0 0) := HQ1.out.cell 1
    have f1 : w1.frozen? ⟨w.heap.size, 1, none⟩ = false := HQ1.out.frozen 1
    have c2 : w1.cell? ⟨w.heap.size, 2, none⟩ = some (.int .i64 0) := HQ1.out.cell 2
    have f2 : w1.frozen? ⟨w.heap.size, 2, none⟩ = false := HQ1.out.frozen 2
    have c3 : w1.cell? ⟨w.heap.size, 3, none⟩ = some (.int .i64 0) := HQ1.out.cell 3
    have f3 : w1.frozen? ⟨w.heap.size, 3, none⟩ = false := HQ1.out.frozen 3
    have HZ : Hid _ := And.intro (((((HQ1.out.set 0 (.int .i64 0)).set 1 (.slice none 0 0)).set 2 (.int .i64 0)).set 3 (.int .i64 5))) (((((hB1.setCell (p := ⟨w.heap.size, 0, none⟩) (Nat.le_refl _) (.int .i64 0)).setCell (p := ⟨w.heap.size, 1, none⟩) (Nat.le_refl _) (.slice none 0 0)).setCell (p := ⟨w.heap.size, 2, none⟩) (Nat.le_refl _) (.int .i64 0)).setCell (p := ⟨w.heap.size, 3, none⟩) (Nat.le_refl _) (.int .i64 5)))
    clear HQ1 hB1
    go_wp2_with fail
    have HZ2 := HZ.out
    clear HZ c0 c1 c2 c3 f0 f1 f2 f3
    generalize ((((w1.setCell ⟨w.heap.size, 0, none⟩ (.int .i64 0)).setCell ⟨w.heap.size, 1, none⟩ (.slice none 0 0)).setCell ⟨w.heap.size, 2, none⟩ (.int .i64 0)).setCell ⟨w.heap.size, 3, none⟩ (.int .i64 5)) = Z at *
    obtain ⟨h1, h2⟩ := HZ2
    have r0 : Z.cell? ⟨w.heap.size, 0, none⟩ = some (.int .i64 0) := h1.cell 0
    have r1 : Z.cell? ⟨w.heap.size, 1, none⟩ = some (.slice none 0 0) := h1.cell 1
    have r2 : Z.cell? ⟨w.heap.size, 2, none⟩ = some (.int .i64 0) := h1.cell 2
    have r3 : Z.cell? ⟨w.heap.size, 3, none⟩ = some (.int .i64 5) := h1.cell 3
    refine bodyPost_ret (v := .agg #[.int .i64 0, .slice none 0 0, .int .i64 0, .int .i64 5]) (by simp [results, Tryd.results4, go_sem, r0, r1, r2, r3]) rfl ?_
    unfold opC opQ
    rw [HR.out]
    exact ⟨_, rfl, OwnE.nil _ _, h2⟩
set_option maxRecDepth 100000 in
theorem specRipOpen_any (t k : ByteArray) (last : Int) (w : World) (hz : t.size ≤ 1048576) (hkz : k.size ≤ 1048576) :
    Calls Tryd.prog 4 #[.string t, .string k, .int .i64 last] w fun e w' => RdOut (opC t k last) (opQ t k last) w w' e := by
  by_cases h6 : whyC t k last = 6
  · exact specRipOpen_six t k last w h6
  have HR0 : Hid (opR t k last = (0, [], 0, errC (whyC t k last))) := if_pos h6
  have HK : Hid (∀ w, Calls Tryd.prog 9 #[.string k] w fun e w' => e = .returned (.bool (inKey k)) ∧ w = w') := fun w => specKey_any k w (by unfold maxLen; omega)
  have HT : Hid (∀ w, Calls Tryd.prog 10 #[.int .i64 last] w fun e w' => e = .returned (.bool (inTime last)) ∧ w = w') := specTime_any last
  by_cases h1 : 8000 < t.size
  · have HR : Hid (opR t k last = (0, [], 0, 2)) := by show _ = _; rw [HR0.out]; unfold whyC; rw [if_pos (.inl h1)]; rfl
    have d1 : decide (8000 < (t.size : Int)) = true := by simp; omega
    clear HR0
    go_enter Tryd.func4, Tryd.ntmps4
    go_wp2
    refine bodyPost_ret (v := .agg #[.int .i64 0, .slice none 0 0, .int .i64 0, .int .i64 2]) (by simp [results, Tryd.results4, go_sem]) rfl ?_
    unfold opC opQ
    rw [HR.out]
    exact ⟨_, rfl, OwnE.nil _ _, ent_new0 _ _⟩
  have d1 : decide (8000 < (t.size : Int)) = false := by simp; omega
  by_cases h2 : 8000 < k.size
  · have HR : Hid (opR t k last = (0, [], 0, 2)) := by show _ = _; rw [HR0.out]; unfold whyC; rw [if_pos (.inr h2)]; rfl
    have d2 : decide (8000 < (k.size : Int)) = true := by simp; omega
    clear HR0
    go_enter Tryd.func4, Tryd.ntmps4
    go_wp2
    refine bodyPost_ret (v := .agg #[.int .i64 0, .slice none 0 0, .int .i64 0, .int .i64 2]) (by simp [results, Tryd.results4, go_sem]) rfl ?_
    unfold opC opQ
    rw [HR.out]
    exact ⟨_, rfl, OwnE.nil _ _, ent_new0 _ _⟩
  have d2 : decide (8000 < (k.size : Int)) = false := by simp; omega
  by_cases h3 : inKey k = false
  · have HR : Hid (opR t k last = (0, [], 0, 1)) := by show _ = _; rw [HR0.out]; unfold whyC; rw [if_neg (by omega), if_pos (.inl h3)]; rfl
    rw [h3] at HK
    clear HR0
    go_enter Tryd.func4, Tryd.ntmps4
    go_wp2_with fail
    refine (HK.out _).mono ?_
    rintro e w1 ⟨rfl, rfl⟩
    go_wp2
    refine bodyPost_ret (v := .agg #[.int .i64 0, .slice none 0 0, .int .i64 0, .int .i64 1]) (by simp [results, Tryd.results4, go_sem]) rfl ?_
    unfold opC opQ
    rw [HR.out]
    exact ⟨_, rfl, OwnE.nil _ _, ent_new0 _ _⟩
  have h3' : inKey k = true := by simpa using h3
  rw [h3'] at HK
  by_cases h4 : inTime last = false
  · have HR : Hid (opR t k last = (0, [], 0, 1)) := by show _ = _; rw [HR0.out]; unfold whyC; rw [if_neg (by omega), if_pos (.inr h4)]; rfl
    rw [h4] at HT
    clear HR0
    go_enter Tryd.func4, Tryd.ntmps4
    go_wp2_with fail
    refine (HK.out _).mono ?_
    rintro e w1 ⟨rfl, rfl⟩
    go_wp2_with fail
    refine (HT.out _).mono ?_
    rintro e w1 ⟨rfl, rfl⟩
    go_wp2
    refine bodyPost_ret (v := .agg #[.int .i64 0, .slice none 0 0, .int .i64 0, .int .i64 1]) (by simp [results, Tryd.results4, go_sem]) rfl ?_
    unfold opC opQ
    rw [HR.out]
    exact ⟨_, rfl, OwnE.nil _ _, ent_new0 _ _⟩
  have h4' : inTime last = true := by simpa using h4
  rw [h4'] at HT
  have h5 : t.size < 28 := by
    rcases Nat.lt_or_ge t.size 28 with h | h
    · exact h
    · refine absurd ?_ h6
      unfold whyC
      rw [if_neg (by omega), if_neg (by rw [h3', h4']; simp), if_neg (by omega)]
  have HR : Hid (opR t k last = (0, [], 0, 4)) := by show _ = _; rw [HR0.out]; unfold whyC; rw [if_neg (by omega), if_neg (by rw [h3', h4']; simp), if_pos h5]; rfl
  have d5 : decide ((t.size : Int) < 28) = true := by simp; omega
  clear HR0
  go_enter Tryd.func4, Tryd.ntmps4
  go_wp2_with fail
  refine (HK.out _).mono ?_
  rintro e w1 ⟨rfl, rfl⟩
  go_wp2_with fail
  refine (HT.out _).mono ?_
  rintro e w1 ⟨rfl, rfl⟩
  go_wp2
  refine bodyPost_ret (v := .agg #[.int .i64 0, .slice none 0 0, .int .i64 0, .int .i64 4]) (by simp [results, Tryd.results4, go_sem]) rfl ?_
  unfold opC opQ
  rw [HR.out]
  exact ⟨_, rfl, OwnE.nil _ _, ent_new0 _ _⟩
end Go.Proofs.YtkkhjeigndcmaaaDoor
/- What the row's list gives a walk: the table of the rounds' keys, cell by cell. -/
namespace Go.Proofs.YtkkhjeigndcmaaaDoor
open Go.RowKit

theorem keys_type : (Tryd.prog.globals[6]?).map (·.type) = some 101 := by kernel_rfl
theorem laid_keys {W : World} {name : String} {rest : List (String × DataW Unit)} (hg : Tryd.prog.globalNamed name = some 6) (h : laidMet Tryd.prog ((name, Lib.tabData .u32 (keysN.map fun (x : Nat) => (x : Int))) :: rest) W) : Laid W := by
  have hT := Lib.tabIs_of_head hg keys_type Tryd.underlying101 Tryd.underlying78 (by kernel_rfl) (by kernel_rfl) h
  intro i hi
  have hc := hT.cell hg i (by simpa [keysN_length] using hi)
  rw [hc]
  have hlt : i < keysN.length := by rw [keysN_length]; exact hi
  simp [hlt]
end Go.Proofs.YtkkhjeigndcmaaaDoor
/- Five cells of a row written. -/
namespace Go.Proofs.YtkkhjeigndcmaaaDoor
open Go.RowKit Go.Sort

theorem set5 (A R : List Value) (k : Nat) (hA : A.length = k * 5) (z0 z1 z2 z3 z4 x0 x1 x2 x3 x4 : Value) : (((((A ++ ([z0, z1, z2, z3, z4] ++ R)).set (k * 5) x0).set (k * 5 + 1) x1).set (k * 5 + 2) x2).set (k * 5 + 3) x3).set (k * 5 + 4) x4 = A ++ ([x0, x1, x2, x3, x4] ++ R) := by
  have e : ∀ (L : List Value) (j : Nat) (x : Value), (A ++ L).set (k * 5 + j) x = A ++ L.set j x := fun L j x => by
    rw [List.set_append, if_neg (by omega), hA, Nat.add_sub_cancel_left]
  have e0 : ∀ (L : List Value) (x : Value), (A ++ L).set (k * 5) x = A ++ L.set 0 x := fun L x => e L 0 x
  rw [e0, e, e, e, e]
  rfl
theorem Row.some {w : World} {g : Nat} {t : TypeId} {l : List Value} (h : Row w g t l) (k : Nat) (hk : k < l.length) : ∃ v, w.cell? ⟨g, k, none⟩ = some v := ⟨l[k], by rw [h.cell, List.getElem?_eq_getElem hk]⟩
def five5 (w : World) (g o : Nat) (x0 x1 x2 x3 x4 : Value) : World := ((((w.setCell ⟨g, o, none⟩ x0).setCell ⟨g, o + 1, none⟩ x1).setCell ⟨g, o + 2, none⟩ x2).setCell ⟨g, o + 3, none⟩ x3).setCell ⟨g, o + 4, none⟩ x4
theorem five5_below {B : Nat} {w0 w : World} (h : Below B w0 w) (g o : Nat) (hg : B ≤ g) (x0 x1 x2 x3 x4 : Value) : Below B w0 (five5 w g o x0 x1 x2 x3 x4) :=
  ((((h.setCell (p := ⟨g, o, none⟩) hg x0).setCell (p := ⟨g, o + 1, none⟩) hg x1).setCell (p := ⟨g, o + 2, none⟩) hg x2).setCell (p := ⟨g, o + 3, none⟩) hg x3).setCell (p := ⟨g, o + 4, none⟩) hg x4
theorem five5_row {w : World} {g : Nat} {t : TypeId} {l : List Value} (h : Row w g t l) (o : Nat) (x0 x1 x2 x3 x4 : Value) : Row (five5 w g o x0 x1 x2 x3 x4) g t (((((l.set o x0).set (o + 1) x1).set (o + 2) x2).set (o + 3) x3).set (o + 4) x4) :=
  ((((h.set o x0).set (o + 1) x1).set (o + 2) x2).set (o + 3) x3).set (o + 4) x4
theorem five5_other {w : World} {b g : Nat} {t : TypeId} {l : List Value} (h : Row w b t l) (hne : b ≠ g) (o : Nat) (x0 x1 x2 x3 x4 : Value) : Row (five5 w g o x0 x1 x2 x3 x4) b t l :=
  ((((h.other o x0 hne).other (o + 1) x1 hne).other (o + 2) x2 hne).other (o + 3) x3 hne).other (o + 4) x4 hne
end Go.Proofs.YtkkhjeigndcmaaaDoor
/- The laws' own look: a net is as itself. -/
namespace Go.Proofs.YtkkhjeigndcmaaaDoor
open Go.RowKit Go.Sort

set_option maxRecDepth 100000 in
theorem eqNet_same (a l : Int) (w : World) : Calls Tryd.prog 66 #[netV a l, netV a l] w fun e w' => e = .returned (.bool true) ∧ Below w.heap.size w w' := by
  have h1 : (a != a) = false := by simp
  have h2 : (l != l) = false := by simp
  unfold netV
  go_enter Tryd.func66, Tryd.ntmps66
  go_wp2
  go_ret
  exact ⟨rfl, ((Below.refl _ _).alloc (Nat.le_refl _) _).alloc (by simp) _⟩
end Go.Proofs.YtkkhjeigndcmaaaDoor
/- The laws' own look: entries, lists of them and Rips are as themselves. -/
namespace Go.Proofs.YtkkhjeigndcmaaaDoor
open Go.RowKit Go.Sort

/-- Two boxes of five cells, one behind the other: what they hold behind a later call. -/
theorem boxes5 {w w1 : World} {x0 x1 x2 x3 x4 y0 y1 y2 y3 y4 : Value} {t u : TypeId} (h : Below ((w.alloc (.cells #[x0, x1, x2, x3, x4] t)).alloc (.cells #[y0, y1, y2, y3, y4] u)).heap.size ((w.alloc (.cells #[x0, x1, x2, x3, x4] t)).alloc (.cells #[y0, y1, y2, y3, y4] u)) w1) :
    (∀ k v, [x0, x1, x2, x3, x4][k]? = some v → w1.cell? ⟨w.heap.size, k, none⟩ = some v) ∧ (∀ k v, [y0, y1, y2, y3, y4][k]? = some v → w1.cell? ⟨w.heap.size + 1, k, none⟩ = some v) ∧ Below w.heap.size w w1 := by
  have q0 := (Row.new w t [x0, x1, x2, x3, x4]).alloc (.cells #[y0, y1, y2, y3, y4] u)
  have q1 := Row.new (w.alloc (.cells #[x0, x1, x2, x3, x4] t)) u [y0, y1, y2, y3, y4]
  have p0 := q0.below h q0.lt
  have p1 := q1.below h q1.lt
  have e1 : (w.alloc (.cells #[x0, x1, x2, x3, x4] t)).heap.size = w.heap.size + 1 := by simp
  rw [e1] at p1
  exact ⟨fun k v hv => (p0.cell k).trans hv, fun k v hv => (p1.cell k).trans hv, ((ent_new0 w _).alloc (by simp) _).trans (h.mono (by simp; omega))⟩
set_option maxRecDepth 100000 in
theorem eqEntry_same (e : Ent) (w : World) : Calls Tryd.prog 52 #[entV e, entV e] w fun r w' => r = .returned (.bool true) ∧ Below w.heap.size w w' := by
  obtain ⟨a, l, n, m, t⟩ := e
  unfold entV
  have HN : Hid (∀ w, Calls Tryd.prog 66 #[.agg #[.int .i64 a, .int .i64 l], .agg #[.int .i64 a, .int .i64 l]] w fun e w' => e = .returned (.bool true) ∧ Below w.heap.size w w') := eqNet_same a l
  have h1 : (n != n) = false := by simp
  have h2 : (m != m) = false := by simp
  have h3 : (t != t) = false := by simp
  go_enter Tryd.func52, Tryd.ntmps52
  go_wp2_with fail
  refine (HN.out _).mono ?_
  rintro e w1 ⟨rfl, hb1⟩
  obtain ⟨k0, k1, hB⟩ := boxes5 hb1
  have c2 := k0 2 _ rfl
  have c3 := k0 3 _ rfl
  have c4 := k0 4 _ rfl
  have d2 := k1 2 _ rfl
  have d3 := k1 3 _ rfl
  have d4 := k1 4 _ rfl
  clear k0 k1 hb1 HN
  go_wp2
  go_ret
  exact ⟨rfl, hB⟩
set_option maxRecDepth 100000 in
theorem eqEntryS_any (p q : Option Addr) (c d : Nat) (es : List Ent) (w : World) (hp : EntsIn w p es) (hq : EntsIn w q es) (hn : es.length ≤ 100000000) : Calls Tryd.prog 31 #[.slice p es.length c, .slice q es.length d] w fun r w' => r = .returned (.bool true) ∧ Below w.heap.size w w' := by
  have HE : Hid (∀ e w, Calls Tryd.prog 52 #[entV e, entV e] w fun r w' => r = .returned (.bool true) ∧ Below w.heap.size w w') := eqEntry_same
  have HX : Hid (EntsIn w p es ∧ EntsIn w q es) := ⟨hp, hq⟩
  have h0 : ((es.length : Int) != (es.length : Int)) = false := by simp
  clear hp hq
  go_enter Tryd.func31, Tryd.ntmps31
  go_wp2_with fail
  go_loopw [5] (fun i wr => ∃ k : Nat, k ≤ es.length ∧ i = .int .i64 k ∧ Below w.heap.size w wr) (fun i _ => es.length - (intOf i).toNat)
  case atStart => exact ⟨0, Nat.zero_le _, rfl, Below.refl _ _⟩
  case round =>
    obtain ⟨k, hk, rfl, hb⟩ := hrel
    by_cases hlt : k < es.length
    · obtain ⟨g, a, l, n, m, t, rfl, hg, hek, c0, c1, c2, c3, c4⟩ := (HX.out.1.below hb).at k hlt
      obtain ⟨g', a', l', n', m', t', rfl, hg', hek', d0, d1, d2, d3, d4⟩ := (HX.out.2.below hb).at k hlt
      rw [hek] at hek'
      simp only [Ent.mk.injEq] at hek'
      obtain ⟨rfl, rfl, rfl, rfl, rfl⟩ := hek'
      have HEk : Hid (∀ w, Calls Tryd.prog 52 #[.agg #[.int .i64 a, .int .i64 l, .int .i64 n, .int .i64 m, .int .i64 t], .agg #[.int .i64 a, .int .i64 l, .int .i64 n, .int .i64 m, .int .i64 t]] w fun r w' => r = .returned (.bool true) ∧ Below w.heap.size w w') := HE.out ⟨a, l, n, m, t⟩
      clear HE hek HX
      replace c0 := cell_regrown c0
      replace c1 := cell_regrown c1
      replace c2 := cell_regrown c2
      replace c3 := cell_regrown c3
      replace c4 := cell_regrown c4
      replace d0 := cell_regrown d0
      replace d1 := cell_regrown d1
      replace d2 := cell_regrown d2
      replace d3 := cell_regrown d3
      replace d4 := cell_regrown d4
      go_wp2_with fail
      refine wp_region_quiet_below (by kernel_rfl) (by kernel_rfl) ?_
      repeat (go_big_quiet_step ((go_at_call 52; exact Calls.regrown_of (HEk.out _))))
      refine wpQuiet_nil ?_
      intro w1 hw'
      obtain ⟨⟨dq, osq⟩, hw''⟩ := hw'
      have hbq := below_regrown wr dq osq
      rw [← hw''] at hbq
      clear hw'' osq dq c0 c1 c2 c3 c4 d0 d1 d2 d3 d4 HEk
      have hb2 := hb.trans (hbq.mono hb.size)
      clear hbq
      go_wp2
      go_roundw
      case rel => exact ⟨k + 1, hlt, by go_num, hb2⟩
      case measure => simp [intOf]; omega
    · obtain rfl : k = es.length := by omega
      clear hlt hk
      go_wp2
      go_ret
      exact ⟨rfl, hb⟩
set_option maxRecDepth 100000 in
theorem eqRip_any (x : Int) (p q : Option Addr) (c d : Nat) (es : List Ent) (w : World) (hp : EntsIn w p es) (hq : EntsIn w q es) (hn : es.length ≤ 100000000) : Calls Tryd.prog 17 #[ripV x p es.length c, ripV x q es.length d] w fun r w' => r = .returned (.bool true) ∧ Below w.heap.size w w' := by
  have HE : Hid (∀ w, EntsIn w p es → EntsIn w q es → Calls Tryd.prog 31 #[.slice p es.length c, .slice q es.length d] w fun r w' => r = .returned (.bool true) ∧ Below w.heap.size w w') := fun w h1 h2 => eqEntryS_any p q c d es w h1 h2 hn
  have HX : Hid (EntsIn w p es ∧ EntsIn w q es) := ⟨hp, hq⟩
  have h0 : (x != x) = false := by simp
  unfold ripV
  clear hp hq
  go_enter Tryd.func17, Tryd.ntmps17
  go_wp2_with fail
  refine (HE.out _ ((HX.out.1.alloc _).alloc _) ((HX.out.2.alloc _).alloc _)).mono ?_
  rintro e w1 ⟨rfl, hb1⟩
  have hB : Below w.heap.size w w1 := ((ent_new0 w _).alloc (by simp) _).trans (hb1.mono (by simp; omega))
  clear hb1 HE HX
  go_wp2
  go_ret
  exact ⟨rfl, hB⟩
end Go.Proofs.YtkkhjeigndcmaaaDoor
/- The laws' own marks in a list of entries: written, and looked for. -/
namespace Go.Proofs.YtkkhjeigndcmaaaDoor
open Go.RowKit Go.Sort

def markE (i : Nat) : Ent := ⟨1 + 5 * (i : Int), 2 + 5 * (i : Int), 3 + 5 * (i : Int), 4 + 5 * (i : Int), 5 + 5 * (i : Int)⟩
def marksE (n : Nat) : List Ent := (List.range n).map markE
theorem marksE_length (n : Nat) : (marksE n).length = n := by simp [marksE]
theorem OwnE.opened {w : World} {base : Nat} {p : Option Addr} {n cv : Nat} {es : List Ent} (h : OwnE w base (.slice p n cv) es) : n = es.length ∧ (es = [] ∨ ∃ g rest, p = some ⟨g, 0, none⟩ ∧ base ≤ g ∧ n ≤ cv ∧ cv ≤ maxLen ∧ Row w g 51 (rowE es ++ rest) ∧ (rowE es ++ rest).length = cv * 5) := by
  rcases h.2 with ⟨h1, h2⟩ | ⟨g, cap, cur, h1, h2, h3, h4, h5, h6, h7⟩
  · simp only [Value.slice.injEq] at h1
    exact ⟨by omega, .inl (List.length_eq_zero_iff.1 h2)⟩
  · simp only [Value.slice.injEq] at h1
    obtain ⟨rfl, rfl, rfl⟩ := h1
    refine ⟨rfl, .inr ⟨g, cur.toList.drop (es.length * 5), rfl, h2, h4, h5, ?_, ?_⟩⟩
    · unfold Row
      rw [← h7, List.take_append_drop]
      exact h3
    · rw [← h7, List.take_append_drop]; simpa using h6
theorem OwnE.shut {w : World} {base g n cv : Nat} {es : List Ent} {rest : List Value} (hn : n = es.length) (hb : base ≤ g) (h4 : n ≤ cv) (h5 : cv ≤ maxLen) (hr : Row w g 51 (rowE es ++ rest)) (hl : (rowE es ++ rest).length = cv * 5) : OwnE w base (.slice (some ⟨g, 0, none⟩) n cv) es := by
  subst hn
  exact ⟨by rw [rowE_length]; omega, .inr ⟨g, cv, _, rfl, hb, hr, h4, h5, by simpa using hl, by
    have : (rowE es).length = es.length * 5 := by rw [rowE_length]; omega
    simp only
    rw [← this]; simp⟩⟩
theorem marks_set (es : List Ent) (rest : List Value) (k : Nat) (hk : k < es.length) :
    (((((rowE (marksE k ++ es.drop k) ++ rest).set (k * 5) (.int .i64 (1 + 5 * (k : Int)))).set (k * 5 + 1) (.int .i64 (2 + 5 * (k : Int)))).set (k * 5 + 2) (.int .i64 (3 + 5 * (k : Int)))).set (k * 5 + 3) (.int .i64 (4 + 5 * (k : Int)))).set (k * 5 + 4) (.int .i64 (5 + 5 * (k : Int))) = rowE (marksE (k + 1) ++ es.drop (k + 1)) ++ rest := by
  have e1 : marksE (k + 1) = marksE k ++ [markE k] := by simp [marksE, List.range_succ]
  rw [List.drop_eq_getElem_cons hk, e1, rowE_append, rowE_cons, List.append_assoc (marksE k), rowE_append, List.singleton_append, rowE_cons, List.append_assoc, List.append_assoc, List.append_assoc, List.append_assoc]
  exact set5 _ _ k (by rw [rowE_length, marksE_length]; omega) _ _ _ _ _ _ _ _ _ _
theorem entsIn_rest {w : World} {g : Nat} {t : TypeId} {es : List Ent} {rest : List Value} (h : Row w g t (rowE es ++ rest)) : EntsIn w (some ⟨g, 0, none⟩) es := .inr ⟨g, rfl, h.lt, fun j u hj => by rw [h.cell, List.getElem?_append_left (List.getElem?_eq_some_iff.1 hj).1]; exact hj⟩
set_option maxRecDepth 100000 in
set_option maxHeartbeats 1000000 in
theorem markEntryS_in (g n cv : Nat) (es : List Ent) (rest : List Value) (w : World) (hn : n = es.length) (h8 : n ≤ 1000) (hr : Row w g 51 (rowE es ++ rest)) :
    Calls Tryd.prog 32 #[.slice (some ⟨g, 0, none⟩) n cv, .int .i64 1] w fun e w' => e = .returned (.int .i64 (1 + 5 * (n : Int))) ∧ Row w' g 51 (rowE (marksE n) ++ rest) ∧ Below g w w' ∧ ∀ b t l, b ≠ g → Row w b t l → Row w' b t l := by
  have HN : Hid (n = es.length) := hn
  have hr0 : Row w g 51 (rowE (marksE 0 ++ es.drop 0) ++ rest) := hr
  clear hn hr
  go_enter Tryd.func32, Tryd.ntmps32
  go_wp2_with fail
  go_loopw [5, 1] (fun i m wr => ∃ k : Nat, k ≤ n ∧ i = .int .i64 k ∧ m = .int .i64 (1 + 5 * (k : Int)) ∧ Row wr g 51 (rowE (marksE k ++ es.drop k) ++ rest) ∧ Below g w wr ∧ ∀ b t l, b ≠ g → Row w b t l → Row wr b t l) (fun i _ _ => n - (intOf i).toNat)
  case atStart => exact ⟨0, Nat.zero_le _, rfl, rfl, hr0, Below.refl _ _, fun _ _ _ _ h => h⟩
  case round =>
    obtain ⟨k, hk, rfl, rfl, hr, hb, hoth⟩ := hrel
    have HOT : Hid (∀ b t l, b ≠ g → Row w b t l → Row wr b t l) := hoth
    clear hr0 hoth
    by_cases hlt : k < n
    · have hlen : (marksE k ++ es.drop k).length = n := by rw [List.length_append, marksE_length, List.length_drop, ← HN.out]; omega
      have hlr : k * 5 + 4 < (rowE (marksE k ++ es.drop k) ++ rest).length := by rw [List.length_append, rowE_length, hlen]; omega
      obtain ⟨z0, c0⟩ := Row.some hr (k * 5) (by omega)
      obtain ⟨z1, c1⟩ := Row.some hr (k * 5 + 1) (by omega)
      obtain ⟨z2, c2⟩ := Row.some hr (k * 5 + 2) (by omega)
      obtain ⟨z3, c3⟩ := Row.some hr (k * 5 + 3) (by omega)
      obtain ⟨z4, c4⟩ := Row.some hr (k * 5 + 4) (by omega)
      have f0 := hr.frozen (k * 5)
      have f1 := hr.frozen (k * 5 + 1)
      have f2 := hr.frozen (k * 5 + 2)
      have f3 := hr.frozen (k * 5 + 3)
      have f4 := hr.frozen (k * 5 + 4)
      have hr2 := five5_row hr (k * 5) (.int .i64 (1 + 5 * (k : Int))) (.int .i64 (2 + 5 * (k : Int))) (.int .i64 (3 + 5 * (k : Int))) (.int .i64 (4 + 5 * (k : Int))) (.int .i64 (5 + 5 * (k : Int)))
      rw [marks_set es rest k (by rw [← HN.out]; exact hlt)] at hr2
      have hB2 := five5_below hb g (k * 5) (Nat.le_refl _) (.int .i64 (1 + 5 * (k : Int))) (.int .i64 (2 + 5 * (k : Int))) (.int .i64 (3 + 5 * (k : Int))) (.int .i64 (4 + 5 * (k : Int))) (.int .i64 (5 + 5 * (k : Int)))
      have hO2 := fun b t l (hne : b ≠ g) (h : Row w b t l) => five5_other (HOT.out b t l hne h) hne (k * 5) (.int .i64 (1 + 5 * (k : Int))) (.int .i64 (2 + 5 * (k : Int))) (.int .i64 (3 + 5 * (k : Int))) (.int .i64 (4 + 5 * (k : Int))) (.int .i64 (5 + 5 * (k : Int)))
      unfold five5 at hr2 hB2 hO2
      have HH : Hid _ := And.intro hr2 (And.intro hB2 hO2)
      clear hr hb hr2 hB2 hlen hlr hO2 HOT
      go_wp2_with fail
      rw [show 1 + 5 * (k : Int) + 1 + 1 + 1 + 1 + 1 = 1 + 5 * ((k + 1 : Nat) : Int) by omega, show 1 + 5 * (k : Int) + 1 + 1 + 1 + 1 = 5 + 5 * (k : Int) by omega, show 1 + 5 * (k : Int) + 1 + 1 + 1 = 4 + 5 * (k : Int) by omega, show 1 + 5 * (k : Int) + 1 + 1 = 3 + 5 * (k : Int) by omega, show 1 + 5 * (k : Int) + 1 = 2 + 5 * (k : Int) by omega]
      refine ⟨⟨k + 1, hlt, by go_num, rfl, HH.out.1, HH.out.2.1, HH.out.2.2⟩, ?_⟩
      simp [intOf]
      omega
    · obtain rfl : k = n := by omega
      have hre : marksE k ++ es.drop k = marksE k := by rw [HN.out, List.drop_length, List.append_nil]
      rw [hre] at hr
      clear hlt hk hre
      go_wp2
      go_ret
      exact ⟨rfl, hr, hb, HOT.out⟩
set_option maxRecDepth 100000 in
set_option maxHeartbeats 1000000 in
theorem heldEntryS_in (p : Option Addr) (n cv : Nat) (w : World) (h8 : n ≤ 1000) (hE : EntsIn w p (marksE n)) :
    Calls Tryd.prog 33 #[.slice p n cv, .int .i64 1] w fun e w' => e = .returned (.int .i64 (1 + 5 * (n : Int))) ∧ w = w' := by
  have HX : Hid (EntsIn w p (marksE n)) := hE
  clear hE
  go_enter Tryd.func33, Tryd.ntmps33
  go_wp2_with fail
  go_loop [5, 1] (fun i m => ∃ k : Nat, k ≤ n ∧ i = .int .i64 k ∧ m = .int .i64 (1 + 5 * (k : Int))) (fun i _ => n - (intOf i).toNat)
  case atStart => exact ⟨0, Nat.zero_le _, rfl, rfl⟩
  case round =>
    obtain ⟨k, hk, rfl, rfl⟩ := hrel
    by_cases hlt : k < n
    · obtain ⟨g, a, l, m, mt, tg, rfl, hg, hek, c0, c1, c2, c3, c4⟩ := HX.out.at k (by rw [marksE_length]; exact hlt)
      have hmk : (marksE n)[k]'(by rw [marksE_length]; exact hlt) = markE k := by simp [marksE]
      rw [hmk] at hek
      simp only [markE, Ent.mk.injEq] at hek
      obtain ⟨rfl, rfl, rfl, rfl, rfl⟩ := hek
      rw [show 2 + 5 * (k : Int) = 1 + 5 * (k : Int) + 1 by omega] at c1
      rw [show 3 + 5 * (k : Int) = 1 + 5 * (k : Int) + 1 + 1 by omega] at c2
      rw [show 4 + 5 * (k : Int) = 1 + 5 * (k : Int) + 1 + 1 + 1 by omega] at c3
      rw [show 5 + 5 * (k : Int) = 1 + 5 * (k : Int) + 1 + 1 + 1 + 1 by omega] at c4
      clear hmk
      go_wp2_with fail
      refine ⟨⟨k + 1, hlt, by go_num, by go_num⟩, ?_⟩
      simp [intOf]
      omega
    · obtain rfl : k = n := by omega
      clear hlt hk
      go_wp2
      go_ret
      exact ⟨rfl, rfl⟩
end Go.Proofs.YtkkhjeigndcmaaaDoor
