/- Texts that stand on each other, in one file: RipOfA, SignM, SliceT, KeyI, WhyI, OpenM, SgnI, SgnJ, RdO, RipOpenI, RdR, WordS, FourS, RipS, GetN. -/
import Derived.Test.YtkkhjeigndcmaaaDoorPack2
import Derived.Test.YtkkhjeigndcmaaaDoorPack1
import Derived.Test.YtkkhjeigndcmaaaDoorShaMath
import Derived.Test.YtkkhjeigndcmaaaDoorBaseB
import Derived.Test.YtkkhjeigndcmaaaDoorMacI
import Derived.Test.YtkkhjeigndcmaaaDoorTail
import Derived.Test.YtkkhjeigndcmaaaDoorOwnV
import Derived.Laws.ShiftsVarLaws
/- What routers say, read by the program: at every text. -/
namespace Go.Proofs.YtkkhjeigndcmaaaDoor
open Go.RowKit Go.Sort

set_option maxRecDepth 100000 in
theorem ripOf_any (b : List UInt8) (g cap : Nat) (w : World) (A : Nat → Addr) (hz : b.length ≤ 8000) (hc : b.length ≤ cap) (hB : BytesIn w g 0 b) (hg : g < w.heap.size) (hE : ErrsIn w A) :
    Calls Tryd.prog 29 #[.slice (some ⟨g, 0, none⟩) b.length cap] w fun e w' => OfOut b A w w' e := by
  by_cases h4 : 4 ≤ b.length
  · by_cases hh : numL (cutL b 1 4) = 131072
    · exact ripOf_in b g cap w A h4 hh hz hc hB hg hE
    · have HP1 : Hid (∀ w, Calls Tryd.prog 45 #[.slice (some ⟨g, 0, none⟩) b.length cap, .int .i64 1, .int .i64 4] w fun e w' => e = .returned (.slice (some ⟨g, 1, none⟩) 3 3) ∧ w = w') := piece_off g 0 b.length cap 1 4 1 4 rfl rfl (by omega) (by omega) _ _ rfl rfl
      have HN1 : Hid (∀ w, BytesIn w g 1 (cutL b 1 4) → Calls Tryd.prog 44 #[.slice (some ⟨g, 1, none⟩) 3 3] w fun e w' => e = .returned (.int .i64 (numL (cutL b 1 4) : Nat)) ∧ w = w') := number_off b g 1 1 4 3 rfl (by omega) (by omega)
      have HB : Hid (BytesIn (w.alloc (.cells #[.int .i64 0, .slice none 0 0] 24)) g 1 (cutL b 1 4)) := (hB.below (ent_new0 w _) hg).off 1 4 h4 (by omega) _ rfl
      have HN0 : Hid (ripOfR b = none) := ripOfR_head (.inr hh)
      have dn : (((numL (cutL b 1 4) : Nat) : Int) != 131072) = true := by simp; omega
      have d4 : decide ((b.length : Int) < 4) = false := by simp; omega
      have hgE : 1 < w.heap.size := World.block_lt_of_cell? w _ (hE.1 4 (by omega))
      have hgE2 : ¬ 1 = w.heap.size := by omega
      have hgE3 : ¬ w.heap.size = 1 := by omega
      have hE1 := hE.below (ent_new0 w (.cells #[.int .i64 0, .slice none 0 0] 24))
      have cE : (w.alloc (.cells #[.int .i64 0, .slice none 0 0] 24)).cell? ⟨1, 0, none⟩ = some (.iface 107 (.pointer (some (A 4)))) := hE1.1 4 (by omega)
      have HQ0 : Hid (Row (w.alloc (.cells #[.int .i64 0, .slice none 0 0] 24)) w.heap.size 24 [.int .i64 0, .slice none 0 0]) := Row.new w _ _
      have c0 : (w.alloc (.cells #[.int .i64 0, .slice none 0 0] 24)).cell? ⟨w.heap.size, 0, none⟩ = some (.int .i64 0) := HQ0.out.cell 0
      have c1 : (w.alloc (.cells #[.int .i64 0, .slice none 0 0] 24)).cell? ⟨w.heap.size, 1, none⟩ = some (.slice none 0 0) := HQ0.out.cell 1
      have f0 := HQ0.out.frozen 0
      have f1 := HQ0.out.frozen 1
      have hbl := ent_new0 w (.cells #[.int .i64 0, .slice none 0 0] 24)
      clear hE1 hE hB hh
      generalize numL (cutL b 1 4) = X at *
      generalize hWW : w.alloc (.cells #[.int .i64 0, .slice none 0 0] 24) = W at *
      have HWW : Hid _ := hWW
      clear hWW
      go_enter Tryd.func29, Tryd.ntmps29
      go_wp2_with fail
      rw [HWW.out]
      refine wp_scope_labels (fun _ _ _ => False) (fun _ _ _ => 0) ?_ (fun _ _ _ h => h.elim)
      go_wp2_with fail
      refine (HP1.out _).mono ?_
      rintro e w1 ⟨rfl, rfl⟩
      go_wp2_with fail
      refine (HN1.out _ HB.out).mono ?_
      rintro e w1 ⟨rfl, rfl⟩
      go_wp2_with fail
      go_region
      all_goals have g0 : (W.setCell ⟨w.heap.size, 0, none⟩ (.int .i64 0)).cell? ⟨w.heap.size, 0, none⟩ = some (.int .i64 0) := (HQ0.out.set 0 _).cell 0
      all_goals have g1 : ((W.setCell ⟨w.heap.size, 0, none⟩ (.int .i64 0)).setCell ⟨w.heap.size, 1, none⟩ (.slice none 0 0)).cell? ⟨w.heap.size, 1, none⟩ = some (.slice none 0 0) := ((HQ0.out.set 0 _).set 1 _).cell 1
      all_goals (try go_wp2)
      all_goals (simp only [Exit.jumps])
      all_goals (refine bodyPost_ret (v := .tuple #[.agg #[.int .i64 0, .slice none 0 0], .int .i64 0, .iface 107 (.pointer (some (A 4)))]) (by simp [results, Tryd.results29, go_sem, g0, g1]) rfl (OfOut.no HN0.out rfl ?_))
      all_goals exact bel_two hbl
  · have HN0 : Hid (ripOfR b = none) := ripOfR_head (.inl (by omega))
    have d4 : decide ((b.length : Int) < 4) = true := by simp; omega
    have hgE : 1 < w.heap.size := World.block_lt_of_cell? w _ (hE.1 4 (by omega))
    have hgE2 : ¬ 1 = w.heap.size := by omega
    have hgE3 : ¬ w.heap.size = 1 := by omega
    have hE1 := hE.below (ent_new0 w (.cells #[.int .i64 0, .slice none 0 0] 24))
    have cE : (w.alloc (.cells #[.int .i64 0, .slice none 0 0] 24)).cell? ⟨1, 0, none⟩ = some (.iface 107 (.pointer (some (A 4)))) := hE1.1 4 (by omega)
    have HQ0 : Hid (Row (w.alloc (.cells #[.int .i64 0, .slice none 0 0] 24)) w.heap.size 24 [.int .i64 0, .slice none 0 0]) := Row.new w _ _
    have c0 : (w.alloc (.cells #[.int .i64 0, .slice none 0 0] 24)).cell? ⟨w.heap.size, 0, none⟩ = some (.int .i64 0) := HQ0.out.cell 0
    have c1 : (w.alloc (.cells #[.int .i64 0, .slice none 0 0] 24)).cell? ⟨w.heap.size, 1, none⟩ = some (.slice none 0 0) := HQ0.out.cell 1
    have f0 := HQ0.out.frozen 0
    have f1 := HQ0.out.frozen 1
    have hbl := ent_new0 w (.cells #[.int .i64 0, .slice none 0 0] 24)
    clear hE1 hE hB
    generalize hWW : w.alloc (.cells #[.int .i64 0, .slice none 0 0] 24) = W at *
    have HWW : Hid _ := hWW
    clear hWW
    go_enter Tryd.func29, Tryd.ntmps29
    go_wp2_with fail
    rw [HWW.out]
    refine wp_scope_labels (fun _ _ _ => False) (fun _ _ _ => 0) ?_ (fun _ _ _ h => h.elim)
    go_wp2_with fail
    go_region
    all_goals have g0 : (W.setCell ⟨w.heap.size, 0, none⟩ (.int .i64 0)).cell? ⟨w.heap.size, 0, none⟩ = some (.int .i64 0) := (HQ0.out.set 0 _).cell 0
    all_goals have g1 : ((W.setCell ⟨w.heap.size, 0, none⟩ (.int .i64 0)).setCell ⟨w.heap.size, 1, none⟩ (.slice none 0 0)).cell? ⟨w.heap.size, 1, none⟩ = some (.slice none 0 0) := ((HQ0.out.set 0 _).set 1 _).cell 1
    all_goals (try go_wp2)
    all_goals (simp only [Exit.jumps])
    all_goals (refine bodyPost_ret (v := .tuple #[.agg #[.int .i64 0, .slice none 0 0], .int .i64 0, .iface 107 (.pointer (some (A 4)))]) (by simp [results, Tryd.results29, go_sem, g0, g1]) rfl (OfOut.no HN0.out rfl ?_))
    all_goals exact bel_two hbl
end Go.Proofs.YtkkhjeigndcmaaaDoor
/- What is signed, in plain texts. -/
namespace Go.Proofs.YtkkhjeigndcmaaaDoor
open Go.RowKit Go.Sort

def markL (seq : Int) : List UInt8 := wordsL [65535, 3, seq / 65536, seq]
theorem markL_length (seq : Int) : (markL seq).length = 8 := rfl
def markT (seq : Int) : ByteArray := ⟨(markL seq).toArray⟩
theorem markT_size (seq : Int) : (markT seq).size = 8 := rfl
def aheadT (c : Int) (es : List Ent) (seq : Int) : ByteArray := ripT c es ++ markT seq
theorem aheadT_size (c : Int) (es : List Ent) (seq : Int) : (aheadT c es seq).size = 12 + 20 * es.length := by
  unfold aheadT; rw [ByteArray.size_append, ripT_size, markT_size]; omega
def aheadO (c : Int) (es : List Ent) (seq : Int) : ByteArray := if ripB c es = true ∧ inSeq seq = true then aheadT c es seq else ByteArray.empty
def shortT (k t : ByteArray) : ByteArray := (macT k t).extract 0 16
theorem shortT_size (k t : ByteArray) : (shortT k t).size = 16 := by
  unfold shortT; rw [ByteArray.size_extract, macT_size]; rfl
def signT (c : Int) (es : List Ent) (k : ByteArray) (seq : Int) : ByteArray := aheadT c es seq ++ shortT k (aheadT c es seq)
theorem signT_size (c : Int) (es : List Ent) (k : ByteArray) (seq : Int) : (signT c es k seq).size = 28 + 20 * es.length := by
  unfold signT; rw [ByteArray.size_append, aheadT_size, shortT_size]; omega
def signO (c : Int) (es : List Ent) (k : ByteArray) (seq : Int) : ByteArray := if ripB c es = true ∧ inSeq seq = true ∧ inKey k = true then signT c es k seq else ByteArray.empty
theorem text_pos {a : ByteArray} (h : a.size ≠ 0) : a.toList.isEmpty = false := by
  rw [ByteArray.toList_eq, List.isEmpty_eq_false_iff]
  intro e
  exact h (by have := congrArg List.length e; simpa using this)
end Go.Proofs.YtkkhjeigndcmaaaDoor
/- Texts cut. -/
namespace Go.Proofs.YtkkhjeigndcmaaaDoor
open Go.RowKit

theorem extract_list (t : ByteArray) (a b : Nat) : (t.extract a b).data.toList = (t.data.toList.take b).drop a := by
  simp [ByteArray.extract, ByteArray.copySlice, List.drop_take]
theorem slice_to (t : ByteArray) (a b : Nat) (x y : Int) (hx : x = a) (hy : y = b) (hab : a ≤ b) (hb : b ≤ t.size) (w : World) : (Instr.slice 9 (.string t) (some (.int .i64 x)) (some (.int .i64 y)) none).run Tryd.prog w = .ok (.string (t.extract a b)) w := by
  rw [run_slice_string _ _ _ _ _ _ _ Tryd.underlying9 (by omega) (by omega) (by omega), hx, hy]; rfl
theorem slice_on (t : ByteArray) (i : Int) (n : Nat) (hi : i = n) (hn : n ≤ t.size) (w : World) : (Instr.slice 9 (.string t) (some (.int .i64 i)) none none).run Tryd.prog w = .ok (.string (t.extract n t.size)) w := by
  rw [run_slice_string_from_if _ _ _ _ _ Tryd.underlying9, if_pos (by omega), hi]; rfl
theorem slice_upto (t : ByteArray) (y : Int) (b : Nat) (hy : y = b) (hb : b ≤ t.size) (w : World) : (Instr.slice 9 (.string t) none (some (.int .i64 y)) none).run Tryd.prog w = .ok (.string (t.extract 0 b)) w := by
  rw [run_slice_string_to_if _ _ _ _ _ Tryd.underlying9, if_pos (by omega), hy]; rfl
end Go.Proofs.YtkkhjeigndcmaaaDoor
/- Keys and short macs, of the program. -/
namespace Go.Proofs.YtkkhjeigndcmaaaDoor
open Go.RowKit Go.Sort

set_option maxRecDepth 100000 in
theorem keyRight_any (k : ByteArray) (w : World) (hk : k.size ≤ maxLen) : Calls Tryd.prog 41 #[.string k] w fun e w' => e = .returned (.bool (inKey k)) ∧ w = w' := by
  unfold maxLen at hk
  by_cases h1 : 1 ≤ k.size
  · have d1 : decide (1 ≤ (k.size : Int)) = true := by simp; omega
    by_cases h2 : k.size ≤ 32
    · have d2 : decide ((k.size : Int) ≤ 32) = true := by simp; omega
      have HE : Hid (inKey k = true) := by show decide _ = true; simp [h1, h2]
      rw [HE.out]
      go_enter Tryd.func41, Tryd.ntmps41
      go_wp2
      go_ret
      exact ⟨rfl, rfl⟩
    · have d2 : decide ((k.size : Int) ≤ 32) = false := by simp; omega
      have HE : Hid (inKey k = false) := by show decide _ = false; simp; omega
      rw [HE.out]
      go_enter Tryd.func41, Tryd.ntmps41
      go_wp2
      go_ret
      exact ⟨rfl, rfl⟩
  · have d1 : decide (1 ≤ (k.size : Int)) = false := by simp; omega
    have HE : Hid (inKey k = false) := by show decide _ = false; simp; omega
    rw [HE.out]
    go_enter Tryd.func41, Tryd.ntmps41
    go_wp2
    go_ret
    exact ⟨rfl, rfl⟩
set_option maxRecDepth 100000 in
theorem shortMac_any (k t : ByteArray) (w : World) (h1 : k.size ≤ 8000) (h2 : t.size ≤ 8000) (hL : Laid w) : Calls Tryd.prog 28 #[.string k, .string t] w fun e w' => e = .returned (.string (shortT k t)) ∧ Below w.heap.size w w' := by
  have HM : Hid (∀ w, Laid w → Calls Tryd.prog 43 #[.string k, .string t] w fun e w' => e = .returned (.string (macT k t)) ∧ Below w.heap.size w w') := fun w hL => implMac_in k t w h1 h2 hL
  have HS : Hid (∀ w, (Instr.slice 9 (.string (macT k t)) none (some (.int .i64 16)) none).run Tryd.prog w = .ok (.string (shortT k t)) w) := fun w => slice_upto (macT k t) 16 16 rfl (by rw [macT_size]; omega) w
  generalize shortT k t = S at *
  generalize macT k t = M at *
  go_enter Tryd.func28, Tryd.ntmps28
  go_wp2_with fail
  refine (HM.out _ hL).mono ?_
  rintro e w1 ⟨rfl, hb1⟩
  have hs := HS.out w1
  go_wp2
  go_ret
  exact ⟨rfl, hb1⟩
end Go.Proofs.YtkkhjeigndcmaaaDoor
/- What is wrong ahead of the mac, of the program. -/
namespace Go.Proofs.YtkkhjeigndcmaaaDoor
open Go.RowKit Go.Sort

/-- Which error is told ahead of the mac; 6: none. -/
def whyC (t k : ByteArray) (last : Int) : Nat := if 8000 < t.size ∨ 8000 < k.size then 0 else if inKey k = false ∨ inTime last = false then 1 else if t.size < 28 then 2 else 6
def whyV (A : Nat → Addr) (i : Nat) : Value := if i = 6 then .nilIface else errV (A i)
set_option maxRecDepth 100000 in
theorem whyNotOpen_any (t k : ByteArray) (last : Int) (w : World) (A : Nat → Addr) (hz : t.size ≤ 1048576) (hk : k.size ≤ 1048576) (hE : ErrsIn w A) :
    Calls Tryd.prog 27 #[.string t, .string k, .int .i64 last] w fun e w' => e = .returned (whyV A (whyC t k last)) ∧ w = w' := by
  have c0 : w.cell? ⟨3, 0, none⟩ = some (.iface 107 (.pointer (some (A 0)))) := hE.1 0 (by omega)
  have c1 : w.cell? ⟨4, 0, none⟩ = some (.iface 107 (.pointer (some (A 1)))) := hE.1 1 (by omega)
  have c2 : w.cell? ⟨5, 0, none⟩ = some (.iface 107 (.pointer (some (A 2)))) := hE.1 2 (by omega)
  have HK : Hid (∀ w, Calls Tryd.prog 41 #[.string k] w fun e w' => e = .returned (.bool (inKey k)) ∧ w = w') := fun w => keyRight_any k w (by unfold maxLen; omega)
  have HT : Hid (∀ w, Calls Tryd.prog 42 #[.int .i64 last] w fun e w' => e = .returned (.bool (inTime last)) ∧ w = w') := isTime_any last
  clear hE
  by_cases h1 : 8000 < t.size
  · have d1 : decide (8000 < (t.size : Int)) = true := by simp; omega
    have HV : Hid (whyV A (whyC t k last) = .iface 107 (.pointer (some (A 0)))) := by unfold whyC; rw [if_pos (.inl h1)]; rfl
    rw [HV.out]
    go_enter Tryd.func27, Tryd.ntmps27
    go_wp2
    go_ret
    exact ⟨rfl, rfl⟩
  have d1 : decide (8000 < (t.size : Int)) = false := by simp; omega
  by_cases h2 : 8000 < k.size
  · have d2 : decide (8000 < (k.size : Int)) = true := by simp; omega
    have HV : Hid (whyV A (whyC t k last) = .iface 107 (.pointer (some (A 0)))) := by unfold whyC; rw [if_pos (.inr h2)]; rfl
    rw [HV.out]
    go_enter Tryd.func27, Tryd.ntmps27
    go_wp2
    go_ret
    exact ⟨rfl, rfl⟩
  have d2 : decide (8000 < (k.size : Int)) = false := by simp; omega
  by_cases h3 : inKey k = true
  · by_cases h4 : inTime last = true
    · by_cases h5 : t.size < 28
      · have d5 : decide ((t.size : Int) < 28) = true := by simp; omega
        have HV : Hid (whyV A (whyC t k last) = .iface 107 (.pointer (some (A 2)))) := by unfold whyC; rw [if_neg (by omega), if_neg (by simp [h3, h4]), if_pos h5]; rfl
        rw [HV.out]
        rw [h3] at HK
        rw [h4] at HT
        go_enter Tryd.func27, Tryd.ntmps27
        go_wp2_with fail
        refine (HK.out _).mono ?_
        rintro e w1 ⟨rfl, rfl⟩
        go_wp2_with fail
        refine (HT.out _).mono ?_
        rintro e w1 ⟨rfl, rfl⟩
        go_wp2
        go_ret
        exact ⟨rfl, rfl⟩
      · have d5 : decide ((t.size : Int) < 28) = false := by simp; omega
        have HV : Hid (whyV A (whyC t k last) = .nilIface) := by unfold whyC; rw [if_neg (by omega), if_neg (by simp [h3, h4]), if_neg h5]; rfl
        rw [HV.out]
        rw [h3] at HK
        rw [h4] at HT
        go_enter Tryd.func27, Tryd.ntmps27
        go_wp2_with fail
        refine (HK.out _).mono ?_
        rintro e w1 ⟨rfl, rfl⟩
        go_wp2_with fail
        refine (HT.out _).mono ?_
        rintro e w1 ⟨rfl, rfl⟩
        go_wp2
        go_ret
        exact ⟨rfl, rfl⟩
    · have h4' : inTime last = false := by simpa using h4
      have HV : Hid (whyV A (whyC t k last) = .iface 107 (.pointer (some (A 1)))) := by unfold whyC; rw [if_neg (by omega), if_pos (.inr h4')]; rfl
      rw [HV.out]
      rw [h3] at HK
      rw [h4'] at HT
      go_enter Tryd.func27, Tryd.ntmps27
      go_wp2_with fail
      refine (HK.out _).mono ?_
      rintro e w1 ⟨rfl, rfl⟩
      go_wp2_with fail
      refine (HT.out _).mono ?_
      rintro e w1 ⟨rfl, rfl⟩
      go_wp2
      go_ret
      exact ⟨rfl, rfl⟩
  · have h3' : inKey k = false := by simpa using h3
    have HV : Hid (whyV A (whyC t k last) = .iface 107 (.pointer (some (A 1)))) := by unfold whyC; rw [if_neg (by omega), if_pos (.inl h3')]; rfl
    rw [HV.out]
    rw [h3'] at HK
    go_enter Tryd.func27, Tryd.ntmps27
    go_wp2_with fail
    refine (HK.out _).mono ?_
    rintro e w1 ⟨rfl, rfl⟩
    go_wp2
    go_ret
    exact ⟨rfl, rfl⟩
end Go.Proofs.YtkkhjeigndcmaaaDoor
/- What is signed, read: the program's loop and the model answer alike, in plain lists of bytes. -/
namespace Go.Proofs.YtkkhjeigndcmaaaDoor
open Go.RowKit Go.Sort

theorem inSeq_spec {q : Int} (h : inSeq q = true) : 1 ≤ q ∧ q ≤ 1000000000 := by
  unfold inSeq at h
  simp at h
  omega
theorem mark_num (q : Int) (h0 : 0 ≤ q) (h1 : q ≤ 4294967295) : markN (markL q) = q := by
  have e : cutL (markL q) 4 8 = wordL (q / 65536) ++ wordL q := rfl
  unfold markN
  rw [e, num_four q h0 h1]
theorem mark_is (q : Int) : isMark (markL q) := ⟨by rw [markL_length]; omega, rfl⟩
theorem mark_not_ent (q : Int) : ¬ isEnt (markL q) := fun h => by have := h.1; rw [markL_length] at this; omega
theorem ripOfR_signed (c : Int) (es : List Ent) (h : ripB c es = true) (q : Int) (hq : inSeq q = true) : ripOfR (ripL c es ++ markL q) = some (c, es, q) := by
  obtain ⟨hc, h8, ha⟩ := ripB_spec h
  obtain ⟨q0, q1⟩ := inSeq_spec hq
  have hd := ripL_drop c es (markL q)
  obtain ⟨e1, e2, e3⟩ := ents_end es ha (markL q)
  have hcm := hd_cmd c hc (entsBy es ++ markL q)
  have hl : ripL c es ++ markL q = ripHd c ++ (entsBy es ++ markL q) := by rw [ripL, List.append_assoc]
  have hlen : 4 ≤ (ripL c es ++ markL q).length := by rw [List.length_append, ripL_length]; omega
  rw [ripOfR_mark (b := ripL c es ++ markL q) hlen (by rw [hl]; exact hcm.2) es.length (by rw [hd]; exact e1) (by rw [hd, e2]; exact mark_not_ent q) (by rw [hd, e2]; exact mark_is q), hd, e2, e3,
    show (numL (cutL (ripL c es ++ markL q) 0 1) : Int) = c by rw [hl]; exact hcm.1, mark_num q (by omega) (by omega), if_pos ⟨hq, markL_length q, h⟩]
theorem mark_read (l : List UInt8) (h : isMark l) (h8 : l.length = 8) : markL (markN l) = l := by
  obtain ⟨b0, b1, b2, b3, r, rfl, _⟩ := list4 4 (l := l) (by omega)
  obtain ⟨b4, b5, b6, b7, r', rfl, _⟩ := list4 0 (l := r) (by simp at h8; omega)
  have hr : r' = [] := List.length_eq_zero_iff.1 (by simp only [List.length_cons] at h8; omega)
  subst hr
  have h4 := h.2
  simp only [List.take_succ_cons, List.take_zero, List.cons.injEq, and_true] at h4
  obtain ⟨rfl, rfl, rfl, rfl⟩ := h4
  have e : markN [255, 255, 0, 3, b4, b5, b6, b7] = ((numL [b4, b5, b6, b7] : Nat) : Int) := rfl
  rw [e]
  unfold markL
  rw [show wordsL [65535, 3, ((numL [b4, b5, b6, b7] : Nat) : Int) / 65536, ((numL [b4, b5, b6, b7] : Nat) : Int)] = wordL 65535 ++ (wordL 3 ++ (wordL (((numL [b4, b5, b6, b7] : Nat) : Int) / 65536) ++ wordL ((numL [b4, b5, b6, b7] : Nat) : Int))) by simp [wordsL], four_num]
  rfl
theorem ripOfR_seq {b : List UInt8} {c : Int} {es : List Ent} {q : Int} (h : ripOfR b = some (c, es, q)) (hq : q ≠ 0) : ripB c es = true ∧ inSeq q = true ∧ b = ripL c es ++ markL q := by
  unfold ripOfR at h
  split at h
  · cases h
  · rename_i h4
    have h4' : 4 ≤ b.length := by omega
    have hh : numL (cutL b 1 4) = 131072 := by
      by_cases hx : numL (cutL b 1 4) = 131072
      · exact hx
      · exact absurd (.inr hx) h4
    split at h
    · rename_i hmk
      split at h
      · rename_i hm
        simp only [Option.some.injEq, Prod.mk.injEq] at h
        obtain ⟨h1, h2, h3⟩ := h
        obtain ⟨hto, _⟩ := countE_to (b.drop 4).length (b.drop 4) (Nat.le_refl _)
        have hb := hm.2.2
        have hs := hm.1
        have hl8 := hm.2.1
        rw [h1, h2] at hb
        rw [h3] at hs
        obtain ⟨hc, _, ha⟩ := ripB_spec hb
        have htx := EntsTo.text _ _ hto (by rw [show readEs (b.drop 4) (countE (b.drop 4).length (b.drop 4)) = es from h2]; exact ha)
        rw [show readEs (b.drop 4) (countE (b.drop 4).length (b.drop 4)) = es from h2] at htx
        have hmr := mark_read _ hmk hl8
        rw [h3] at hmr
        refine ⟨hb, hs, ?_⟩
        rw [ripL, htx, hmr, ← hd_read h4' hh c h1 hc, List.append_assoc]
        unfold endK
        rw [List.take_append_drop, List.take_append_drop]
      · cases h
    · split at h
      · simp only [Option.some.injEq, Prod.mk.injEq] at h
        exact absurd h.2.2.symm hq
      · cases h
theorem aheadT_list (c : Int) (es : List Ent) (q : Int) : (aheadT c es q).data.toList = ripL c es ++ markL q := by
  unfold aheadT ripT markT
  simp
/-- What is ahead of the mark, and the number in it. -/
theorem ahead_cut (c : Int) (es : List Ent) (q : Int) : (aheadT c es q).extract 0 ((aheadT c es q).size - 8) = ripT c es := by
  apply ByteArray.ext
  apply Array.toList_inj.1
  rw [aheadT_size]
  have e : (aheadT c es q).data.toList = ripL c es ++ markL q := aheadT_list c es q
  rw [ByteArray.data_extract, Array.toList_extract, e]
  show List.extract (ripL c es ++ markL q) 0 (12 + 20 * es.length - 8) = ripL c es
  rw [List.extract_eq_take_drop, List.drop_zero]
  rw [List.take_left' (by rw [ripL_length]; omega)]
theorem join_left (a b : ByteArray) (n : Nat) (h : a.size = n) : (a ++ b).extract 0 n = a := by
  apply ByteArray.ext
  apply Array.toList_inj.1
  rw [ByteArray.data_extract, Array.toList_extract, ByteArray.data_append, Array.toList_append]
  rw [List.extract_eq_take_drop, List.drop_zero]
  exact List.take_left' (by rw [Nat.sub_zero, ← h]; exact Array.length_toList)
theorem cut_join (t : ByteArray) (n : Nat) : t.extract 0 n ++ t.extract n t.size = t := by
  apply ByteArray.ext
  apply Array.toList_inj.1
  rw [ByteArray.data_append, Array.toList_append, ByteArray.data_extract, ByteArray.data_extract, Array.toList_extract, Array.toList_extract, List.extract_eq_take_drop, List.extract_eq_take_drop, List.drop_zero]
  have e : (t.data.toList.drop n).take (t.size - n) = t.data.toList.drop n := List.take_of_length_le (by rw [List.length_drop, Array.length_toList]; exact Nat.le_refl _)
  rw [e, Nat.sub_zero, List.take_append_drop]
/-- The program reads a signed one: so does the model. -/
theorem open_there (t k : ByteArray) (h28 : 28 ≤ t.size) (hk : inKey k = true) (hm : shortT k (t.extract 0 (t.size - 16)) = t.extract (t.size - 16) t.size) {c : Int} {es : List Ent} {q : Int}
    (h : ripOfR (t.extract 0 (t.size - 16)).data.toList = some (c, es, q)) (hq : q ≠ 0) :
    plainR (t.extract 0 (t.size - 16 - 8)) = some (c, es) ∧ t.extract 0 (t.size - 16) = aheadT c es q ∧ inSeq q = true ∧ signO c es k q = t := by
  obtain ⟨hb, hs, he⟩ := ripOfR_seq h hq
  have ha : t.extract 0 (t.size - 16) = aheadT c es q := ByteArray.ext (Array.toList_inj.1 (by rw [he, aheadT_list]))
  have hz : (t.extract 0 (t.size - 16)).size = t.size - 16 := by rw [ByteArray.size_extract]; omega
  have hx : t.extract 0 (t.size - 16 - 8) = ripT c es := by
    rw [← ahead_cut c es q, ← ha, hz, ByteArray.extract_extract]
    congr 1; omega
  refine ⟨by rw [hx]; exact plainR_text c es hb, ha, hs, ?_⟩
  rw [signO, if_pos ⟨hb, hs, hk⟩, signT, ← ha, hm]
  exact cut_join t _
/-- The model reads a signed one: so does the program. -/
theorem open_back (t k : ByteArray) (h28 : 28 ≤ t.size) {c : Int} {es : List Ent} {q : Int} (h : signO c es k q = t) : ripOfR (t.extract 0 (t.size - 16)).data.toList = some (c, es, q) ∧ q ≠ 0 := by
  unfold signO at h
  split at h
  · rename_i hh
    obtain ⟨hb, hs, hk⟩ := hh
    have hz : t.size = 28 + 20 * es.length := by rw [← h, signT_size]
    have he : t.extract 0 (t.size - 16) = aheadT c es q := by
      rw [hz, ← h, signT]
      exact join_left _ _ _ (by rw [aheadT_size]; omega)
    rw [he, aheadT_list]
    exact ⟨ripOfR_signed c es hb q hs, by have := (inSeq_spec hs).1; omega⟩
  · rw [← h] at h28; simp at h28
/-- The number that stands at the end of what is ahead of the mac. -/
theorem open_seq (c : Int) (es : List Ent) (q : Int) (hs : inSeq q = true) : (numL (cutL (aheadT c es q).data.toList ((aheadT c es q).size - 4) (aheadT c es q).size) : Int) = q := by
  obtain ⟨q0, q1⟩ := inSeq_spec hs
  rw [aheadT_list, aheadT_size]
  have e : cutL (ripL c es ++ markL q) (12 + 20 * es.length - 4) (12 + 20 * es.length) = wordL (q / 65536) ++ wordL q := by
    have e1 : ripL c es ++ markL q = (ripL c es ++ (wordL 65535 ++ wordL 3)) ++ (wordL (q / 65536) ++ wordL q) := by
      unfold markL
      simp [wordsL]
    have l1 : (ripL c es ++ (wordL 65535 ++ wordL 3)).length = 12 + 20 * es.length - 4 := by
      rw [List.length_append, ripL_length, show (wordL 65535 ++ wordL 3).length = 4 from rfl]; omega
    have l2 : (wordL (q / 65536) ++ wordL q).length = 4 := rfl
    unfold cutL
    rw [e1, List.take_of_length_le (by rw [List.length_append, l1, l2]; omega), List.drop_left' l1]
  rw [e, num_four q (by omega) (by omega)]
end Go.Proofs.YtkkhjeigndcmaaaDoor
/- What is signed, read by the program. -/
namespace Go.Proofs.YtkkhjeigndcmaaaDoor
open Go.RowKit Go.Sort

/-- What is opened of a text: the command, the entries, the seq, the code. -/
def opR (t k : ByteArray) (last : Int) : Int × List Ent × Int × Int :=
  if whyC t k last ≠ 6 then (0, [], 0, errC (whyC t k last))
  else if shortT k (t.extract 0 (t.size - 16)) ≠ t.extract (t.size - 16) t.size then (0, [], 0, errC 3)
  else match ripOfR (t.extract 0 (t.size - 16)).data.toList with
    | none => (0, [], 0, errC 4)
    | some (c, es, q) => if q = 0 then (0, [], 0, errC 4) else if q ≤ last then (0, [], 0, errC 5) else (c, es, q, 0)
theorem whyC_lt (t k : ByteArray) (last : Int) (h : whyC t k last ≠ 6) : whyC t k last < 6 := by
  unfold whyC at h ⊢
  by_cases h1 : 8000 < t.size ∨ 8000 < k.size
  · rw [if_pos h1]; omega
  · rw [if_neg h1] at h ⊢
    by_cases h2 : inKey k = false ∨ inTime last = false
    · rw [if_pos h2]; omega
    · rw [if_neg h2] at h ⊢
      by_cases h3 : t.size < 28
      · rw [if_pos h3]; omega
      · rw [if_neg h3] at h; exact absurd rfl h
/-- What signedRead hands back. -/
def SgnOut (t k : ByteArray) (last : Int) (A : Nat → Addr) (w w' : World) (e : Ending) : Prop :=
  (∃ i, i < 6 ∧ e = .returned (.tuple #[.agg #[.int .i64 0, .slice none 0 0], .int .i64 0, errV (A i)]) ∧ opR t k last = (0, [], 0, errC i) ∧ Below w.heap.size w w') ∨
  ∃ c es q v, e = .returned (.tuple #[.agg #[.int .i64 c, v], .int .i64 q, .nilIface]) ∧ opR t k last = (c, es, q, 0) ∧ OwnE w' w.heap.size v es ∧ Below w.heap.size w w'
set_option maxRecDepth 100000 in
set_option maxHeartbeats 1000000 in
theorem signedRead_why (t k : ByteArray) (last : Int) (w : World) (A : Nat → Addr) (hz : t.size ≤ 1048576) (hkz : k.size ≤ 1048576) (hE : ErrsIn w A) (h6 : whyC t k last ≠ 6) :
    Calls Tryd.prog 15 #[.string t, .string k, .int .i64 last] w fun e w' => SgnOut t k last A w w' e := by
  have HQ0 : Hid (Row (w.alloc (.cells #[.int .i64 0, .slice none 0 0] 24)) w.heap.size 24 [.int .i64 0, .slice none 0 0]) := Row.new w _ _
  have HE1 : Hid (ErrsIn (w.alloc (.cells #[.int .i64 0, .slice none 0 0] 24)) A) := hE.below (ent_new0 w _)
  have hi := whyC_lt t k last h6
  have HR : Hid (opR t k last = (0, [], 0, errC (whyC t k last))) := if_pos h6
  have HY : Hid (Calls Tryd.prog 27 #[.string t, .string k, .int .i64 last] (w.alloc (.cells #[.int .i64 0, .slice none 0 0] 24)) fun e w' => e = .returned (.iface 107 (.pointer (some (A (whyC t k last))))) ∧ w.alloc (.cells #[.int .i64 0, .slice none 0 0] 24) = w') := by
    have := whyNotOpen_any t k last _ A hz hkz HE1.out
    rw [show whyV A (whyC t k last) = .iface 107 (.pointer (some (A (whyC t k last)))) from if_neg h6] at this
    exact this
  have c0 : (w.alloc (.cells #[.int .i64 0, .slice none 0 0] 24)).cell? ⟨w.heap.size, 0, none⟩ = some (.int .i64 0) := HQ0.out.cell 0
  have c1 : (w.alloc (.cells #[.int .i64 0, .slice none 0 0] 24)).cell? ⟨w.heap.size, 1, none⟩ = some (.slice none 0 0) := HQ0.out.cell 1
  have f0 := HQ0.out.frozen 0
  have f1 := HQ0.out.frozen 1
  have hbl := ent_new0 w (.cells #[.int .i64 0, .slice none 0 0] 24)
  generalize hWW : w.alloc (.cells #[.int .i64 0, .slice none 0 0] 24) = W at *
  have HWW : Hid _ := hWW
  clear hWW HE1 hE h6
  generalize whyC t k last = i at *
  go_enter Tryd.func15, Tryd.ntmps15
  go_wp2_with fail
  rw [HWW.out]
  refine (HY.out).mono ?_
  rintro e w1 ⟨rfl, rfl⟩
  go_wp2_with fail
  all_goals have g0 : (W.setCell ⟨w.heap.size, 0, none⟩ (.int .i64 0)).cell? ⟨w.heap.size, 0, none⟩ = some (.int .i64 0) := (HQ0.out.set 0 _).cell 0
  all_goals have g1 : ((W.setCell ⟨w.heap.size, 0, none⟩ (.int .i64 0)).setCell ⟨w.heap.size, 1, none⟩ (.slice none 0 0)).cell? ⟨w.heap.size, 1, none⟩ = some (.slice none 0 0) := ((HQ0.out.set 0 _).set 1 _).cell 1
  all_goals (try go_wp2)
  all_goals (refine bodyPost_ret (v := .tuple #[.agg #[.int .i64 0, .slice none 0 0], .int .i64 0, .iface 107 (.pointer (some (A i)))]) (by simp [results, Tryd.results15, go_sem, g0, g1]) rfl (.inl ⟨i, hi, rfl, HR.out, ?_⟩))
  all_goals first | exact bel_two hbl | exact (hbl.setCell (p := ⟨w.heap.size, 0, none⟩) (Nat.le_refl _) _).setCell (p := ⟨w.heap.size, 1, none⟩) (Nat.le_refl _) _
end Go.Proofs.YtkkhjeigndcmaaaDoor
/- What is signed, read by the program: at every text. -/
namespace Go.Proofs.YtkkhjeigndcmaaaDoor
open Go.RowKit Go.Sort

theorem whyC_six {t k : ByteArray} {last : Int} (h : whyC t k last = 6) : t.size ≤ 8000 ∧ k.size ≤ 8000 ∧ inKey k = true ∧ inTime last = true ∧ 28 ≤ t.size := by
  unfold whyC at h
  by_cases h1 : 8000 < t.size ∨ 8000 < k.size
  · rw [if_pos h1] at h; omega
  · rw [if_neg h1] at h
    by_cases h2 : inKey k = false ∨ inTime last = false
    · rw [if_pos h2] at h; omega
    · rw [if_neg h2] at h
      by_cases h3 : t.size < 28
      · rw [if_pos h3] at h; omega
      · refine ⟨by omega, by omega, ?_, ?_, by omega⟩
        · cases hk : inKey k with | true => rfl | false => exact absurd (.inl hk) h2
        · cases hk : inTime last with | true => rfl | false => exact absurd (.inr hk) h2
theorem opR_mac {t k : ByteArray} {last : Int} (h : whyC t k last = 6) (hm : shortT k (t.extract 0 (t.size - 16)) ≠ t.extract (t.size - 16) t.size) : opR t k last = (0, [], 0, errC 3) := by
  unfold opR; rw [if_neg (by rw [h]; simp), if_pos hm]
theorem opR_none {t k : ByteArray} {last : Int} (h : whyC t k last = 6) (hm : shortT k (t.extract 0 (t.size - 16)) = t.extract (t.size - 16) t.size) (hn : ripOfR (t.extract 0 (t.size - 16)).data.toList = none) : opR t k last = (0, [], 0, errC 4) := by
  unfold opR; rw [if_neg (by rw [h]; simp), if_neg (by rw [hm]; simp), hn]
theorem opR_some {t k : ByteArray} {last : Int} (h : whyC t k last = 6) (hm : shortT k (t.extract 0 (t.size - 16)) = t.extract (t.size - 16) t.size) {c : Int} {es : List Ent} {q : Int} (hn : ripOfR (t.extract 0 (t.size - 16)).data.toList = some (c, es, q)) :
    opR t k last = if q = 0 then (0, [], 0, errC 4) else if q ≤ last then (0, [], 0, errC 5) else (c, es, q, 0) := by
  unfold opR; rw [if_neg (by rw [h]; simp), if_neg (by rw [hm]; simp), hn]
set_option maxRecDepth 100000 in
set_option maxHeartbeats 2000000 in
theorem signedRead_six (t k : ByteArray) (last : Int) (w : World) (A : Nat → Addr) (hE : ErrsIn w A) (hL : Laid w) (h6 : whyC t k last = 6) :
    Calls Tryd.prog 15 #[.string t, .string k, .int .i64 last] w fun e w' => SgnOut t k last A w w' e := by
  obtain ⟨hz, hkz, -, -, h28⟩ := whyC_six h6
  have HQ0 : Hid (Row (w.alloc (.cells #[.int .i64 0, .slice none 0 0] 24)) w.heap.size 24 [.int .i64 0, .slice none 0 0]) := Row.new w _ _
  have HE1 : Hid (ErrsIn (w.alloc (.cells #[.int .i64 0, .slice none 0 0] 24)) A) := hE.below (ent_new0 w _)
  have HL1 : Hid (Laid (w.alloc (.cells #[.int .i64 0, .slice none 0 0] 24))) := hL.below (ent_new0 w _)
  have hbl := ent_new0 w (.cells #[.int .i64 0, .slice none 0 0] 24)
  have HY : Hid (Calls Tryd.prog 27 #[.string t, .string k, .int .i64 last] (w.alloc (.cells #[.int .i64 0, .slice none 0 0] 24)) fun e w' => e = .returned .nilIface ∧ w.alloc (.cells #[.int .i64 0, .slice none 0 0] 24) = w') := by
    have := whyNotOpen_any t k last _ A (by omega) (by omega) HE1.out
    rw [show whyV A (whyC t k last) = .nilIface from if_pos h6] at this
    exact this
  have HM : Hid (∀ w, Laid w → Calls Tryd.prog 28 #[.string k, .string (t.extract 0 (t.size - 16))] w fun e w' => e = .returned (.string (shortT k (t.extract 0 (t.size - 16)))) ∧ Below w.heap.size w w') := fun w hL => shortMac_any k _ w hkz (by rw [ByteArray.size_extract]; omega) hL
  have hx : IntKind.i64.wrap ((t.size : Int) - 16) = ((t.size - 16 : Nat) : Int) := by rw [wrap_i64_in _ (by omega) (by omega)]; omega
  have HS1 : Hid (∀ w, (Instr.slice 9 (.string t) none (some (.int .i64 ((t.size - 16 : Nat) : Int))) none).run Tryd.prog w = .ok (.string (t.extract 0 (t.size - 16))) w) := fun w => slice_upto t _ _ rfl (by omega) w
  have HS2 : Hid (∀ w, (Instr.slice 9 (.string t) (some (.int .i64 ((t.size - 16 : Nat) : Int))) none none).run Tryd.prog w = .ok (.string (t.extract (t.size - 16) t.size)) w) := fun w => slice_on t _ _ rfl (by omega) w
  have hsz : (t.extract 0 (t.size - 16)).size ≤ 8000 := by rw [ByteArray.size_extract]; omega
  have H3 : Hid (_ → _) := opR_mac h6
  have H4 : Hid (_ → _ → _) := opR_none h6
  have H5 : Hid (_ → ∀ c es q, _ → _) := fun hm c es q hn => opR_some h6 hm (c := c) (es := es) (q := q) hn
  have hg0 : ∀ i, i < 6 → errG i < w.heap.size := fun i hi => World.block_lt_of_cell? w _ (hE.1 i hi)
  have hga : ¬ 1 = w.heap.size := by have : 1 < w.heap.size := hg0 4 (by omega); omega
  have hgb : ¬ w.heap.size = 1 := fun h => hga h.symm
  have hgc : ¬ 0 = w.heap.size := by have : 0 < w.heap.size := hg0 3 (by omega); omega
  have hgd : ¬ w.heap.size = 0 := fun h => hgc h.symm
  have hge : ¬ 2 = w.heap.size := by have : 2 < w.heap.size := hg0 5 (by omega); omega
  have hgf : ¬ w.heap.size = 2 := fun h => hge h.symm
  generalize hWW : w.alloc (.cells #[.int .i64 0, .slice none 0 0] 24) = W at *
  have HWW : Hid _ := hWW
  have hl0 := HQ0.out.lt
  clear hWW h6 hE hL hg0
  have hxx : (t.size : Int) - 16 = ((t.size - 16 : Nat) : Int) := by omega
  generalize t.extract 0 (t.size - 16) = a at *
  generalize t.extract (t.size - 16) t.size = m at *
  generalize shortT k a = sm at *
  go_enter Tryd.func15, Tryd.ntmps15
  go_wp2_with fail
  rw [HWW.out]
  clear HWW
  refine (HY.out).mono ?_
  rintro e w1 ⟨rfl, rfl⟩
  clear HY
  have hs1 := HS1.out
  have hs2 := HS2.out
  go_wp2_with fail
  go_quiet (fail)
  go_wp2_with fail
  have hbq : Below W.heap.size W (W.drewN nq) := below_drewN (Below.refl _ _) _
  have HL2 : Hid (Laid (W.drewN nq)) := HL1.out.below hbq
  refine (HM.out _ HL2.out).mono ?_
  rintro e w1 ⟨rfl, hb1⟩
  have hb2 : Below W.heap.size W w1 := hbq.trans (hb1.mono hbq.size)
  have HQ1 : Hid (Row w1 w.heap.size 24 [.int .i64 0, .slice none 0 0]) := HQ0.out.below hb2 HQ0.out.lt
  have HE2 : Hid (ErrsIn w1 A) := HE1.out.below hb2
  have hB : Below w.heap.size w w1 := hbl.trans (hb2.mono (by omega))
  have hl1 := HQ1.out.lt
  clear HL2 hbq hb1 hb2 HQ0 HE1 HL1 HM HS1 HS2 hs1 hs2 hx hxx hbl hl0
  by_cases hm : sm = m
  · have H4' : Hid (_ → _) := H4.out hm
    have H5' : Hid (∀ c es q, _ → _) := H5.out hm
    clear H3 H4 H5
    obtain ⟨g, cap, w2, hrun, hcap, hB1, hgl, hgu, hb1⟩ := text_bytes w1 a
    have hts : a.data.toList.length = a.size := by simp
    have HO := ripOf_any a.data.toList g cap w2 A (by omega) (by omega) hB1 (by omega) (HE2.out.below hb1)
    rw [hts] at HO
    have HO' : Hid (Calls Tryd.prog 29 #[.slice (some ⟨g, 0, none⟩) a.size cap] w2 fun e w' => OfOut a.data.toList A w2 w' e) := HO
    have hB2 : Below w.heap.size w w2 := hB.trans (hb1.mono (by omega))
    have HQ2 : Hid (Row w2 w.heap.size 24 [.int .i64 0, .slice none 0 0]) := HQ1.out.below hb1 HQ1.out.lt
    have HE3 : Hid (ErrsIn w2 A) := HE2.out.below hb1
    have hl2 := HQ2.out.lt
    clear HO hB1 hb1 HQ1 HE2 hB hl1 hts
    go_wp2_with fail
    refine (HO'.out).mono ?_
    intro e w3 hO
    unfold OfOut at hO
    cases hR : ripOfR a.data.toList with
    | none =>
      rw [hR] at hO
      obtain ⟨rfl, hb3⟩ := hO
      have HR : Hid (opR t k last = (0, [], 0, errC 4)) := H4'.out hR
      have hbl : Below w.heap.size w w3 := hB2.trans (hb3.mono (by omega))
      have qw := HQ2.out.below hb3 HQ2.out.lt
      have c0 : w3.cell? ⟨w.heap.size, 0, none⟩ = some (.int .i64 0) := qw.cell 0
      have c1 : w3.cell? ⟨w.heap.size, 1, none⟩ = some (.slice none 0 0) := qw.cell 1
      have f0 : w3.frozen? ⟨w.heap.size, 0, none⟩ = false := qw.frozen 0
      have f1 : w3.frozen? ⟨w.heap.size, 1, none⟩ = false := qw.frozen 1
      clear qw
      have hs3 : w.heap.size < w3.heap.size := by have := hb3.size; omega
      have hb4 : Below w.heap.size w ((w3.setCell ⟨w.heap.size, 0, none⟩ (.int .i64 0)).setCell ⟨w.heap.size, 1, none⟩ (.slice none 0 0)) := (hbl.setCell (p := ⟨w.heap.size, 0, none⟩) (Nat.le_refl _) _).setCell (p := ⟨w.heap.size, 1, none⟩) (Nat.le_refl _) _
      have HS : Hid _ := And.intro ((((HQ2.out.below hb3 HQ2.out.lt).set 0 (.int .i64 0)).set 1 (.slice none 0 0)).alloc (.cells #[.int .i64 0, .slice none 0 0] 24)) (hb4.alloc hb4.size (.cells #[.int .i64 0, .slice none 0 0] 24))
      clear hb4
      unfold errV
      clear hR hb3 HO' HQ2 HE3 hrun hgl hgu hbl hB2 H4' H5'
      go_wp2_with fail
      have HS2 := HS.out
      clear HS c0 c1 f0 f1
      generalize (((w3.setCell ⟨w.heap.size, 0, none⟩ (.int .i64 0)).setCell ⟨w.heap.size, 1, none⟩ (.slice none 0 0)).alloc (.cells #[.int .i64 0, .slice none 0 0] 24)) = Z at *
      obtain ⟨h1, h2⟩ := HS2
      have r0 : Z.cell? ⟨w.heap.size, 0, none⟩ = some (.int .i64 0) := h1.cell 0
      have r1 : Z.cell? ⟨w.heap.size, 1, none⟩ = some (.slice none 0 0) := h1.cell 1
      refine bodyPost_ret (v := .tuple #[.agg #[.int .i64 0, .slice none 0 0], .int .i64 0, .iface 107 (.pointer (some (A 4)))]) (by simp [results, Tryd.results15, go_sem, r0, r1]) rfl (.inl ⟨4, by omega, rfl, HR.out, h2⟩)
    | some x =>
      obtain ⟨c, es, q⟩ := x
      rw [hR] at hO
      obtain ⟨v, rfl, ho2, hb3⟩ := hO
      obtain ⟨p, cv, rfl, -⟩ := ho2.form
      have H6 : Hid _ := H5'.out c es q hR
      have hbl : Below w.heap.size w w3 := hB2.trans (hb3.mono (by omega))
      have qw := HQ2.out.below hb3 HQ2.out.lt
      have c0 : w3.cell? ⟨w.heap.size, 0, none⟩ = some (.int .i64 0) := qw.cell 0
      have c1 : w3.cell? ⟨w.heap.size, 1, none⟩ = some (.slice none 0 0) := qw.cell 1
      have f0 : w3.frozen? ⟨w.heap.size, 0, none⟩ = false := qw.frozen 0
      have f1 : w3.frozen? ⟨w.heap.size, 1, none⟩ = false := qw.frozen 1
      have hs3 : w.heap.size < w3.heap.size := by have := hb3.size; omega
      have HQ3 : Hid (Row (w3.alloc (.cells #[.int .i64 c, .slice p es.length cv] 24)) w.heap.size 24 [.int .i64 0, .slice none 0 0]) := qw.alloc _
      have hbl3 : Below w.heap.size w (w3.alloc (.cells #[.int .i64 c, .slice p es.length cv] 24)) := hbl.alloc (by omega) _
      have hE3 := (HE3.out.below hb3).below (ent_new0 w3 (.cells #[.int .i64 c, .slice p es.length cv] 24))
      have cE4 : (w3.alloc (.cells #[.int .i64 c, .slice p es.length cv] 24)).cell? ⟨1, 0, none⟩ = some (.iface 107 (.pointer (some (A 4)))) := hE3.1 4 (by omega)
      have cE5 : (w3.alloc (.cells #[.int .i64 c, .slice p es.length cv] 24)).cell? ⟨2, 0, none⟩ = some (.iface 107 (.pointer (some (A 5)))) := hE3.1 5 (by omega)
      by_cases hq : q = 0
      · have HR : Hid (opR t k last = (0, [], 0, errC 4)) := by rw [H6.out]; exact if_pos hq
        have dq : (q == 0) = true := by simpa using hq
        clear hR hb3 HO' HQ2 HE3 hrun hgl hgu ho2 hE3 qw H4' H5' H6 hbl hB2 cE5 hl2 c0 c1 f0 f1
        generalize es.length = N at *
        go_wp2_with fail
        generalize hWW : w3.alloc (.cells #[.int .i64 c, .slice p N cv] 24) = Z at *
        clear hWW
        have c0 : Z.cell? ⟨w.heap.size, 0, none⟩ = some (.int .i64 0) := HQ3.out.cell 0
        have c1 : Z.cell? ⟨w.heap.size, 1, none⟩ = some (.slice none 0 0) := HQ3.out.cell 1
        have f0 : Z.frozen? ⟨w.heap.size, 0, none⟩ = false := HQ3.out.frozen 0
        have f1 : Z.frozen? ⟨w.heap.size, 1, none⟩ = false := HQ3.out.frozen 1
        go_region
        all_goals have g0 : (Z.setCell ⟨w.heap.size, 0, none⟩ (.int .i64 0)).cell? ⟨w.heap.size, 0, none⟩ = some (.int .i64 0) := (HQ3.out.set 0 _).cell 0
        all_goals have g1 : ((Z.setCell ⟨w.heap.size, 0, none⟩ (.int .i64 0)).setCell ⟨w.heap.size, 1, none⟩ (.slice none 0 0)).cell? ⟨w.heap.size, 1, none⟩ = some (.slice none 0 0) := ((HQ3.out.set 0 _).set 1 _).cell 1
        all_goals (try go_wp2)
        all_goals (refine bodyPost_ret (v := .tuple #[.agg #[.int .i64 0, .slice none 0 0], .int .i64 0, .iface 107 (.pointer (some (A 4)))]) (by simp [results, Tryd.results15, go_sem, g0, g1]) rfl (.inl ⟨4, by omega, rfl, HR.out, ?_⟩))
        all_goals first | exact bel_two hbl3 | exact (hbl3.setCell (p := ⟨w.heap.size, 0, none⟩) (Nat.le_refl _) _).setCell (p := ⟨w.heap.size, 1, none⟩) (Nat.le_refl _) _
      by_cases ho : q ≤ last
      · have HR : Hid (opR t k last = (0, [], 0, errC 5)) := by rw [H6.out, if_neg hq]; exact if_pos ho
        have dq : (q == 0) = false := by simpa using hq
        clear hR hb3 HO' HQ2 HE3 hrun hgl hgu ho2 hE3 qw H4' H5' H6 hbl hB2 cE4 hl2 c0 c1 f0 f1
        generalize es.length = N at *
        go_wp2_with fail
        generalize hWW : w3.alloc (.cells #[.int .i64 c, .slice p N cv] 24) = Z at *
        clear hWW
        have c0 : Z.cell? ⟨w.heap.size, 0, none⟩ = some (.int .i64 0) := HQ3.out.cell 0
        have c1 : Z.cell? ⟨w.heap.size, 1, none⟩ = some (.slice none 0 0) := HQ3.out.cell 1
        have f0 : Z.frozen? ⟨w.heap.size, 0, none⟩ = false := HQ3.out.frozen 0
        have f1 : Z.frozen? ⟨w.heap.size, 1, none⟩ = false := HQ3.out.frozen 1
        go_region
        all_goals have g0 : (Z.setCell ⟨w.heap.size, 0, none⟩ (.int .i64 0)).cell? ⟨w.heap.size, 0, none⟩ = some (.int .i64 0) := (HQ3.out.set 0 _).cell 0
        all_goals have g1 : ((Z.setCell ⟨w.heap.size, 0, none⟩ (.int .i64 0)).setCell ⟨w.heap.size, 1, none⟩ (.slice none 0 0)).cell? ⟨w.heap.size, 1, none⟩ = some (.slice none 0 0) := ((HQ3.out.set 0 _).set 1 _).cell 1
        all_goals (try go_wp2)
        all_goals (refine bodyPost_ret (v := .tuple #[.agg #[.int .i64 0, .slice none 0 0], .int .i64 0, .iface 107 (.pointer (some (A 5)))]) (by simp [results, Tryd.results15, go_sem, g0, g1]) rfl (.inl ⟨5, by omega, rfl, HR.out, ?_⟩))
        all_goals first | exact bel_two hbl3 | exact (hbl3.setCell (p := ⟨w.heap.size, 0, none⟩) (Nat.le_refl _) _).setCell (p := ⟨w.heap.size, 1, none⟩) (Nat.le_refl _) _
      · have HR : Hid (opR t k last = (c, es, q, 0)) := by rw [H6.out, if_neg hq]; exact if_neg ho
        have dq : (q == 0) = false := by simpa using hq
        have hb4 : Below w.heap.size w ((w3.setCell ⟨w.heap.size, 0, none⟩ (.int .i64 c)).setCell ⟨w.heap.size, 1, none⟩ (.slice p es.length cv)) := (hbl.setCell (p := ⟨w.heap.size, 0, none⟩) (Nat.le_refl _) _).setCell (p := ⟨w.heap.size, 1, none⟩) (Nat.le_refl _) _
        have ho4 : OwnE ((w3.setCell ⟨w.heap.size, 0, none⟩ (.int .i64 c)).setCell ⟨w.heap.size, 1, none⟩ (.slice p es.length cv)) w.heap.size (.slice p es.length cv) es := ((ho2.set ⟨w.heap.size, 0, none⟩ (by show w.heap.size < w2.heap.size; omega) (.int .i64 c)).set ⟨w.heap.size, 1, none⟩ (by show w.heap.size < w2.heap.size; omega) (.slice p es.length cv)).mono (by omega)
        have HS : Hid _ := And.intro (((qw.set 0 (.int .i64 c)).set 1 (.slice p es.length cv)).alloc (.cells #[.int .i64 c, .slice p es.length cv] 24)) (And.intro (hb4.alloc hb4.size (.cells #[.int .i64 c, .slice p es.length cv] 24)) (ho4.alloc (.cells #[.int .i64 c, .slice p es.length cv] 24)))
        clear hb4 ho4
        clear hR hb3 HO' HQ2 HE3 hrun hgl hgu hbl ho2 hE3 HQ3 hbl3 qw H4' H5' H6 cE4 cE5 hB2
        generalize es.length = N at *
        go_wp2_with fail
        have HS2 := HS.out
        clear HS c0 c1 f0 f1
        generalize (((w3.setCell ⟨w.heap.size, 0, none⟩ (.int .i64 c)).setCell ⟨w.heap.size, 1, none⟩ (.slice p N cv)).alloc (.cells #[.int .i64 c, .slice p N cv] 24)) = Z at *
        obtain ⟨h1, h2, h3⟩ := HS2
        have r0 : Z.cell? ⟨w.heap.size, 0, none⟩ = some (.int .i64 c) := h1.cell 0
        have r1 : Z.cell? ⟨w.heap.size, 1, none⟩ = some (.slice p N cv) := h1.cell 1
        refine bodyPost_ret (v := .tuple #[.agg #[.int .i64 c, .slice p N cv], .int .i64 q, .nilIface]) (by simp [results, Tryd.results15, go_sem, r0, r1]) rfl (.inr ⟨c, es, q, .slice p N cv, rfl, HR.out, h3, h2⟩)
  · have HR : Hid (opR t k last = (0, [], 0, errC 3)) := H3.out hm
    clear H3 H4 H5
    have cE : w1.cell? ⟨0, 0, none⟩ = some (.iface 107 (.pointer (some (A 3)))) := HE2.out.1 3 (by omega)
    have c0 : w1.cell? ⟨w.heap.size, 0, none⟩ = some (.int .i64 0) := HQ1.out.cell 0
    have c1 : w1.cell? ⟨w.heap.size, 1, none⟩ = some (.slice none 0 0) := HQ1.out.cell 1
    have f0 : w1.frozen? ⟨w.heap.size, 0, none⟩ = false := HQ1.out.frozen 0
    have f1 : w1.frozen? ⟨w.heap.size, 1, none⟩ = false := HQ1.out.frozen 1
    have dm : (!sm.toList == m.toList) = true := by rw [text_ne hm]; rfl
    go_wp2_with fail
    go_region
    all_goals have g0 : (w1.setCell ⟨w.heap.size, 0, none⟩ (.int .i64 0)).cell? ⟨w.heap.size, 0, none⟩ = some (.int .i64 0) := (HQ1.out.set 0 _).cell 0
    all_goals have g1 : ((w1.setCell ⟨w.heap.size, 0, none⟩ (.int .i64 0)).setCell ⟨w.heap.size, 1, none⟩ (.slice none 0 0)).cell? ⟨w.heap.size, 1, none⟩ = some (.slice none 0 0) := ((HQ1.out.set 0 _).set 1 _).cell 1
    all_goals (try go_wp2)
    all_goals (refine bodyPost_ret (v := .tuple #[.agg #[.int .i64 0, .slice none 0 0], .int .i64 0, .iface 107 (.pointer (some (A 3)))]) (by simp [results, Tryd.results15, go_sem, g0, g1]) rfl (.inl ⟨3, by omega, rfl, HR.out, ?_⟩))
    all_goals first | exact bel_two hB | exact (hB.setCell (p := ⟨w.heap.size, 0, none⟩) (Nat.le_refl _) _).setCell (p := ⟨w.heap.size, 1, none⟩) (Nat.le_refl _) _
theorem signedRead_any (t k : ByteArray) (last : Int) (w : World) (A : Nat → Addr) (hz : t.size ≤ 1048576) (hkz : k.size ≤ 1048576) (hE : ErrsIn w A) (hL : Laid w) :
    Calls Tryd.prog 15 #[.string t, .string k, .int .i64 last] w fun e w' => SgnOut t k last A w w' e := by
  by_cases h6 : whyC t k last = 6
  · exact signedRead_six t k last w A hE hL h6
  · exact signedRead_why t k last w A hz hkz hE h6
end Go.Proofs.YtkkhjeigndcmaaaDoor
/- What RipRead and RipOpen hand back. -/
namespace Go.Proofs.YtkkhjeigndcmaaaDoor
open Go.RowKit Go.Sort

/-- What RipRead hands back. -/
def RdOut (R : Int × List Ent × Int) (q : Int) (w w' : World) (e : Ending) : Prop := ∃ v, e = .returned (.agg #[.int .i64 R.1, v, .int .i64 q, .int .i64 R.2.2]) ∧ OwnE w' w.heap.size v R.2.1 ∧ Below w.heap.size w w'
theorem OwnE.drewN {w : World} {base : Nat} {v : Value} {es : List Ent} (h : OwnE w base v es) (n : Nat) : OwnE (w.drewN n) base v es := h
end Go.Proofs.YtkkhjeigndcmaaaDoor
/- RipOpen of the program, at its face. -/
namespace Go.Proofs.YtkkhjeigndcmaaaDoor
open Go.RowKit Go.Sort

/-- The answer as RdOut takes it: the command, the entries, the code; the seq apart. -/
def opC (t k : ByteArray) (last : Int) : Int × List Ent × Int := ((opR t k last).1, (opR t k last).2.1, (opR t k last).2.2.2)
def opQ (t k : ByteArray) (last : Int) : Int := (opR t k last).2.2.1
theorem SgnOut.form {t k : ByteArray} {last : Int} {A : Nat → Addr} {w w' : World} {e : Ending} (h : SgnOut t k last A w w' e) : ∃ c es q code p N cv err, e = .returned (.tuple #[.agg #[.int .i64 c, .slice p N cv], .int .i64 q, err]) ∧ opR t k last = (c, es, q, code) ∧ OwnE w' w.heap.size (.slice p N cv) es ∧ Below w.heap.size w w' ∧ ∀ W, ErrsIn W A → Calls Tryd.prog 16 #[err] W fun e w' => e = .returned (.int .i64 code) ∧ W = w' := by
  rcases h with ⟨i, hi, rfl, hr, hb⟩ | ⟨c, es, q, v, rfl, hr, ho, hb⟩
  · exact ⟨0, [], 0, errC i, none, 0, 0, errV (A i), rfl, hr, OwnE.nil _ _, hb, fun W hE => ripCode_errs A W hE i (by omega)⟩
  · obtain ⟨p, cv, rfl, -⟩ := ho.form
    exact ⟨c, es, q, 0, p, es.length, cv, .nilIface, rfl, hr, ho, hb, fun W _ => ripCode_nil W⟩
set_option maxRecDepth 100000 in
set_option maxHeartbeats 1000000 in
theorem implRipOpen_any (t k : ByteArray) (last : Int) (w : World) (A : Nat → Addr) (hz : t.size ≤ 1048576) (hkz : k.size ≤ 1048576) (hE : ErrsIn w A) (hL : Laid w) :
    Calls Tryd.prog 5 #[.string t, .string k, .int .i64 last] w fun e w' => RdOut (opC t k last) (opQ t k last) w w' e := by
  have HP : Hid (Calls Tryd.prog 15 #[.string t, .string k, .int .i64 last] (w.alloc (.cells #[.int .i64 0, .slice none 0 0, .int .i64 0, .int .i64 0] 26)) fun e w' => SgnOut t k last A (w.alloc (.cells #[.int .i64 0, .slice none 0 0, .int .i64 0, .int .i64 0] 26)) w' e) := signedRead_any t k last _ A hz hkz (hE.below (ent_new0 w _)) (hL.below (ent_new0 w _))
  have HQ0 : Hid (Row (w.alloc (.cells #[.int .i64 0, .slice none 0 0, .int .i64 0, .int .i64 0] 26)) w.heap.size 26 [.int .i64 0, .slice none 0 0, .int .i64 0, .int .i64 0]) := Row.new w _ _
  have hE1 := hE.below (ent_new0 w (.cells #[.int .i64 0, .slice none 0 0, .int .i64 0, .int .i64 0] 26))
  have HE1 : Hid (ErrsIn (w.alloc (.cells #[.int .i64 0, .slice none 0 0, .int .i64 0, .int .i64 0] 26)) A) := hE1
  clear hE1 hE
  go_enter Tryd.func5, Tryd.ntmps5
  go_wp2_with fail
  refine (HP.out).mono ?_
  intro e w2 hO
  obtain ⟨c, es, q, code, p, N, cv, err, rfl, hR, ho, hb2, hC⟩ := hO.form
  clear hO
  have HR : Hid (opR t k last = (c, es, q, code)) := hR
  have hs0 : (w.alloc (.cells #[.int .i64 0, .slice none 0 0, .int .i64 0, .int .i64 0] 26)).heap.size = w.heap.size + 1 := by simp
  rw [hs0] at hb2 ho
  have HQ2 : Hid (Row (w2.alloc (.cells #[.int .i64 c, .slice p N cv] 24)) w.heap.size 26 [.int .i64 0, .slice none 0 0, .int .i64 0, .int .i64 0]) := (HQ0.out.below hb2 (by omega)).alloc _
  have HX2 : Hid (Row (w2.alloc (.cells #[.int .i64 c, .slice p N cv] 24)) w2.heap.size 24 [.int .i64 c, .slice p N cv]) := Row.new w2 _ _
  have hb1 : Below w.heap.size w (w2.alloc (.cells #[.int .i64 c, .slice p N cv] 24)) := ((ent_new0 w _).trans (hb2.mono (by omega))).alloc (by have := hb2.size; rw [hs0] at this; omega) _
  have ho2 := ho.alloc (.cells #[.int .i64 c, .slice p N cv] 24)
  have hE2 : ErrsIn (w2.alloc (.cells #[.int .i64 c, .slice p N cv] 24)) A := (HE1.out.below (by rw [hs0]; exact hb2)).below (ent_new0 w2 _)
  have HC : Hid (∀ n, Calls Tryd.prog 16 #[err] ((w2.alloc (.cells #[.int .i64 c, .slice p N cv] 24)).drewN n) fun e w' => e = .returned (.int .i64 code) ∧ (w2.alloc (.cells #[.int .i64 c, .slice p N cv] 24)).drewN n = w') := fun n => hC _ hE2
  clear HP HE1 HQ0 hb2 ho hC hE2 hR
  go_wp2_with fail
  have HO2 : Hid (OwnE (w2.alloc (.cells #[.int .i64 c, .slice p N cv] 24)) (w.heap.size + 1) (.slice p N cv) es) := ho2
  clear ho2
  generalize w2.alloc (.cells #[.int .i64 c, .slice p N cv] 24) = W at *
  have x0 : W.cell? ⟨w2.heap.size, 0, none⟩ = some (.int .i64 c) := HX2.out.cell 0
  have x1 : W.cell? ⟨w2.heap.size, 1, none⟩ = some (.slice p N cv) := HX2.out.cell 1
  have c0 : W.cell? ⟨w.heap.size, 0, none⟩ = some (.int .i64 0) := HQ2.out.cell 0
  have c1 : W.cell? ⟨w.heap.size, 1, none⟩ = some (.slice none 0 0) := HQ2.out.cell 1
  have c2 : W.cell? ⟨w.heap.size, 2, none⟩ = some (.int .i64 0) := HQ2.out.cell 2
  have c3 : W.cell? ⟨w.heap.size, 3, none⟩ = some (.int .i64 0) := HQ2.out.cell 3
  have f0 := HQ2.out.frozen 0
  have f1 := HQ2.out.frozen 1
  have f2 := HQ2.out.frozen 2
  have f3 := HQ2.out.frozen 3
  refine wp_region_tail 4 (by kernel_rfl) (by kernel_rfl) ?_
  simp only [List.take_succ_cons, List.take_zero, List.drop_succ_cons, List.drop_zero]
  repeat (quiet_step ((go_at_call 16; exact quiet_eqA (HC.out _))))
  refine wpQuiet_nil ?_
  intro _ hw'
  obtain ⟨nq, hw''⟩ := hw'
  subst hw''
  have hres := (((HQ2.out.drewN nq).set 0 (.int .i64 c)).set 1 (.slice p N cv)).set 2 (.int .i64 q) |>.set 3 (.int .i64 code)
  have hbs := ((((below_drewN hb1 nq).setCell (p := ⟨w.heap.size, 0, none⟩) (Nat.le_refl _) (.int .i64 c)).setCell (p := ⟨w.heap.size, 1, none⟩) (Nat.le_refl _) (.slice p N cv)).setCell (p := ⟨w.heap.size, 2, none⟩) (Nat.le_refl _) (.int .i64 q)).setCell (p := ⟨w.heap.size, 3, none⟩) (Nat.le_refl _) (.int .i64 code)
  have hos := (((((HO2.out.drewN nq).set ⟨w.heap.size, 0, none⟩ (by show w.heap.size < w.heap.size + 1; omega) (.int .i64 c)).set ⟨w.heap.size, 1, none⟩ (by show w.heap.size < w.heap.size + 1; omega) (.slice p N cv)).set ⟨w.heap.size, 2, none⟩ (by show w.heap.size < w.heap.size + 1; omega) (.int .i64 q)).set ⟨w.heap.size, 3, none⟩ (by show w.heap.size < w.heap.size + 1; omega) (.int .i64 code)).mono (base' := w.heap.size) (by omega)
  have HZ : Hid _ := And.intro hres (And.intro hbs hos)
  clear hres hbs hos HX2 HQ2 HC HO2 hb1
  go_wp2_with fail
  have HZ2 := HZ.out
  clear HZ c0 c1 c2 c3 f0 f1 f2 f3 x0 x1
  generalize ((((((W.drewN nq).setCell ⟨w.heap.size, 0, none⟩ (.int .i64 c)).setCell ⟨w.heap.size, 1, none⟩ (.slice p N cv)).setCell ⟨w.heap.size, 2, none⟩ (.int .i64 q)).setCell ⟨w.heap.size, 3, none⟩ (.int .i64 code))) = Z at *
  obtain ⟨h1, h2, h3⟩ := HZ2
  have r0 : Z.cell? ⟨w.heap.size, 0, none⟩ = some (.int .i64 c) := h1.cell 0
  have r1 : Z.cell? ⟨w.heap.size, 1, none⟩ = some (.slice p N cv) := h1.cell 1
  have r2 : Z.cell? ⟨w.heap.size, 2, none⟩ = some (.int .i64 q) := h1.cell 2
  have r3 : Z.cell? ⟨w.heap.size, 3, none⟩ = some (.int .i64 code) := h1.cell 3
  refine bodyPost_ret (v := .agg #[.int .i64 c, .slice p N cv, .int .i64 q, .int .i64 code]) (by simp [results, Tryd.results5, go_sem, r0, r1, r2, r3]) rfl ?_
  unfold opC opQ
  rw [HR.out]
  exact ⟨_, rfl, h3, h2⟩
end Go.Proofs.YtkkhjeigndcmaaaDoor
/- What is read of a text that is not signed, in plain lists. -/
namespace Go.Proofs.YtkkhjeigndcmaaaDoor
open Go.RowKit Go.Sort

/-- What is read of a text: the command, the entries, the code. -/
def rdR (t : ByteArray) : Int × List Ent × Int :=
  if 8000 < t.size then (0, [], 2) else if t.size < 4 then (0, [], 3) else match plainR t with | some (c, es) => (c, es, 0) | none => (0, [], 3)
theorem rdR_long (t : ByteArray) (h : 8000 < t.size) : rdR t = (0, [], 2) := if_pos h
theorem rdR_yes (t : ByteArray) (h8 : t.size ≤ 8000) (c : Int) (es : List Ent) (h : ripOfR t.data.toList = some (c, es, 0)) : rdR t = (c, es, 0) := by
  have h4 : 4 ≤ t.size := by
    rcases Nat.lt_or_ge t.size 4 with h' | h'
    · rw [ripOfR_head (.inl (by simpa using h'))] at h; cases h
    · exact h'
  unfold rdR
  rw [if_neg (by omega), if_neg (by omega), (plain_eq t h4 c es).2 h]
theorem rdR_no (t : ByteArray) (h8 : t.size ≤ 8000) (h : ∀ c es, ripOfR t.data.toList ≠ some (c, es, 0)) : rdR t = (0, [], 3) := by
  unfold rdR
  rw [if_neg (by omega)]
  split
  · rfl
  · rename_i h4
    cases hp : plainR t with
    | none => rfl
    | some x =>
      obtain ⟨c, es⟩ := x
      exact absurd ((plain_eq t (by omega) c es).1 hp) (h c es)
end Go.Proofs.YtkkhjeigndcmaaaDoor
/- Words and their sums, of the model. -/
namespace Go.Proofs.YtkkhjeigndcmaaaDoor
open Go.RowKit

def wordT (n : Int) : ByteArray := ⟨(wordL n).toArray⟩
theorem wordT_size (n : Int) : (wordT n).size = 2 := rfl
theorem word_conv (n : Int) (w : World) :
    (convert 56 9 (.slice (some ⟨w.heap.size, 0, none⟩) 2 2)).run Tryd.prog (w.alloc (.cells #[.int .u8 (n / 256 % 256), .int .u8 (n % 256)] 5)) = .ok (.string (wordT n)) (w.alloc (.cells #[.int .u8 (n / 256 % 256), .int .u8 (n % 256)] 5)) :=
  conv_lit w [n / 256 % 256, n % 256] 2 rfl (by
    intro x hx
    simp only [List.mem_cons, List.not_mem_nil, or_false] at hx
    omega) (by omega)
set_option maxRecDepth 100000 in
theorem specWord_any (n : Int) (w : World) (h0 : 0 ≤ n) (h1 : n ≤ 9223372036854775807) :
    Calls Tryd.prog 39 #[.int .i64 n] w fun e w' => e = .returned (.string (wordT n)) ∧ Below w.heap.size w w' := by
  have hc := word_conv n w
  have hd : n.tdiv 256 = n / 256 := Int.tdiv_eq_ediv_of_nonneg h0
  have hm : n.tmod 256 = n % 256 := Int.tmod_eq_emod_of_nonneg h0
  have hu : IntKind.u8.wrap (n / 256) = n / 256 % 256 := by rw [IntKind.wrap_u8]
  have hu2 : IntKind.u8.wrap (n % 256) = n % 256 := by rw [IntKind.wrap_u8]; omega
  generalize wordT n = T at *
  go_enter Tryd.func39, Tryd.ntmps39
  go_wp2
  go_ret
  exact ⟨rfl, (Below.refl _ _).alloc (Nat.le_refl _) _⟩
end Go.Proofs.YtkkhjeigndcmaaaDoor
/- Four bytes of a number, of the model. -/
namespace Go.Proofs.YtkkhjeigndcmaaaDoor
open Go.RowKit

def fourQL (n : Int) : List UInt8 := wordL (n / 65536) ++ wordL n
def fourQ (n : Int) : ByteArray := ⟨(fourQL n).toArray⟩
theorem fourQ_size (n : Int) : (fourQ n).size = 4 := rfl
theorem fourQ_eq (n : Int) : wordT (n / 65536) ++ wordT (n % 65536) = fourQ n := by
  apply ByteArray.ext
  apply Array.toList_inj.1
  simp [wordT, fourQ, fourQL, wordL_low]
set_option maxRecDepth 100000 in
theorem spec4_any (n : Int) (w : World) (h0 : 0 ≤ n) (h1 : n ≤ 4294967295) :
    Calls Tryd.prog 40 #[.int .i64 n] w fun e w' => e = .returned (.string (fourQ n)) ∧ Below w.heap.size w w' := by
  have hd : n.tdiv 65536 = n / 65536 := Int.tdiv_eq_ediv_of_nonneg h0
  have hm : n.tmod 65536 = n % 65536 := Int.tmod_eq_emod_of_nonneg h0
  have hw1 := wrap_i64_in (n / 65536) (by omega) (by omega)
  have HE : Hid _ := fourQ_eq n
  have H1 : Hid (∀ w, Calls Tryd.prog 39 #[.int .i64 (n / 65536)] w fun e w' => e = .returned (.string (wordT (n / 65536))) ∧ Below w.heap.size w w') := fun w => specWord_any _ w (by omega) (by omega)
  have H2 : Hid (∀ w, Calls Tryd.prog 39 #[.int .i64 (n % 65536)] w fun e w' => e = .returned (.string (wordT (n % 65536))) ∧ Below w.heap.size w w') := fun w => specWord_any _ w (by omega) (by omega)
  have s1 := wordT_size (n / 65536)
  have s2 := wordT_size (n % 65536)
  generalize wordT (n / 65536) = A at *
  generalize wordT (n % 65536) = B at *
  go_enter Tryd.func40, Tryd.ntmps40
  go_wp2_with fail
  refine (H1.out _).mono ?_
  rintro e w1 ⟨rfl, hb1⟩
  go_wp2_with fail
  refine (H2.out _).mono ?_
  rintro e w2 ⟨rfl, hb2⟩
  go_wp2
  go_ret
  exact ⟨by rw [← HE.out]; rfl, hb1.trans (hb2.mono hb1.size)⟩
end Go.Proofs.YtkkhjeigndcmaaaDoor
/- What routers say in bytes, of the model. -/
namespace Go.Proofs.YtkkhjeigndcmaaaDoor
open Go.RowKit Go.Sort

theorem hd_conv (c : Int) (hc : 1 ≤ c ∧ c ≤ 2) (w : World) :
    (convert 56 9 (.slice (some ⟨w.heap.size, 0, none⟩) 4 4)).run Tryd.prog (w.alloc (.cells #[.int .u8 c, .int .u8 2, .int .u8 0, .int .u8 0] 5)) = .ok (.string (ripT c [])) (w.alloc (.cells #[.int .u8 c, .int .u8 2, .int .u8 0, .int .u8 0] 5)) := by
  have h := conv_lit w [c, 2, 0, 0] 4 rfl (by
    intro x hx
    simp only [List.mem_cons, List.not_mem_nil, or_false] at hx
    omega) (by omega)
  have e : (⟨([c, 2, 0, 0].map fun x => UInt8.ofNat x.toNat).toArray⟩ : ByteArray) = ripT c [] := by
    have h2 : c = 1 ∨ c = 2 := by omega
    rcases h2 with rfl | rfl <;> rfl
  rw [e] at h
  exact h
theorem ripT_next (c : Int) (es : List Ent) (k : Nat) (hk : k < es.length) (a l n m t : Int) (he : es[k] = ⟨a, l, n, m, t⟩) (hm : 1 ≤ m ∧ m ≤ 16) :
    ripT c (es.take k) ++ wordT 2 ++ wordT t ++ fourQ a ++ fourQ (maskV l) ++ fourQ n ++ fourQ m = ripT c (es.take (k + 1)) := by
  apply ByteArray.ext
  apply Array.toList_inj.1
  have e1 : fourQL m = wordL 0 ++ wordL m := by unfold fourQL; rw [show m / 65536 = 0 by omega]
  simp only [ripT, ripL, wordT, fourQ, entsBy_next es k hk, he, entBy, entNs, wordsL, List.flatMap_cons, List.flatMap_nil, ByteArray.data_append, Array.toList_append, e1]
  simp [fourQL]
set_option maxRecDepth 100000 in
set_option maxHeartbeats 1000000 in
theorem spec05Bytes_any (c : Int) (p : Option Addr) (cap : Nat) (es : List Ent) (w : World) (h : EntsIn w p es) (hr : ripB c es = true) :
    Calls Tryd.prog 37 #[ripV c p es.length cap] w fun e w' => e = .returned (.string (ripT c es)) ∧ Below w.heap.size w w' := by
  have HX : Hid (EntsIn w p es) := h
  obtain ⟨hc, h8, ha⟩ := ripB_spec hr
  have hc0 : 1 ≤ c ∧ c ≤ 2 := by omega
  have HA : Hid (es.all entB = true) := ha
  have hu : IntKind.u8.wrap c = c := by rw [IntKind.wrap_u8]; omega
  have hconv := hd_conv c hc0 (w.alloc (.cells #[.int .i64 c, .slice p es.length cap] 24))
  rw [show (w.alloc (.cells #[.int .i64 c, .slice p es.length cap] 24)).heap.size = w.heap.size + 1 by simp] at hconv
  have HK : Hid (∀ k, (ripT c (es.take k)).size ≤ 200) := fun k => by
    show (ripT c (es.take k)).size ≤ 200
    rw [ripT_size, List.length_take]; omega
  have HZ : Hid (ripT c [] = ripT c (es.take 0)) := rfl
  have HF : Hid (ripT c (es.take es.length) = ripT c es) := by show _ = _; rw [List.take_length]
  have hB0 : Below w.heap.size w ((w.alloc (.cells #[.int .i64 c, .slice p es.length cap] 24)).alloc (.cells #[.int .u8 c, .int .u8 2, .int .u8 0, .int .u8 0] 5)) := (ent_new0 w _).alloc (by simp) _
  have HC : Hid (∀ wr, Below (w.heap.size + 1) (w.alloc (.cells #[.int .i64 c, .slice p es.length cap] 24)) wr → wr.cell? ⟨w.heap.size, 1, none⟩ = some (.slice p es.length cap)) := fun wr hb => (rip_cell (by simpa using hb)).2
  unfold ripV
  clear h hr hc ha
  generalize ripT c [] = HD at *
  generalize ripT c es = RT at *
  go_enter Tryd.func37, Tryd.ntmps37
  go_wp2_with fail
  go_loopw [3, 4] (fun T i wr => ∃ k : Nat, k ≤ es.length ∧ i = .int .i64 k ∧ T = .string (ripT c (es.take k)) ∧ Below (w.heap.size + 1) (w.alloc (.cells #[.int .i64 c, .slice p es.length cap] 24)) wr) (fun _ i _ => es.length - (intOf i).toNat)
  case atStart => exact ⟨0, Nat.zero_le _, rfl, by rw [HZ.out], by have := ent_new0 (w.alloc (.cells #[.int .i64 c, .slice p es.length cap] 24)) (.cells #[.int .u8 c, .int .u8 2, .int .u8 0, .int .u8 0] 5); simpa using this⟩
  case round =>
    obtain ⟨k, hk, rfl, rfl, hb⟩ := hrel
    have x1 := HC.out _ hb
    have hbw : Below w.heap.size w wr := (ent_new0 w _).trans (hb.mono (by omega))
    by_cases hlt : k < es.length
    · obtain ⟨g, a, l, n, m, t, rfl, hg, hek, c0, c1, c2, c3, c4⟩ := (HX.out.below hbw).at k hlt
      have hgood := all_at HA.out k hlt
      rw [hek] at hgood
      obtain ⟨ga, gl, _, gn, gm, gt⟩ := entB_spec hgood
      have hmr := maskV_range l
      have HN : Hid _ := ripT_next c es k hlt a l n m t hek gm
      have hsz := HK.out k
      have HW2 : Hid (∀ w, Calls Tryd.prog 39 #[.int .i64 2] w fun e w' => e = .returned (.string (wordT 2)) ∧ Below w.heap.size w w') := fun w => specWord_any 2 w (by omega) (by omega)
      have HWt : Hid (∀ w, Calls Tryd.prog 39 #[.int .i64 t] w fun e w' => e = .returned (.string (wordT t)) ∧ Below w.heap.size w w') := fun w => specWord_any t w (by omega) (by omega)
      have HFa : Hid (∀ w, Calls Tryd.prog 40 #[.int .i64 a] w fun e w' => e = .returned (.string (fourQ a)) ∧ Below w.heap.size w w') := fun w => spec4_any a w (by omega) (by omega)
      have HFl : Hid (∀ w, Calls Tryd.prog 40 #[.int .i64 (maskV l)] w fun e w' => e = .returned (.string (fourQ (maskV l))) ∧ Below w.heap.size w w') := fun w => spec4_any (maskV l) w (by omega) (by omega)
      have HFn : Hid (∀ w, Calls Tryd.prog 40 #[.int .i64 n] w fun e w' => e = .returned (.string (fourQ n)) ∧ Below w.heap.size w w') := fun w => spec4_any n w (by omega) (by omega)
      have HFm : Hid (∀ w, Calls Tryd.prog 40 #[.int .i64 m] w fun e w' => e = .returned (.string (fourQ m)) ∧ Below w.heap.size w w') := fun w => spec4_any m w (by omega) (by omega)
      have HM : Hid (∀ w, Calls Tryd.prog 36 #[.int .i64 l] w fun e w' => e = .returned (.int .i64 (maskV l)) ∧ w = w') := specMask_any l
      have s1 := wordT_size 2
      have s2 := wordT_size t
      have s3 := fourQ_size a
      have s4 := fourQ_size (maskV l)
      have s5 := fourQ_size n
      have s6 := fourQ_size m
      clear HA hgood hek HK
      generalize ripT c (es.take k) = T0 at *
      generalize wordT 2 = W2 at *
      generalize wordT t = WT at *
      generalize fourQ a = FA at *
      generalize fourQ (maskV l) = FL at *
      generalize fourQ n = FN at *
      generalize fourQ m = FM at *
      generalize maskV l = M at *
      go_wp2_with fail
      have HR : Hid (Row (wr.alloc (.cells #[.int .i64 a, .int .i64 l, .int .i64 n, .int .i64 m, .int .i64 t] 51)) wr.heap.size 51 [.int .i64 a, .int .i64 l, .int .i64 n, .int .i64 m, .int .i64 t]) := Row.new wr _ _
      have hGN : (([(23, Is (.string T0)), (24, Is (.string W2)), (25, Is (.string (T0 ++ W2))), (26, Is (.pointer (some ⟨wr.heap.size, 4, none⟩))), (27, Is (.int .i64 t)), (28, Is (.string WT)), (29, Is (.string (T0 ++ W2 ++ WT))), (30, Is (.pointer (some ⟨wr.heap.size, 0, none⟩))), (31, Is (.pointer (some ⟨wr.heap.size, 0, none⟩))), (32, Is (.int .i64 a)), (33, Is (.string FA)), (34, Is (.string (T0 ++ W2 ++ WT ++ FA))), (35, Is (.pointer (some ⟨wr.heap.size, 0, none⟩))), (36, Is (.pointer (some ⟨wr.heap.size, 1, none⟩))), (37, Is (.int .i64 l)), (38, Is (.int .i64 M)), (39, Is (.string FL)), (40, Is (.string (T0 ++ W2 ++ WT ++ FA ++ FL))), (41, Is (.pointer (some ⟨wr.heap.size, 2, none⟩))), (42, Is (.int .i64 n)), (43, Is (.string FN)), (44, Is (.string (T0 ++ W2 ++ WT ++ FA ++ FL ++ FN))), (45, Is (.pointer (some ⟨wr.heap.size, 3, none⟩))), (46, Is (.int .i64 m)), (47, Is (.string FM)), (48, Is (.string (T0 ++ W2 ++ WT ++ FA ++ FL ++ FN ++ FM)))] : List (Nat × (Value → World → Prop))).map (·.1)).Nodup := by simp
      refine wp_region_steady 26 (SlotG [(23, Is (.string T0)), (24, Is (.string W2)), (25, Is (.string (T0 ++ W2))), (26, Is (.pointer (some ⟨wr.heap.size, 4, none⟩))), (27, Is (.int .i64 t)), (28, Is (.string WT)), (29, Is (.string (T0 ++ W2 ++ WT))), (30, Is (.pointer (some ⟨wr.heap.size, 0, none⟩))), (31, Is (.pointer (some ⟨wr.heap.size, 0, none⟩))), (32, Is (.int .i64 a)), (33, Is (.string FA)), (34, Is (.string (T0 ++ W2 ++ WT ++ FA))), (35, Is (.pointer (some ⟨wr.heap.size, 0, none⟩))), (36, Is (.pointer (some ⟨wr.heap.size, 1, none⟩))), (37, Is (.int .i64 l)), (38, Is (.int .i64 M)), (39, Is (.string FL)), (40, Is (.string (T0 ++ W2 ++ WT ++ FA ++ FL))), (41, Is (.pointer (some ⟨wr.heap.size, 2, none⟩))), (42, Is (.int .i64 n)), (43, Is (.string FN)), (44, Is (.string (T0 ++ W2 ++ WT ++ FA ++ FL ++ FN))), (45, Is (.pointer (some ⟨wr.heap.size, 3, none⟩))), (46, Is (.int .i64 m)), (47, Is (.string FM)), (48, Is (.string (T0 ++ W2 ++ WT ++ FA ++ FL ++ FN ++ FM)))]) (by kernel_rfl) (by kernel_rfl) (Stabs.all ⟨stab_is _, stab_is _, stab_is _, stab_is _, stab_is _, stab_is _, stab_is _, stab_is _, stab_is _, stab_is _, stab_is _, stab_is _, stab_is _, stab_is _, stab_is _, stab_is _, stab_is _, stab_is _, stab_is _, stab_is _, stab_is _, stab_is _, stab_is _, stab_is _, stab_is _, stab_is _, trivial⟩) ?_ ?_
      · intro o ho
        simp only [List.take_succ_cons, List.take_zero, List.mem_cons, List.not_mem_nil, or_false] at ho
        rcases ho with rfl | rfl | rfl | rfl | rfl | rfl | rfl | rfl | rfl | rfl | rfl | rfl | rfl | rfl | rfl | rfl | rfl | rfl | rfl | rfl | rfl | rfl | rfl | rfl | rfl | rfl
        · intro a' w' hb ha hdep
          have d3 : a'.tmps.getD 3 undef = .string T0 := ha.at 3 (by kernel_rfl)
          have hmk := fun (x : Value) (W : World) => SlotG.mk (x := x) (w := W) 0 rfl hGN
          clear hGN ha hdep
          go_simp
          exact ⟨_, rfl, Below.refl _ _, hmk _ _ rfl⟩
        · intro a' w' hb ha hdep
          have hmk := fun (x : Value) (W : World) => SlotG.mk (x := x) (w := W) 1 rfl hGN
          clear hGN ha hdep
          go_simp
          refine (HW2.out _).mono ?_
          rintro e w2 ⟨rfl, hb2⟩
          exact ⟨_, rfl, hb2, hmk _ _ rfl⟩
        · intro a' w' hb ha hdep
          have d23 : a'.tmps.getD 23 undef = .string T0 := (hdep 23 (of_decide_eq_true (by kernel_rfl))).is 0 rfl
          have d24 : a'.tmps.getD 24 undef = .string W2 := (hdep 24 (of_decide_eq_true (by kernel_rfl))).is 1 rfl
          have hmk := fun (x : Value) (W : World) => SlotG.mk (x := x) (w := W) 2 rfl hGN
          clear hGN ha hdep
          have hs : ¬ 9223372036854775807 < T0.size + 2 := by omega
          go_simp
          exact ⟨_, rfl, Below.refl _ _, hmk _ _ rfl⟩
        · intro a' w' hb ha hdep
          have d5 : a'.tmps.getD 5 undef = .pointer (some ⟨wr.heap.size, 0, none⟩) := ha.at 5 (by kernel_rfl)
          have hmk := fun (x : Value) (W : World) => SlotG.mk (x := x) (w := W) 3 rfl hGN
          clear hGN ha hdep
          go_simp
          exact ⟨_, rfl, Below.refl _ _, hmk _ _ rfl⟩
        · intro a' w' hb ha hdep
          have d26 : a'.tmps.getD 26 undef = .pointer (some ⟨wr.heap.size, 4, none⟩) := (hdep 26 (of_decide_eq_true (by kernel_rfl))).is 3 rfl
          have hmk := fun (x : Value) (W : World) => SlotG.mk (x := x) (w := W) 4 rfl hGN
          clear hGN ha hdep
          have c4 : w'.cell? ⟨wr.heap.size, 4, none⟩ = some (.int .i64 t) := (HR.out.below hb HR.out.lt).cell 4
          go_simp
          exact ⟨_, rfl, Below.refl _ _, hmk _ _ rfl⟩
        · intro a' w' hb ha hdep
          have d27 : a'.tmps.getD 27 undef = .int .i64 t := (hdep 27 (of_decide_eq_true (by kernel_rfl))).is 4 rfl
          have hmk := fun (x : Value) (W : World) => SlotG.mk (x := x) (w := W) 5 rfl hGN
          clear hGN ha hdep
          go_simp
          refine (HWt.out _).mono ?_
          rintro e w2 ⟨rfl, hb2⟩
          exact ⟨_, rfl, hb2, hmk _ _ rfl⟩
        · intro a' w' hb ha hdep
          have d25 : a'.tmps.getD 25 undef = .string (T0 ++ W2) := (hdep 25 (of_decide_eq_true (by kernel_rfl))).is 2 rfl
          have d28 : a'.tmps.getD 28 undef = .string WT := (hdep 28 (of_decide_eq_true (by kernel_rfl))).is 5 rfl
          have hmk := fun (x : Value) (W : World) => SlotG.mk (x := x) (w := W) 6 rfl hGN
          clear hGN ha hdep
          have hs : ¬ 9223372036854775807 < T0.size + 2 + 2 := by omega
          go_simp
          exact ⟨_, rfl, Below.refl _ _, hmk _ _ rfl⟩
        · intro a' w' hb ha hdep
          have d5 : a'.tmps.getD 5 undef = .pointer (some ⟨wr.heap.size, 0, none⟩) := ha.at 5 (by kernel_rfl)
          have hmk := fun (x : Value) (W : World) => SlotG.mk (x := x) (w := W) 7 rfl hGN
          clear hGN ha hdep
          go_simp
          exact ⟨_, rfl, Below.refl _ _, hmk _ _ rfl⟩
        · intro a' w' hb ha hdep
          have d30 : a'.tmps.getD 30 undef = .pointer (some ⟨wr.heap.size, 0, none⟩) := (hdep 30 (of_decide_eq_true (by kernel_rfl))).is 7 rfl
          have hmk := fun (x : Value) (W : World) => SlotG.mk (x := x) (w := W) 8 rfl hGN
          clear hGN ha hdep
          go_simp
          exact ⟨_, rfl, Below.refl _ _, hmk _ _ rfl⟩
        · intro a' w' hb ha hdep
          have d31 : a'.tmps.getD 31 undef = .pointer (some ⟨wr.heap.size, 0, none⟩) := (hdep 31 (of_decide_eq_true (by kernel_rfl))).is 8 rfl
          have hmk := fun (x : Value) (W : World) => SlotG.mk (x := x) (w := W) 9 rfl hGN
          clear hGN ha hdep
          have c0 : w'.cell? ⟨wr.heap.size, 0, none⟩ = some (.int .i64 a) := (HR.out.below hb HR.out.lt).cell 0
          go_simp
          exact ⟨_, rfl, Below.refl _ _, hmk _ _ rfl⟩
        · intro a' w' hb ha hdep
          have d32 : a'.tmps.getD 32 undef = .int .i64 a := (hdep 32 (of_decide_eq_true (by kernel_rfl))).is 9 rfl
          have hmk := fun (x : Value) (W : World) => SlotG.mk (x := x) (w := W) 10 rfl hGN
          clear hGN ha hdep
          go_simp
          refine (HFa.out _).mono ?_
          rintro e w2 ⟨rfl, hb2⟩
          exact ⟨_, rfl, hb2, hmk _ _ rfl⟩
        · intro a' w' hb ha hdep
          have d29 : a'.tmps.getD 29 undef = .string (T0 ++ W2 ++ WT) := (hdep 29 (of_decide_eq_true (by kernel_rfl))).is 6 rfl
          have d33 : a'.tmps.getD 33 undef = .string FA := (hdep 33 (of_decide_eq_true (by kernel_rfl))).is 10 rfl
          have hmk := fun (x : Value) (W : World) => SlotG.mk (x := x) (w := W) 11 rfl hGN
          clear hGN ha hdep
          have hs : ¬ 9223372036854775807 < T0.size + 2 + 2 + 4 := by omega
          go_simp
          exact ⟨_, rfl, Below.refl _ _, hmk _ _ rfl⟩
        · intro a' w' hb ha hdep
          have d5 : a'.tmps.getD 5 undef = .pointer (some ⟨wr.heap.size, 0, none⟩) := ha.at 5 (by kernel_rfl)
          have hmk := fun (x : Value) (W : World) => SlotG.mk (x := x) (w := W) 12 rfl hGN
          clear hGN ha hdep
          go_simp
          exact ⟨_, rfl, Below.refl _ _, hmk _ _ rfl⟩
        · intro a' w' hb ha hdep
          have d35 : a'.tmps.getD 35 undef = .pointer (some ⟨wr.heap.size, 0, none⟩) := (hdep 35 (of_decide_eq_true (by kernel_rfl))).is 12 rfl
          have hmk := fun (x : Value) (W : World) => SlotG.mk (x := x) (w := W) 13 rfl hGN
          clear hGN ha hdep
          go_simp
          exact ⟨_, rfl, Below.refl _ _, hmk _ _ rfl⟩
        · intro a' w' hb ha hdep
          have d36 : a'.tmps.getD 36 undef = .pointer (some ⟨wr.heap.size, 1, none⟩) := (hdep 36 (of_decide_eq_true (by kernel_rfl))).is 13 rfl
          have hmk := fun (x : Value) (W : World) => SlotG.mk (x := x) (w := W) 14 rfl hGN
          clear hGN ha hdep
          have c1 : w'.cell? ⟨wr.heap.size, 1, none⟩ = some (.int .i64 l) := (HR.out.below hb HR.out.lt).cell 1
          go_simp
          exact ⟨_, rfl, Below.refl _ _, hmk _ _ rfl⟩
        · intro a' w' hb ha hdep
          have d37 : a'.tmps.getD 37 undef = .int .i64 l := (hdep 37 (of_decide_eq_true (by kernel_rfl))).is 14 rfl
          have hmk := fun (x : Value) (W : World) => SlotG.mk (x := x) (w := W) 15 rfl hGN
          clear hGN ha hdep
          go_simp
          refine (HM.out _).mono ?_
          rintro e w2 ⟨rfl, rfl⟩
          exact ⟨_, rfl, Below.refl _ _, hmk _ _ rfl⟩
        · intro a' w' hb ha hdep
          have d38 : a'.tmps.getD 38 undef = .int .i64 M := (hdep 38 (of_decide_eq_true (by kernel_rfl))).is 15 rfl
          have hmk := fun (x : Value) (W : World) => SlotG.mk (x := x) (w := W) 16 rfl hGN
          clear hGN ha hdep
          go_simp
          refine (HFl.out _).mono ?_
          rintro e w2 ⟨rfl, hb2⟩
          exact ⟨_, rfl, hb2, hmk _ _ rfl⟩
        · intro a' w' hb ha hdep
          have d34 : a'.tmps.getD 34 undef = .string (T0 ++ W2 ++ WT ++ FA) := (hdep 34 (of_decide_eq_true (by kernel_rfl))).is 11 rfl
          have d39 : a'.tmps.getD 39 undef = .string FL := (hdep 39 (of_decide_eq_true (by kernel_rfl))).is 16 rfl
          have hmk := fun (x : Value) (W : World) => SlotG.mk (x := x) (w := W) 17 rfl hGN
          clear hGN ha hdep
          have hs : ¬ 9223372036854775807 < T0.size + 2 + 2 + 4 + 4 := by omega
          go_simp
          exact ⟨_, rfl, Below.refl _ _, hmk _ _ rfl⟩
        · intro a' w' hb ha hdep
          have d5 : a'.tmps.getD 5 undef = .pointer (some ⟨wr.heap.size, 0, none⟩) := ha.at 5 (by kernel_rfl)
          have hmk := fun (x : Value) (W : World) => SlotG.mk (x := x) (w := W) 18 rfl hGN
          clear hGN ha hdep
          go_simp
          exact ⟨_, rfl, Below.refl _ _, hmk _ _ rfl⟩
        · intro a' w' hb ha hdep
          have d41 : a'.tmps.getD 41 undef = .pointer (some ⟨wr.heap.size, 2, none⟩) := (hdep 41 (of_decide_eq_true (by kernel_rfl))).is 18 rfl
          have hmk := fun (x : Value) (W : World) => SlotG.mk (x := x) (w := W) 19 rfl hGN
          clear hGN ha hdep
          have c2 : w'.cell? ⟨wr.heap.size, 2, none⟩ = some (.int .i64 n) := (HR.out.below hb HR.out.lt).cell 2
          go_simp
          exact ⟨_, rfl, Below.refl _ _, hmk _ _ rfl⟩
        · intro a' w' hb ha hdep
          have d42 : a'.tmps.getD 42 undef = .int .i64 n := (hdep 42 (of_decide_eq_true (by kernel_rfl))).is 19 rfl
          have hmk := fun (x : Value) (W : World) => SlotG.mk (x := x) (w := W) 20 rfl hGN
          clear hGN ha hdep
          go_simp
          refine (HFn.out _).mono ?_
          rintro e w2 ⟨rfl, hb2⟩
          exact ⟨_, rfl, hb2, hmk _ _ rfl⟩
        · intro a' w' hb ha hdep
          have d40 : a'.tmps.getD 40 undef = .string (T0 ++ W2 ++ WT ++ FA ++ FL) := (hdep 40 (of_decide_eq_true (by kernel_rfl))).is 17 rfl
          have d43 : a'.tmps.getD 43 undef = .string FN := (hdep 43 (of_decide_eq_true (by kernel_rfl))).is 20 rfl
          have hmk := fun (x : Value) (W : World) => SlotG.mk (x := x) (w := W) 21 rfl hGN
          clear hGN ha hdep
          have hs : ¬ 9223372036854775807 < T0.size + 2 + 2 + 4 + 4 + 4 := by omega
          go_simp
          exact ⟨_, rfl, Below.refl _ _, hmk _ _ rfl⟩
        · intro a' w' hb ha hdep
          have d5 : a'.tmps.getD 5 undef = .pointer (some ⟨wr.heap.size, 0, none⟩) := ha.at 5 (by kernel_rfl)
          have hmk := fun (x : Value) (W : World) => SlotG.mk (x := x) (w := W) 22 rfl hGN
          clear hGN ha hdep
          go_simp
          exact ⟨_, rfl, Below.refl _ _, hmk _ _ rfl⟩
        · intro a' w' hb ha hdep
          have d45 : a'.tmps.getD 45 undef = .pointer (some ⟨wr.heap.size, 3, none⟩) := (hdep 45 (of_decide_eq_true (by kernel_rfl))).is 22 rfl
          have hmk := fun (x : Value) (W : World) => SlotG.mk (x := x) (w := W) 23 rfl hGN
          clear hGN ha hdep
          have c3 : w'.cell? ⟨wr.heap.size, 3, none⟩ = some (.int .i64 m) := (HR.out.below hb HR.out.lt).cell 3
          go_simp
          exact ⟨_, rfl, Below.refl _ _, hmk _ _ rfl⟩
        · intro a' w' hb ha hdep
          have d46 : a'.tmps.getD 46 undef = .int .i64 m := (hdep 46 (of_decide_eq_true (by kernel_rfl))).is 23 rfl
          have hmk := fun (x : Value) (W : World) => SlotG.mk (x := x) (w := W) 24 rfl hGN
          clear hGN ha hdep
          go_simp
          refine (HFm.out _).mono ?_
          rintro e w2 ⟨rfl, hb2⟩
          exact ⟨_, rfl, hb2, hmk _ _ rfl⟩
        · intro a' w' hb ha hdep
          have d44 : a'.tmps.getD 44 undef = .string (T0 ++ W2 ++ WT ++ FA ++ FL ++ FN) := (hdep 44 (of_decide_eq_true (by kernel_rfl))).is 21 rfl
          have d47 : a'.tmps.getD 47 undef = .string FM := (hdep 47 (of_decide_eq_true (by kernel_rfl))).is 24 rfl
          have hmk := fun (x : Value) (W : World) => SlotG.mk (x := x) (w := W) 25 rfl hGN
          clear hGN ha hdep
          have hs : ¬ 9223372036854775807 < T0.size + 2 + 2 + 4 + 4 + 4 + 4 := by omega
          go_simp
          exact ⟨_, rfl, Below.refl _ _, hmk _ _ rfl⟩
      · intro a' w' hb' ha hG
        clear hGN
        have d48 : a'.tmps.getD 48 undef = .string (T0 ++ W2 ++ WT ++ FA ++ FL ++ FN ++ FM) := (hG _ (List.mem_of_getElem? (i := 25) rfl) 48 rfl).is 25 rfl
        have d0 : a'.tmps.getD 0 undef = .agg #[.int .i64 c, .slice (some ⟨g, 0, none⟩) es.length cap] := ha.at 0 (by kernel_rfl)
        have d1 : a'.tmps.getD 1 undef = .pointer (some ⟨w.heap.size, 0, none⟩) := ha.at 1 (by kernel_rfl)
        have d2 : a'.tmps.getD 2 undef = .string ⟨#[]⟩ := ha.at 2 (by kernel_rfl)
        have d4 : a'.tmps.getD 4 undef = .int .i64 (k : Int) := ha.at 4 (by kernel_rfl)
        have d6 : a'.tmps.getD 6 undef = .pointer (some ⟨w.heap.size, 0, none⟩) := ha.at 6 (by kernel_rfl)
        have d7 : a'.tmps.getD 7 undef = .int .i64 c := ha.at 7 (by kernel_rfl)
        have d8 : a'.tmps.getD 8 undef = .int .u8 c := ha.at 8 (by kernel_rfl)
        have d9 : a'.tmps.getD 9 undef = .slice (some ⟨w.heap.size + 1, 0, none⟩) 4 4 := ha.at 9 (by kernel_rfl)
        have d10 : a'.tmps.getD 10 undef = .string HD := ha.at 10 (by kernel_rfl)
        have d49 : a'.tmps.getD 49 undef = undef := ha.at 49 (by kernel_rfl)
        have e2 : a' = ⟨#[a'.tmps.getD 0 undef, a'.tmps.getD 1 undef, a'.tmps.getD 2 undef, a'.tmps.getD 3 undef, a'.tmps.getD 4 undef, a'.tmps.getD 5 undef, a'.tmps.getD 6 undef, a'.tmps.getD 7 undef, a'.tmps.getD 8 undef, a'.tmps.getD 9 undef, a'.tmps.getD 10 undef, a'.tmps.getD 11 undef, a'.tmps.getD 12 undef, a'.tmps.getD 13 undef, a'.tmps.getD 14 undef, a'.tmps.getD 15 undef, a'.tmps.getD 16 undef, a'.tmps.getD 17 undef, a'.tmps.getD 18 undef, a'.tmps.getD 19 undef, a'.tmps.getD 20 undef, a'.tmps.getD 21 undef, a'.tmps.getD 22 undef, a'.tmps.getD 23 undef, a'.tmps.getD 24 undef, a'.tmps.getD 25 undef, a'.tmps.getD 26 undef, a'.tmps.getD 27 undef, a'.tmps.getD 28 undef, a'.tmps.getD 29 undef, a'.tmps.getD 30 undef, a'.tmps.getD 31 undef, a'.tmps.getD 32 undef, a'.tmps.getD 33 undef, a'.tmps.getD 34 undef, a'.tmps.getD 35 undef, a'.tmps.getD 36 undef, a'.tmps.getD 37 undef, a'.tmps.getD 38 undef, a'.tmps.getD 39 undef, a'.tmps.getD 40 undef, a'.tmps.getD 41 undef, a'.tmps.getD 42 undef, a'.tmps.getD 43 undef, a'.tmps.getD 44 undef, a'.tmps.getD 45 undef, a'.tmps.getD 46 undef, a'.tmps.getD 47 undef, a'.tmps.getD 48 undef, a'.tmps.getD 49 undef], []⟩ := by rw [← (show a'.defers = [] from ha.2.1)]; exact act_eq a' 50 ha.1
        rw [d48, d0, d1, d2, d4, d6, d7, d8, d9, d10, d49] at e2
        clear hG ha d48 d0 d1 d2 d4 d6 d7 d8 d9 d10 d49
        generalize a'.tmps.getD 3 undef = x3 at *
        generalize a'.tmps.getD 5 undef = x5 at *
        generalize a'.tmps.getD 11 undef = x11 at *
        generalize a'.tmps.getD 12 undef = x12 at *
        generalize a'.tmps.getD 13 undef = x13 at *
        generalize a'.tmps.getD 14 undef = x14 at *
        generalize a'.tmps.getD 15 undef = x15 at *
        generalize a'.tmps.getD 16 undef = x16 at *
        generalize a'.tmps.getD 17 undef = x17 at *
        generalize a'.tmps.getD 18 undef = x18 at *
        generalize a'.tmps.getD 19 undef = x19 at *
        generalize a'.tmps.getD 20 undef = x20 at *
        generalize a'.tmps.getD 21 undef = x21 at *
        generalize a'.tmps.getD 22 undef = x22 at *
        generalize a'.tmps.getD 23 undef = x23 at *
        generalize a'.tmps.getD 24 undef = x24 at *
        generalize a'.tmps.getD 25 undef = x25 at *
        generalize a'.tmps.getD 26 undef = x26 at *
        generalize a'.tmps.getD 27 undef = x27 at *
        generalize a'.tmps.getD 28 undef = x28 at *
        generalize a'.tmps.getD 29 undef = x29 at *
        generalize a'.tmps.getD 30 undef = x30 at *
        generalize a'.tmps.getD 31 undef = x31 at *
        generalize a'.tmps.getD 32 undef = x32 at *
        generalize a'.tmps.getD 33 undef = x33 at *
        generalize a'.tmps.getD 34 undef = x34 at *
        generalize a'.tmps.getD 35 undef = x35 at *
        generalize a'.tmps.getD 36 undef = x36 at *
        generalize a'.tmps.getD 37 undef = x37 at *
        generalize a'.tmps.getD 38 undef = x38 at *
        generalize a'.tmps.getD 39 undef = x39 at *
        generalize a'.tmps.getD 40 undef = x40 at *
        generalize a'.tmps.getD 41 undef = x41 at *
        generalize a'.tmps.getD 42 undef = x42 at *
        generalize a'.tmps.getD 43 undef = x43 at *
        generalize a'.tmps.getD 44 undef = x44 at *
        generalize a'.tmps.getD 45 undef = x45 at *
        generalize a'.tmps.getD 46 undef = x46 at *
        generalize a'.tmps.getD 47 undef = x47 at *
        subst e2
        simp only [List.drop_succ_cons, List.drop_zero]
        have hb2 := hb.trans (((ent_new0 wr (.cells #[.int .i64 a, .int .i64 l, .int .i64 n, .int .i64 m, .int .i64 t] 51)).trans (hb'.mono (by simp))).mono (by have := hb.size; simp at this; omega))
        rw [HN.out]
        clear hb' HN HW2 HWt HFa HFl HFn HFm HM HR c0 c1 c2 c3 c4 s1 s2 s3 s4 s5 s6 hsz x1 hconv hB0
        go_wp2
        go_roundw
        case rel => exact ⟨k + 1, hlt, by go_num, rfl, hb2⟩
        case measure => simp [intOf]; omega
    · obtain rfl : k = es.length := by omega
      rw [HF.out]
      clear hlt hk
      go_wp2
      go_ret
      exact ⟨rfl, hbw⟩
set_option maxRecDepth 100000 in
theorem specRipBytes_any (c : Int) (p : Option Addr) (cap : Nat) (es : List Ent) (w : World) (h : EntsIn w p es) (hn : es.length ≤ 100000000) :
    Calls Tryd.prog 24 #[ripV c p es.length cap] w fun e w' => e = .returned (.string (ripO c es)) ∧ Below w.heap.size w w' := by
  have HR : Hid (∀ w, EntsIn w p es → Calls Tryd.prog 25 #[ripV c p es.length cap] w fun e w' => e = .returned (.bool (ripB c es)) ∧ Below w.heap.size w w') := fun w h => specRipRight_any c p cap es w h hn
  have HX : Hid (EntsIn w p es) := h
  clear h
  by_cases hr : ripB c es = true
  · have HO : Hid (ripO c es = ripT c es) := if_pos hr
    have HB : Hid (∀ w, EntsIn w p es → Calls Tryd.prog 37 #[ripV c p es.length cap] w fun e w' => e = .returned (.string (ripT c es)) ∧ Below w.heap.size w w') := fun w h => spec05Bytes_any c p cap es w h hr
    rw [hr] at HR
    rw [HO.out]
    unfold ripV at *
    clear hr HO
    generalize ripT c es = RT at *
    go_enter Tryd.func24, Tryd.ntmps24
    go_wp2_with fail
    refine (HR.out _ (HX.out.alloc _)).mono ?_
    rintro e w1 ⟨rfl, hb1⟩
    obtain ⟨c0, c1, hs1, hB1⟩ := cell2_later rfl hb1
    clear hb1 HR
    go_wp2_with fail
    refine (HB.out _ (HX.out.below hB1)).mono ?_
    rintro e w2 ⟨rfl, hb2⟩
    have hB2 := hB1.trans (hb2.mono hB1.size)
    clear hb2
    go_wp2
    go_ret
    exact ⟨rfl, hB2⟩
  · have HO : Hid (ripO c es = ByteArray.empty) := if_neg hr
    have hr' : ripB c es = false := by simpa using hr
    rw [hr'] at HR
    rw [HO.out]
    unfold ripV at *
    go_enter Tryd.func24, Tryd.ntmps24
    go_wp2_with fail
    refine (HR.out _ (HX.out.alloc _)).mono ?_
    rintro e w1 ⟨rfl, hb1⟩
    have hB1 := (ent_new0 w _).trans (hb1.mono (by simp))
    clear hb1
    go_wp2
    go_ret
    exact ⟨rfl, hB1⟩
end Go.Proofs.YtkkhjeigndcmaaaDoor
/- The number in some bytes, of the model. -/
namespace Go.Proofs.YtkkhjeigndcmaaaDoor
open Go.RowKit

set_option maxRecDepth 100000 in
theorem specGet_any (t : ByteArray) (w : World) (hl : t.size ≤ 4) :
    Calls Tryd.prog 13 #[.string t] w fun e w' => e = .returned (.int .i64 (numL t.data.toList : Int)) ∧ w = w' := by
  have hts : t.data.toList.length = t.size := by simp
  have HP : Hid (∀ k, k ≤ 4 → numL (t.data.toList.take k) < 4294967296) := by
    intro k hk
    have h1 := numL_lt (t.data.toList.take k)
    have h2 : 256 ^ (t.data.toList.take k).length ≤ 256 ^ 4 := Nat.pow_le_pow_right (by decide) (by rw [List.length_take]; omega)
    omega
  have H0 : Hid (numL (t.data.toList.take 0) = 0) := rfl
  have HS : Hid (∀ k, (h : k < t.size) → numL (t.data.toList.take (k + 1)) = 256 * numL (t.data.toList.take k) + t[k].toNat) := fun k h => numL_take t.data.toList k (by simpa using h)
  have HE : Hid (numL (t.data.toList.take t.size) = numL t.data.toList) := by rw [Hid, ← hts, List.take_length]
  generalize numL t.data.toList = R at *
  generalize hf : (fun k => numL (t.data.toList.take k)) = f
  have e : ∀ k, numL (t.data.toList.take k) = f k := fun k => by rw [← hf]
  simp only [e] at HP H0 HS HE
  clear e hf hts
  go_enter Tryd.func13, Tryd.ntmps13
  go_wp2_with fail
  go_loop [3, 4] (fun v i => ∃ k : Nat, k ≤ t.size ∧ i = .int .i64 (k : Int) ∧ v = .int .i64 (f k : Int)) (fun _ i => t.size - (intOf i).toNat)
  case atStart => exact ⟨0, by omega, rfl, by rw [H0.out]; rfl⟩
  case round =>
    obtain ⟨k, hk, rfl, rfl⟩ := hrel
    by_cases hlt : k < t.size
    · have hb := t[k].toNat_lt
      have hf1 := HP.out k (by omega)
      have hN : Hid (f (k + 1) = 256 * f k + t[k].toNat) := HS.out k hlt
      have hw1 := wrap_i64_in (256 * (f k : Int)) (by omega) (by omega)
      have hw2 := wrap_i64_in (256 * (f k : Int) + (t[k].toNat : Int)) (by omega) (by omega)
      generalize hfk : f k = n at *
      clear hfk
      go_wp2
      go_round
      case rel => exact ⟨k + 1, by omega, by go_num, by rw [hN.out]; go_num⟩
      case measure => simp [intOf]; omega
    · obtain rfl : k = t.size := by omega
      rw [HE.out]
      go_wp2
      go_ret
      exact ⟨rfl, rfl⟩
end Go.Proofs.YtkkhjeigndcmaaaDoor
