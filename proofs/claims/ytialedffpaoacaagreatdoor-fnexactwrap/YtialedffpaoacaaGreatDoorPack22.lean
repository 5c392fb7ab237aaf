/- Texts that stand on each other, in one file: SignI, FrmdI. -/
import Derived.Test.YtialedffpaoacaaGreatDoorPack15
import Derived.Test.YtialedffpaoacaaGreatDoorPack16
import Derived.Test.YtialedffpaoacaaGreatDoorJoined
import Derived.Test.YtialedffpaoacaaGreatDoorPack11
/- What is signed, of the program. -/
namespace Go.Proofs.YtialedffpaoacaaGreatDoor
open Go.RowKit Go.Sort

set_option maxRecDepth 100000 in
set_option maxHeartbeats 1000000 in
theorem aheadOf_any (c : Int) (p : Option Addr) (cap : Nat) (es : List Ent) (seq : Int) (w : World) (h : EntsIn w p es) (hn : es.length ≤ 100000000) (hq : (-9223372036854775808 : Int) ≤ seq ∧ seq ≤ 9223372036854775807) :
    Calls Tryz.prog 145 #[ripV c p es.length cap, .int .i64 seq] w fun e w' => e = .returned (.string (aheadO c es seq)) ∧ Below w.heap.size w w' := by
  have HR : Hid (∀ w, EntsIn w p es → Calls Tryz.prog 181 #[ripV c p es.length cap] w fun e w' => e = .returned (.string (ripO c es)) ∧ Below w.heap.size w w') := fun w h => implRipBytes_any c p cap es w h hn
  have HX : Hid (EntsIn w p es) := h
  have HQ : Hid (∀ w, Calls Tryz.prog 182 #[.int .i64 seq] w fun e w' => e = .returned (.bool (inSeq seq)) ∧ w = w') := seqRight_any seq
  clear h
  by_cases hr : ripB c es = true
  · have HO : Hid (ripO c es = ripT c es) := if_pos hr
    have h8 := (ripB_spec hr).2.1
    have hsz := ripT_size c es
    have hpos := text_pos (a := ripT c es) (by omega)
    rw [HO.out] at HR
    by_cases hs : inSeq seq = true
    · have HA : Hid (aheadO c es seq = ripT c es ++ markT seq) := if_pos ⟨hr, hs⟩
      have hseq : 1 ≤ seq ∧ seq ≤ 1000000 := by simpa [inSeq] using hs
      rw [hs] at HQ
      rw [HA.out]
      have HW : Hid (∀ (W : World) g, Row W g 2 (valsN [65535, 3, seq / 65536, seq]) → Calls Tryz.prog 149 #[.slice (some ⟨g, 0, none⟩) 4 4] W fun e w' => ∃ u, e = .returned u ∧ Own w' W.heap.size 5 u (cellsB (markL seq)) ∧ Below W.heap.size W w') :=
        fun W g hr => implWords_any [65535, 3, seq / 65536, seq] g 4 W hr rfl (by simp) (by intro n hn; simp only [List.mem_cons, List.not_mem_nil, or_false] at hn; omega)
      have HJ : Hid (∀ w, Calls Tryz.prog 146 #[.string (ripT c es), .string (markT seq)] w fun e w' => e = .returned (.string (ripT c es ++ markT seq)) ∧ Below w.heap.size w w') := fun w => joined_any _ _ w (by omega) (by rw [markT_size]; omega)
      have HCv : Hid (∀ (W : World) (base : Nat) (v : Value), Own W base 5 v (cellsB (markL seq)) → (convert 150 9 v).run Tryz.prog W = .ok (.string (markT seq)) W) := fun W base v h => own_conv (t := markT seq) h (by intro h0; have := congrArg List.length h0; rw [markL_length] at this; simp at this) rfl
      unfold ripV at *
      clear hr hs HA HO hsz
      generalize ripT c es ++ markT seq = AT at *
      generalize ripT c es = RT at *
      generalize markT seq = MT at *
      go_enter Tryz.func145, Tryz.ntmps145
      go_wp2_with fail
      refine (HR.out _ (HX.out.alloc _)).mono ?_
      rintro e w1 ⟨rfl, hb1⟩
      have hB1 := (ent_new0 w _).trans (hb1.mono (by simp))
      clear hb1
      go_wp2_with fail
      refine (HQ.out _).mono ?_
      rintro e w2 ⟨rfl, rfl⟩
      go_wp2_with fail
      have hrow := Row.new w1 2 [.int .i64 65535, .int .i64 3, .int .i64 (seq / 65536), .int .i64 seq]
      refine (HW.out _ _ hrow).mono ?_
      rintro e w2 ⟨u, rfl, ho, hb2⟩
      have hconv := HCv.out _ _ _ ho
      have hB2 := hB1.trans (((ent_new0 w1 _).trans (hb2.mono (by simp))).mono hB1.size)
      clear hb2 hrow ho
      go_wp2_with fail
      refine (HJ.out _).mono ?_
      rintro e w3 ⟨rfl, hb3⟩
      have hB3 := hB2.trans (hb3.mono hB2.size)
      clear hb3 hconv
      go_wp2
      go_ret
      exact ⟨rfl, hB3⟩
    · have hs' : inSeq seq = false := by simpa using hs
      have HA : Hid (aheadO c es seq = ByteArray.empty) := if_neg (fun h => hs h.2)
      rw [hs'] at HQ
      rw [HA.out]
      unfold ripV at *
      generalize ripT c es = RT at *
      go_enter Tryz.func145, Tryz.ntmps145
      go_wp2_with fail
      refine (HR.out _ (HX.out.alloc _)).mono ?_
      rintro e w1 ⟨rfl, hb1⟩
      have hB1 := (ent_new0 w _).trans (hb1.mono (by simp))
      clear hb1
      go_wp2_with fail
      refine (HQ.out _).mono ?_
      rintro e w2 ⟨rfl, rfl⟩
      go_wp2
      go_ret
      exact ⟨rfl, hB1⟩
  · have HO : Hid (ripO c es = ByteArray.empty) := if_neg hr
    have HA : Hid (aheadO c es seq = ByteArray.empty) := if_neg (fun h => hr h.1)
    rw [HO.out] at HR
    rw [HA.out]
    unfold ripV at *
    go_enter Tryz.func145, Tryz.ntmps145
    go_wp2_with fail
    refine (HR.out _ (HX.out.alloc _)).mono ?_
    rintro e w1 ⟨rfl, hb1⟩
    have hB1 := (ent_new0 w _).trans (hb1.mono (by simp))
    clear hb1
    go_wp2
    go_ret
    exact ⟨rfl, hB1⟩
set_option maxRecDepth 100000 in
set_option maxHeartbeats 1000000 in
theorem implRipSign_any (c : Int) (p : Option Addr) (cap : Nat) (es : List Ent) (k : ByteArray) (seq : Int) (w : World) (h : EntsIn w p es) (hn : es.length ≤ 100000000) (hk : k.size ≤ maxLen) (hq : (-9223372036854775808 : Int) ≤ seq ∧ seq ≤ 9223372036854775807) (hL : Laid w) :
    Calls Tryz.prog 103 #[ripV c p es.length cap, .string k, .int .i64 seq] w fun e w' => e = .returned (.string (signO c es k seq)) ∧ Below w.heap.size w w' := by
  have HR : Hid (∀ w, EntsIn w p es → Calls Tryz.prog 145 #[ripV c p es.length cap, .int .i64 seq] w fun e w' => e = .returned (.string (aheadO c es seq)) ∧ Below w.heap.size w w') := fun w h => aheadOf_any c p cap es seq w h hn hq
  have HX : Hid (EntsIn w p es) := h
  have HK : Hid (∀ w, Calls Tryz.prog 133 #[.string k] w fun e w' => e = .returned (.bool (inKey k)) ∧ w = w') := fun w => keyRight_any k w hk
  clear h
  by_cases hr : ripB c es = true ∧ inSeq seq = true
  · have HO : Hid (aheadO c es seq = aheadT c es seq) := if_pos hr
    have h8 := (ripB_spec hr.1).2.1
    have hsz := aheadT_size c es seq
    have hpos := text_pos (a := aheadT c es seq) (by omega)
    rw [HO.out] at HR
    by_cases hs : inKey k = true
    · have HA : Hid (signO c es k seq = aheadT c es seq ++ shortT k (aheadT c es seq)) := if_pos ⟨hr.1, hr.2, hs⟩
      have hk2 : 1 ≤ k.size ∧ k.size ≤ 32 := by simpa [inKey] using hs
      rw [hs] at HK
      rw [HA.out]
      have HS : Hid (∀ w, Laid w → Calls Tryz.prog 147 #[.string k, .string (aheadT c es seq)] w fun e w' => e = .returned (.string (shortT k (aheadT c es seq))) ∧ Below w.heap.size w w') := fun w hL => shortMac_any k _ w (by omega) (by omega) hL
      have HJ : Hid (∀ w, Calls Tryz.prog 146 #[.string (aheadT c es seq), .string (shortT k (aheadT c es seq))] w fun e w' => e = .returned (.string (aheadT c es seq ++ shortT k (aheadT c es seq))) ∧ Below w.heap.size w w') := fun w => joined_any _ _ w (by omega) (by rw [shortT_size]; omega)
      unfold ripV at *
      clear hr hs HA HO hsz
      generalize aheadT c es seq ++ shortT k (aheadT c es seq) = GT at *
      generalize shortT k (aheadT c es seq) = ST at *
      generalize aheadT c es seq = AT at *
      go_enter Tryz.func103, Tryz.ntmps103
      go_wp2_with fail
      refine (HR.out _ (HX.out.alloc _)).mono ?_
      rintro e w1 ⟨rfl, hb1⟩
      have hB1 := (ent_new0 w _).trans (hb1.mono (by simp))
      clear hb1
      go_wp2_with fail
      refine (HK.out _).mono ?_
      rintro e w2 ⟨rfl, rfl⟩
      go_wp2_with fail
      refine (HS.out _ (hL.below hB1)).mono ?_
      rintro e w2 ⟨rfl, hb2⟩
      have hB2 := hB1.trans (hb2.mono hB1.size)
      clear hb2
      go_wp2_with fail
      refine (HJ.out _).mono ?_
      rintro e w3 ⟨rfl, hb3⟩
      have hB3 := hB2.trans (hb3.mono hB2.size)
      clear hb3
      go_wp2
      go_ret
      exact ⟨rfl, hB3⟩
    · have hs' : inKey k = false := by simpa using hs
      have HA : Hid (signO c es k seq = ByteArray.empty) := if_neg (fun h => hs h.2.2)
      rw [hs'] at HK
      rw [HA.out]
      unfold ripV at *
      generalize aheadT c es seq = AT at *
      go_enter Tryz.func103, Tryz.ntmps103
      go_wp2_with fail
      refine (HR.out _ (HX.out.alloc _)).mono ?_
      rintro e w1 ⟨rfl, hb1⟩
      have hB1 := (ent_new0 w _).trans (hb1.mono (by simp))
      clear hb1
      go_wp2_with fail
      refine (HK.out _).mono ?_
      rintro e w2 ⟨rfl, rfl⟩
      go_wp2
      go_ret
      exact ⟨rfl, hB1⟩
  · have HO : Hid (aheadO c es seq = ByteArray.empty) := if_neg hr
    have HA : Hid (signO c es k seq = ByteArray.empty) := if_neg (fun h => hr ⟨h.1, h.2.1⟩)
    rw [HO.out] at HR
    rw [HA.out]
    unfold ripV at *
    go_enter Tryz.func103, Tryz.ntmps103
    go_wp2_with fail
    refine (HR.out _ (HX.out.alloc _)).mono ?_
    rintro e w1 ⟨rfl, hb1⟩
    have hB1 := (ent_new0 w _).trans (hb1.mono (by simp))
    clear hb1
    go_wp2
    go_ret
    exact ⟨rfl, hB1⟩
end Go.Proofs.YtialedffpaoacaaGreatDoor
/- What a neighbour says, wrapped, by the program. (Written by gen_wrap.py.) -/
namespace Go.Proofs.YtialedffpaoacaaGreatDoor
open Go.RowKit Go.Sort

set_option maxRecDepth 100000 in
set_option maxHeartbeats 4000000 in
theorem groupDgram_any (s : Int) (t : ByteArray) (w : World) : Calls Tryz.prog 106 #[.int .i64 s, .string t] w fun e w' => e = .returned (dgV s 3758096393 520 520 1 t) ∧ Below w.heap.size w w' := by
  unfold dgV
  go_enter Tryz.func106, Tryz.ntmps106
  go_wp2_with fail
  exact bodyPost_ret (v := .agg #[.int .i64 s, .int .i64 3758096393, .int .i64 520, .int .i64 520, .int .i64 1, .string t]) (by simp [results, Tryz.results106, go_sem]) rfl ⟨rfl, ent_new0 w _⟩
/-- What is wrapped of what is said, in plain terms. -/
def frmdO (vl s : Int) (es : List Ent) (k : ByteArray) (seq : Int) : ByteArray := if signO 2 es k seq = ByteArray.empty then ByteArray.empty else frO vl (dgO s 3758096393 520 520 1 (signO 2 es k seq))
set_option maxRecDepth 100000 in
set_option maxHeartbeats 4000000 in
theorem framed_any (vl s : Int) (p : Option Addr) (cap : Nat) (es : List Ent) (k : ByteArray) (seq : Int) (w : World) (h : EntsIn w p es) (hn : es.length ≤ 100000000) (hk : k.size ≤ maxLen) (hq : (-9223372036854775808 : Int) ≤ seq ∧ seq ≤ 9223372036854775807) (hL : Laid w) :
    Calls Tryz.prog 58 #[.int .i64 vl, .int .i64 s, .slice p es.length cap, .string k, .int .i64 seq] w fun e w' => e = .returned (.string (frmdO vl s es k seq)) ∧ Below w.heap.size w w' := by
  have HSG : Hid (∀ w, EntsIn w p es → Laid w → Calls Tryz.prog 103 #[.agg #[.int .i64 2, .slice p es.length cap], .string k, .int .i64 seq] w fun e w' => e = .returned (.string (signO 2 es k seq)) ∧ Below w.heap.size w w') := fun w h hL => implRipSign_any 2 p cap es k seq w h hn hk hq hL
  have HGD : Hid (∀ (t : ByteArray) (w : World), Calls Tryz.prog 106 #[.int .i64 s, .string t] w fun e w' => e = .returned (.agg #[.int .i64 s, .int .i64 3758096393, .int .i64 520, .int .i64 520, .int .i64 1, .string t]) ∧ Below w.heap.size w w') := groupDgram_any s
  have HDB : Hid (∀ (t : ByteArray) (w : World), Calls Tryz.prog 105 #[.agg #[.int .i64 s, .int .i64 3758096393, .int .i64 520, .int .i64 520, .int .i64 1, .string t]] w fun e w' => e = .returned (.string (dgO s 3758096393 520 520 1 t)) ∧ Below w.heap.size w w') := fun t w => implDgramBytes_any s 3758096393 520 520 1 t w
  have HFB : Hid (∀ (t : ByteArray) (w : World), Calls Tryz.prog 104 #[.agg #[.int .i64 vl, .string t]] w fun e w' => e = .returned (.string (frO vl t)) ∧ Below w.heap.size w w') := fun t w => implFrameBytes_any vl t w
  have HX : Hid (EntsIn w p es ∧ Laid w) := ⟨h, hL⟩
  have HR : Hid (frmdO vl s es k seq = if signO 2 es k seq = ByteArray.empty then ByteArray.empty else frO vl (dgO s 3758096393 520 520 1 (signO 2 es k seq))) := rfl
  generalize frmdO vl s es k seq = RES at *
  clear h hL hk hq hn
  generalize signO 2 es k seq = SG at *
  go_enter Tryz.func58, Tryz.ntmps58
  go_wp2_with fail
  refine (HSG.out _ HX.out.1 HX.out.2).mono ?_
  rintro e w1 ⟨rfl, hB⟩
  clear HSG HX
  by_cases hS : SG = ByteArray.empty
  · have hr := HR.out
    rw [if_pos hS] at hr
    have HR2 : Hid (RES = ByteArray.empty) := hr
    subst hS
    clear HGD HDB HFB hr HR
    go_wp2_with fail
    go_ret
    exact ⟨by rw [HR2.out]; rfl, hB⟩
  have HR2 : Hid (RES = frO vl (dgO s 3758096393 520 520 1 SG)) := HR.out.trans (if_neg hS)
  clear HR
  have hpos := text_pos (a := SG) (fun h => hS (by cases SG with | mk d => exact congrArg ByteArray.mk (Array.eq_empty_of_size_eq_zero h)))
  clear hS
  go_wp2_with fail
  refine (HGD.out _ _).mono ?_
  rintro e w3 ⟨rfl, hb3⟩
  replace hB := hB.trans (hb3.mono hB.size)
  clear hb3 HGD hpos
  go_wp2_with fail
  refine (HDB.out _ _).mono ?_
  rintro e w4 ⟨rfl, hb4⟩
  replace hB := hB.trans (hb4.mono hB.size)
  clear hb4 HDB
  go_wp2_with fail
  refine (HFB.out _ _).mono ?_
  rintro e w5 ⟨rfl, hb5⟩
  replace hB := hB.trans (hb5.mono hB.size)
  clear hb5 HFB
  go_wp2_with fail
  go_ret
  exact ⟨by rw [HR2.out]; rfl, hB⟩
end Go.Proofs.YtialedffpaoacaaGreatDoor
