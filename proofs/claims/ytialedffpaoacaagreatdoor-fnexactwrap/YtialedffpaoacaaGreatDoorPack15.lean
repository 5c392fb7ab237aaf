/- Texts that stand on each other, in one file: KeyI, Sgn5. -/
import Derived.Test.YtialedffpaoacaaGreatDoorPack12
import Derived.Test.YtialedffpaoacaaGreatDoorPack4
import Derived.Test.YtialedffpaoacaaGreatDoorMacI
import Derived.Test.YtialedffpaoacaaGreatDoorMacS
/- Keys and short macs, of the program. -/
namespace Go.Proofs.YtialedffpaoacaaGreatDoor
open Go.RowKit Go.Sort

set_option maxRecDepth 100000 in
theorem shortMac_any (k t : ByteArray) (w : World) (h1 : k.size ≤ 8000) (h2 : t.size ≤ 8000) (hL : Laid w) : Calls Tryz.prog 147 #[.string k, .string t] w fun e w' => e = .returned (.string (shortT k t)) ∧ Below w.heap.size w w' := by
  have HM : Hid (∀ w, Laid w → Calls Tryz.prog 183 #[.string k, .string t] w fun e w' => e = .returned (.string (macT k t)) ∧ Below w.heap.size w w') := fun w hL => implMac_in k t w h1 h2 hL
  have HS : Hid (∀ w, (Instr.slice 9 (.string (macT k t)) none (some (.int .i64 16)) none).run Tryz.prog w = .ok (.string (shortT k t)) w) := fun w => slice_upto (macT k t) 16 16 rfl (by rw [macT_size]; omega) w
  generalize shortT k t = S at *
  generalize macT k t = M at *
  go_enter Tryz.func147, Tryz.ntmps147
  go_wp2_with fail
  refine (HM.out _ hL).mono ?_
  rintro e w1 ⟨rfl, hb1⟩
  have hs := HS.out w1
  go_wp2
  go_ret
  exact ⟨rfl, hb1⟩
end Go.Proofs.YtialedffpaoacaaGreatDoor
/- What is signed, of the model. -/
namespace Go.Proofs.YtialedffpaoacaaGreatDoor
open Go.RowKit Go.Sort

theorem mark_eq (R : ByteArray) (seq : Int) : R ++ wordT 65535 ++ wordT 3 ++ fourQ seq = R ++ markT seq := by
  apply ByteArray.ext
  apply Array.toList_inj.1
  simp [wordT, fourQ, fourQL, markT, markL, wordsL]
set_option maxRecDepth 100000 in
set_option maxHeartbeats 1000000 in
theorem spec05Sign_any (c : Int) (p : Option Addr) (cap : Nat) (es : List Ent) (k : ByteArray) (seq : Int) (w : World) (h : EntsIn w p es) (hr : ripB c es = true) (hk : inKey k = true) (hs : inSeq seq = true) :
    Calls Tryz.prog 45 #[ripV c p es.length cap, .string k, .int .i64 seq] w fun e w' => e = .returned (.string (signT c es k seq)) ∧ Below w.heap.size w w' := by
  have h8 := (ripB_spec hr).2.1
  have hk2 : 1 ≤ k.size ∧ k.size ≤ 32 := by simpa [inKey] using hk
  have hseq : 1 ≤ seq ∧ seq ≤ 1000000 := by simpa [inSeq] using hs
  have HX : Hid (EntsIn w p es) := h
  have HB : Hid (∀ w, EntsIn w p es → Calls Tryz.prog 83 #[ripV c p es.length cap] w fun e w' => e = .returned (.string (ripT c es)) ∧ Below w.heap.size w w') := fun w h => spec05Bytes_any c p cap es w h hr
  have HW1 : Hid (∀ w, Calls Tryz.prog 84 #[.int .i64 65535] w fun e w' => e = .returned (.string (wordT 65535)) ∧ Below w.heap.size w w') := fun w => specWord_any 65535 w (by omega) (by omega)
  have HW2 : Hid (∀ w, Calls Tryz.prog 84 #[.int .i64 3] w fun e w' => e = .returned (.string (wordT 3)) ∧ Below w.heap.size w w') := fun w => specWord_any 3 w (by omega) (by omega)
  have HF : Hid (∀ w, Calls Tryz.prog 85 #[.int .i64 seq] w fun e w' => e = .returned (.string (fourQ seq)) ∧ Below w.heap.size w w') := fun w => spec4_any seq w (by omega) (by omega)
  have HME : Hid (ripT c es ++ wordT 65535 ++ wordT 3 ++ fourQ seq = aheadT c es seq) := mark_eq _ _
  have hsz := aheadT_size c es seq
  have HM : Hid (∀ w, Calls Tryz.prog 86 #[.string k, .string (aheadT c es seq)] w fun e w' => e = .returned (.string (macT k (aheadT c es seq))) ∧ Below w.heap.size w w') := fun w => specMac_in k _ w (by omega) (by omega)
  have HS : Hid (∀ w, (Instr.slice 9 (.string (macT k (aheadT c es seq))) none (some (.int .i64 16)) none).run Tryz.prog w = .ok (.string (shortT k (aheadT c es seq))) w) := fun w => slice_upto (macT k (aheadT c es seq)) 16 16 rfl (by rw [macT_size]; omega) w
  have HG : Hid (signT c es k seq = aheadT c es seq ++ shortT k (aheadT c es seq)) := rfl
  have s0 := ripT_size c es
  have s1 := wordT_size 65535
  have s2 := wordT_size 3
  have s3 := fourQ_size seq
  have s4 := shortT_size k (aheadT c es seq)
  rw [HG.out]
  unfold ripV at *
  clear hr hk hs h HG
  generalize ripT c es = RT at *
  generalize wordT 65535 = W1 at *
  generalize wordT 3 = W2 at *
  generalize fourQ seq = F at *
  generalize shortT k (aheadT c es seq) = ST at *
  generalize macT k (aheadT c es seq) = MT at *
  generalize aheadT c es seq = AT at *
  go_enter Tryz.func45, Tryz.ntmps45
  go_wp2_with fail
  refine (HB.out _ (HX.out.alloc _)).mono ?_
  rintro e w1 ⟨rfl, hb1⟩
  have hB1 := (ent_new0 w _).trans (hb1.mono (by simp))
  clear hb1 HB
  go_wp2_with fail
  refine (HW1.out _).mono ?_
  rintro e w2 ⟨rfl, hb2⟩
  have hB2 := hB1.trans (hb2.mono hB1.size)
  clear hb2 HW1 hB1
  have z1 : ¬ 9223372036854775807 < 4 + 20 * es.length + 2 := by omega
  go_wp2_with fail
  refine (HW2.out _).mono ?_
  rintro e w3 ⟨rfl, hb3⟩
  have hB3 := hB2.trans (hb3.mono hB2.size)
  clear hb3 HW2 hB2
  have z2 : ¬ 9223372036854775807 < 4 + 20 * es.length + 2 + 2 := by omega
  go_wp2_with fail
  refine (HF.out _).mono ?_
  rintro e w4 ⟨rfl, hb4⟩
  have hB4 := hB3.trans (hb4.mono hB3.size)
  clear hb4 HF hB3
  have z3 : ¬ 9223372036854775807 < 4 + 20 * es.length + 2 + 2 + 4 := by omega
  go_wp2_with fail
  rw [HME.out]
  refine (HM.out _).mono ?_
  rintro e w5 ⟨rfl, hb5⟩
  have hB5 := hB4.trans (hb5.mono hB4.size)
  clear hb5 HM hB4 HME s1 s2 s3 s0
  have hsl := HS.out w5
  have z4 : ¬ 9223372036854775807 < 12 + 20 * es.length + 16 := by omega
  go_wp2
  go_ret
  exact ⟨rfl, hB5⟩
end Go.Proofs.YtialedffpaoacaaGreatDoor
