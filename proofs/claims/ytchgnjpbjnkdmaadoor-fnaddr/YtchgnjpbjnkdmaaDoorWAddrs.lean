/- The walk of the law on addresses. -/
import Derived.Test.YtchgnjpbjnkdmaaDoorDrawAddrs
import Derived.Test.YtchgnjpbjnkdmaaDoorAddrsMath
import Derived.Test.YtchgnjpbjnkdmaaDoorAddrReadI
import Derived.Test.YtchgnjpbjnkdmaaDoorNetReadI
import Derived.Test.YtchgnjpbjnkdmaaDoorNetReadS
import Derived.Test.YtchgnjpbjnkdmaaDoorMaskOf
import Derived.Test.YtchgnjpbjnkdmaaDoorShape
import Derived.Test.YtchgnjpbjnkdmaaDoorShapeM
import Derived.Deep.CutRange
import Derived.Laws.StructEq
namespace Go.Proofs.YtchgnjpbjnkdmaaDoor
open Go.RowKit Go.Sort

theorem next_b {B : Nat} {w w1 w2 : World} (h : Below B w w1) (h2 : Below w1.heap.size w1 w2) (hB : B ≤ w1.heap.size) : Below B w w2 := h.trans (h2.mono hB)
theorem Pow10.regrown {w : World} (h : Pow10 w) : ∀ d os, Pow10 (grow (redrawn w d) os) := fun d os => h.below (below_regrown w d os)
theorem MaxI.regrown {w : World} (h : MaxI w) : ∀ d os, MaxI (grow (redrawn w d) os) := fun d os => h.below (below_regrown w d os)
set_option maxRecDepth 100000 in
set_option maxHeartbeats 40000000 in
theorem fnAddr_walk (b0 : Option Addr) (len0 cap0 : Nat) (z0 : List Int) (b1 : Option Addr) (len1 cap1 : Nat) (z1 : List Int) (w : World) (w0 : IsRow .u8 w b0 len0 cap0 z0) (w1 : IsRow .u8 w b1 len1 cap1 z1) (hT : Pow10 w) (hM : MaxI w) :
    Calls Tryd.prog 3 #[.slice b0 len0 cap0, .slice b1 len1 cap1] w fun e w' => e = .returned (.bool true) ∧ Below w.heap.size w w' := by
  have hcc := Code.of_row w0
  have hcm := Code.of_row w1
  have hlen0 := w0.len
  have hlen1 := w1.len
  clear w0 w1
  by_cases hl : len0 ≤ 1048576 ∧ len1 ≤ 1048576
  · obtain ⟨hl0, hl1⟩ := hl
    have d0 : decide ((1048576 : Int) < (len0 : Int)) = false := by simp; omega
    have d1 : decide ((1048576 : Int) < (len1 : Int)) = false := by simp; omega
    go_enter Tryd.func3, Tryd.ntmps3
    go_wp2_with fail
    refine (drawAddrText_any b0 len0 cap0 _ hcc hl0).mono ?_
    rintro e wa ⟨a, rfl, ha0, ha1, hBa⟩
    clear d0 d1
    have hcma := (hcm.below hBa).mono hBa.size
    go_wp2_with fail
    refine (drawNetText_any b1 len1 cap1 _ hcma hl1).mono ?_
    rintro e wb ⟨x, y, rfl, hx0, hx1, hy0, hy1, hbb⟩
    have hBb := next_b hBa hbb hBa.size
    have hccb := (hcc.below hBb).mono hBb.size
    clear hcma hbb hBa
    go_wp2_with fail
    refine (drawMaskOf_any b0 len0 cap0 _ hccb hl0).mono ?_
    rintro e wc ⟨m, rfl, hm0, hm1, hbc⟩
    have hBc := next_b hBb hbc hBb.size
    have hcmc := (hcm.below hBc).mono hBc.size
    clear hccb hbc hBb
    go_wp2_with fail
    refine (drawLenOf_any b1 len1 cap1 _ hcmc hl1).mono ?_
    rintro e wd ⟨k, rfl, hk0, hk1, hbd⟩
    have hBd := next_b hBc hbd hBc.size
    clear hcmc hbd hBc
    have hBe := hBd.alloc hBd.size (.cells #[.int .i64 x, .int .i64 y] 25)
    have n6 := Row.new wd 25 [.int .i64 x, .int .i64 y]
    have HTe : Hid (∀ d os, Pow10 (grow (redrawn (wd.alloc (.cells #[.int .i64 x, .int .i64 y] 25)) d) os)) := (hT.below hBe).regrown
    have HAT : Hid (∀ W, Pow10 W → Calls Tryd.prog 8 #[.int .i64 a] W fun e w' => e = .returned (.string (addrT a)) ∧ Below W.heap.size W w') := fun W h => implAddrText_any a W h
    have HNT : Hid (∀ W, Pow10 W → Calls Tryd.prog 9 #[.agg #[.int .i64 x, .int .i64 y]] W fun e w' => e = .returned (.string (netT x y)) ∧ Below W.heap.size W w') := fun W h => implNetText_any x y W h
    have k0 := cell_regrown (show (wd.alloc (.cells #[.int .i64 x, .int .i64 y] 25)).cell? ⟨wd.heap.size, 0, none⟩ = some (.int .i64 x) from n6.cell 0)
    have k1 := cell_regrown (show (wd.alloc (.cells #[.int .i64 x, .int .i64 y] 25)).cell? ⟨wd.heap.size, 1, none⟩ = some (.int .i64 y) from n6.cell 1)
    go_wp2_with fail
    refine wp_region_quiet_below (by kernel_rfl) (by kernel_rfl) ?_
    repeat (go_big_quiet_step (first | (go_at_call 8; exact Calls.regrown_of (HAT.out _ (HTe.out _ _))) | (go_at_call 9; exact Calls.regrown_of (HNT.out _ (HTe.out _ _)))))
    refine wpQuiet_nil ?_
    intro we hw'
    obtain ⟨⟨dq, osq⟩, hw''⟩ := hw'
    have hbq := below_regrown (wd.alloc (.cells #[.int .i64 x, .int .i64 y] 25)) dq osq
    rw [← hw''] at hbq
    have hBf := next_b hBe hbq hBe.size
    have n6e := n6.below hbq n6.lt
    have hcmf := (hcm.below hBf).mono hBf.size
    have hdl : wd.heap.size < we.heap.size := n6e.lt
    have hBd2 := hBd.size
    clear hw'' osq dq k0 k1 HTe HAT HNT n6 hbq hBe hBd
    go_wp2_with fail
    refine (drawAddrRead_any b1 len1 cap1 _ hcmf hl1).mono ?_
    rintro e wf ⟨p, rfl, hp, hbf⟩
    have hBg := next_b hBf hbf hBf.size
    have n6f := n6e.below hbf n6e.lt
    have hccg := (hcc.below hBg).mono hBg.size
    clear hcmf hbf hBf n6e hdl
    go_wp2_with fail
    refine (drawNetRead_any b0 len0 cap0 _ hccg hl0).mono ?_
    rintro e wg ⟨q, rfl, hq, hbg⟩
    have hBh := next_b hBg hbg hBg.size
    have n6g := n6f.below hbg n6f.lt
    clear hccg hbg hBg n6f hcc hcm
    go_wp2_with fail
    refine (implAddrRead_any p _ (hM.below hBh) (by omega)).mono ?_
    rintro e wh ⟨rfl, hbh⟩
    have hBi := next_b hBh hbh hBh.size
    have n6h := n6g.below hbh n6g.lt
    clear hbh hBh n6g
    unfold numO
    go_wp2_with fail
    refine (implNetRead_any q _ (hM.below hBi) (by omega)).mono ?_
    rintro e wi ⟨rfl, hbi⟩
    have hBj := next_b hBi hbi hBi.size
    have n6i := n6h.below hbi n6h.lt
    clear hbi hBi n6h
    unfold netO
    have HS1 : Hid (∀ W, Calls Tryd.prog 14 #[.int .i64 a] W fun e w' => e = .returned (.string (addrT a)) ∧ Below W.heap.size W w') := specAddrText_any a
    have HS2 : Hid (∀ W, Calls Tryd.prog 15 #[.agg #[.int .i64 x, .int .i64 y]] W fun e w' => e = .returned (.string (netT x y)) ∧ Below W.heap.size W w') := specNetText_any x y
    have HS3 : Hid (∀ W, Calls Tryd.prog 16 #[.string p] W fun e w' => e = .returned (.agg #[.int .i64 (readA p).1, .int .i64 0, .int .i64 (readA p).2]) ∧ Below W.heap.size W w') := fun W => specAddrRead_any p W (by omega)
    have HS4 : Hid (∀ W, Calls Tryd.prog 17 #[.string q] W fun e w' => e = .returned (.agg #[.int .i64 (readN q).1.1, .int .i64 (readN q).1.2, .int .i64 (readN q).2]) ∧ Below W.heap.size W w') := fun W => specNetRead_any q W (by omega)
    have HMI : Hid (∀ W, Calls Tryd.prog 18 #[.int .i64 m] W fun e w' => e = .returned (.int .i64 (maskV m)) ∧ Below W.heap.size W w') := fun W => same_belowS (implMask_any m W)
    have HMS : Hid (∀ W, Calls Tryd.prog 19 #[.int .i64 m] W fun e w' => e = .returned (.int .i64 (maskV m)) ∧ Below W.heap.size W w') := fun W => same_belowS (specMask_any m W)
    have HLI : Hid (∀ W, Calls Tryd.prog 20 #[.int .i64 k] W fun e w' => e = .returned (.int .i64 (lenV k)) ∧ Below W.heap.size W w') := fun W => same_belowS (implLen_any k W)
    have HLS : Hid (∀ W, Calls Tryd.prog 21 #[.int .i64 k] W fun e w' => e = .returned (.int .i64 (lenV k)) ∧ Below W.heap.size W w') := fun W => same_belowS (specLen_any k W)
    have HRI : Hid (∀ W, Calls Tryd.prog 22 #[.agg #[.int .i64 x, .int .i64 y]] W fun e w' => e = .returned (.bool (rightB x y)) ∧ Below W.heap.size W w') := implRight_any x y
    have HRS : Hid (∀ W, Calls Tryd.prog 23 #[.agg #[.int .i64 x, .int .i64 y]] W fun e w' => e = .returned (.bool (rightB x y)) ∧ Below W.heap.size W w') := specRight_any x y
    have HLM : Hid (∀ W, Calls Tryd.prog 20 #[.int .i64 (maskV m)] W fun e w' => e = .returned (.int .i64 (lenV (maskV m))) ∧ Below W.heap.size W w') := fun W => same_belowS (implLen_any (maskV m) W)
    have HLM2 : Hid (0 ≤ m → m ≤ 32 → lenV (maskV m) = m) := len_mask m
    have HA1 : Hid ((readA p).2 = 0 → addrT (readA p).1 = p) := readA_back p
    have HN1 : Hid ((readN q).2 = 0 → netT (readN q).1.1 (readN q).1.2 = q) := readN_back q
    have HTA : Hid (0 ≤ a ∧ a ≤ 4294967295 → (addrT a).toList.isEmpty = false ∧ ∀ W, MaxI W → Calls Tryd.prog 12 #[.string (addrT a)] W fun e w' => e = .returned (.agg #[.int .i64 a, .int .i64 0, .int .i64 0]) ∧ Below W.heap.size W w') := fun h => ⟨addrT_some a h, fun W hW => by
      have := implAddrRead_any (addrT a) W hW (by have := addrT_size a; omega)
      rw [readA_text a h] at this
      exact this⟩
    have HTA0 : Hid (¬ (0 ≤ a ∧ a ≤ 4294967295) → addrT a = ⟨#[]⟩) := addrT_out a
    have HTN : Hid (rightB x y = true → (netT x y).toList.isEmpty = false ∧ ∀ W, MaxI W → Calls Tryd.prog 13 #[.string (netT x y)] W fun e w' => e = .returned (.agg #[.int .i64 x, .int .i64 y, .int .i64 0]) ∧ Below W.heap.size W w') := fun h => ⟨netT_some x y h, fun W hW => by
      have := implNetRead_any (netT x y) W hW (by have := netT_size x y; omega)
      rw [readN_text x y h] at this
      exact this⟩
    have HTN0 : Hid (rightB x y = false → netT x y = ⟨#[]⟩) := netT_out x y
    generalize (readA p).1 = n1 at *
    generalize (readA p).2 = c1 at *
    generalize (readN q).1.1 = n2 at *
    generalize (readN q).1.2 = l2 at *
    generalize (readN q).2 = c2 at *
    generalize lenV (maskV m) = ML at *
    generalize maskV m = M at *
    generalize lenV k = LK at *
    generalize hTA : addrT a = TA at *
    generalize hTN : netT x y = TN at *
    generalize hR : rightB x y = R at *
    clear hTA hTN hR
    have HAT : Hid (∀ W, Pow10 W → Calls Tryd.prog 8 #[.int .i64 n1] W fun e w' => e = .returned (.string (addrT n1)) ∧ Below W.heap.size W w') := fun W h => implAddrText_any n1 W h
    have HNT : Hid (∀ W, Pow10 W → Calls Tryd.prog 9 #[.agg #[.int .i64 n2, .int .i64 l2]] W fun e w' => e = .returned (.string (netT n2 l2)) ∧ Below W.heap.size W w') := fun W h => implNetText_any n2 l2 W h
    have hBk : Below w.heap.size w ((wi.alloc (.cells #[.int .i64 n1, .int .i64 0, .int .i64 c1] 31)).alloc (.cells #[.int .i64 n2, .int .i64 l2, .int .i64 c2] 34)) := (hBj.alloc hBj.size _).alloc (by have := hBj.size; simp; omega) _
    have HRow : Hid (Row ((wi.alloc (.cells #[.int .i64 n1, .int .i64 0, .int .i64 c1] 31)).alloc (.cells #[.int .i64 n2, .int .i64 l2, .int .i64 c2] 34)) wd.heap.size 25 [.int .i64 x, .int .i64 y] ∧ Row ((wi.alloc (.cells #[.int .i64 n1, .int .i64 0, .int .i64 c1] 31)).alloc (.cells #[.int .i64 n2, .int .i64 l2, .int .i64 c2] 34)) wi.heap.size 31 [.int .i64 n1, .int .i64 0, .int .i64 c1] ∧ Row ((wi.alloc (.cells #[.int .i64 n1, .int .i64 0, .int .i64 c1] 31)).alloc (.cells #[.int .i64 n2, .int .i64 l2, .int .i64 c2] 34)) (wi.heap.size + 1) 34 [.int .i64 n2, .int .i64 l2, .int .i64 c2]) := ⟨(n6i.alloc _).alloc _, (Row.new wi 31 _).alloc _, by
      have h := Row.new (wi.alloc (.cells #[.int .i64 n1, .int .i64 0, .int .i64 c1] 31)) 34 [.int .i64 n2, .int .i64 l2, .int .i64 c2]
      rwa [show (wi.alloc (.cells #[.int .i64 n1, .int .i64 0, .int .i64 c1] 31)).heap.size = wi.heap.size + 1 by simp] at h⟩
    have hcl := hBd2
    clear hBj n6i ha0 ha1 hx0 hx1 hy0 hy1 hm0 hm1 hk0 hk1 hp hq hlen0 hlen1
    have k0 := cell_regrown (show ((wi.alloc (.cells #[.int .i64 n1, .int .i64 0, .int .i64 c1] 31)).alloc (.cells #[.int .i64 n2, .int .i64 l2, .int .i64 c2] 34)).cell? ⟨wd.heap.size, 0, none⟩ = some (.int .i64 x) from HRow.out.1.cell 0)
    have k1 := cell_regrown (show ((wi.alloc (.cells #[.int .i64 n1, .int .i64 0, .int .i64 c1] 31)).alloc (.cells #[.int .i64 n2, .int .i64 l2, .int .i64 c2] 34)).cell? ⟨wd.heap.size, 1, none⟩ = some (.int .i64 y) from HRow.out.1.cell 1)
    have k2 := cell_regrown (show ((wi.alloc (.cells #[.int .i64 n1, .int .i64 0, .int .i64 c1] 31)).alloc (.cells #[.int .i64 n2, .int .i64 l2, .int .i64 c2] 34)).cell? ⟨wi.heap.size, 0, none⟩ = some (.int .i64 n1) from HRow.out.2.1.cell 0)
    have k3 := cell_regrown (show ((wi.alloc (.cells #[.int .i64 n1, .int .i64 0, .int .i64 c1] 31)).alloc (.cells #[.int .i64 n2, .int .i64 l2, .int .i64 c2] 34)).cell? ⟨wi.heap.size, 1, none⟩ = some (.int .i64 0) from HRow.out.2.1.cell 1)
    have k4 := cell_regrown (show ((wi.alloc (.cells #[.int .i64 n1, .int .i64 0, .int .i64 c1] 31)).alloc (.cells #[.int .i64 n2, .int .i64 l2, .int .i64 c2] 34)).cell? ⟨wi.heap.size, 2, none⟩ = some (.int .i64 c1) from HRow.out.2.1.cell 2)
    have k5 := cell_regrown (show ((wi.alloc (.cells #[.int .i64 n1, .int .i64 0, .int .i64 c1] 31)).alloc (.cells #[.int .i64 n2, .int .i64 l2, .int .i64 c2] 34)).cell? ⟨wi.heap.size + 1, 0, none⟩ = some (.int .i64 n2) from HRow.out.2.2.cell 0)
    have k6 := cell_regrown (show ((wi.alloc (.cells #[.int .i64 n1, .int .i64 0, .int .i64 c1] 31)).alloc (.cells #[.int .i64 n2, .int .i64 l2, .int .i64 c2] 34)).cell? ⟨wi.heap.size + 1, 1, none⟩ = some (.int .i64 l2) from HRow.out.2.2.cell 1)
    have k7 := cell_regrown (show ((wi.alloc (.cells #[.int .i64 n1, .int .i64 0, .int .i64 c1] 31)).alloc (.cells #[.int .i64 n2, .int .i64 l2, .int .i64 c2] 34)).cell? ⟨wi.heap.size + 1, 2, none⟩ = some (.int .i64 c2) from HRow.out.2.2.cell 2)
    go_wp2_with fail
    refine wp_region_quiet_below (by kernel_rfl) (by kernel_rfl) ?_
    repeat (go_big_quiet_step (first | (go_at_call 14; exact Calls.regrown_of (HS1.out _)) | (go_at_call 15; exact Calls.regrown_of (HS2.out _)) | (go_at_call 16; exact Calls.regrown_of (HS3.out _)) | (go_at_call 17; exact Calls.regrown_of (HS4.out _)) | (go_at_call 18; exact Calls.regrown_of (HMI.out _)) | (go_at_call 19; exact Calls.regrown_of (HMS.out _)) | (go_at_call 20; exact Calls.regrown_of (HLI.out _)) | (go_at_call 21; exact Calls.regrown_of (HLS.out _)) | (go_at_call 22; exact Calls.regrown_of (HRI.out _)) | (go_at_call 23; exact Calls.regrown_of (HRS.out _))))
    refine wpQuiet_nil ?_
    intro wj hw'
    obtain ⟨⟨dq, osq⟩, hw''⟩ := hw'
    have hbq := below_regrown ((wi.alloc (.cells #[.int .i64 n1, .int .i64 0, .int .i64 c1] 31)).alloc (.cells #[.int .i64 n2, .int .i64 l2, .int .i64 c2] 34)) dq osq
    rw [← hw''] at hbq
    clear hw'' osq dq
    have HR2 : Hid (Row wj wd.heap.size 25 [.int .i64 x, .int .i64 y] ∧ Row wj wi.heap.size 31 [.int .i64 n1, .int .i64 0, .int .i64 c1] ∧ Row wj (wi.heap.size + 1) 34 [.int .i64 n2, .int .i64 l2, .int .i64 c2]) := ⟨HRow.out.1.below hbq HRow.out.1.lt, HRow.out.2.1.below hbq HRow.out.2.1.lt, HRow.out.2.2.below hbq HRow.out.2.2.lt⟩
    have HB1 : Hid (Below w.heap.size w wj) := next_b hBk hbq hBk.size
    clear hbq HRow hBk k0 k1 k2 k3 k4 k5 k6 k7 HS1 HS2 HS3 HS4 HMS HLI HLS HRI HRS
    have HM2 : Hid (∀ d os, MaxI (grow (redrawn wj d) os)) := (hM.below HB1.out).regrown
    have HT2 : Hid (∀ W, Below wj.heap.size wj W → Pow10 W) := fun W h => (hT.below HB1.out).below h
    go_upto_region 9 with fail
    go_cut [120] from 86 to 120 (fun v wx => v = .bool false ∧ Below wj.heap.size wj wx)
    case first =>
      have k0 := cell_regrown (show wj.cell? ⟨wd.heap.size, 0, none⟩ = some (.int .i64 x) from HR2.out.1.cell 0)
      have k1 := cell_regrown (show wj.cell? ⟨wd.heap.size, 1, none⟩ = some (.int .i64 y) from HR2.out.1.cell 1)
      clear HR2 HA1 HN1 HAT HNT HT2
      by_cases ha : 0 ≤ a ∧ a ≤ 4294967295
      · obtain ⟨hie, hx1⟩ := HTA.out ha
        have HX1 : Hid _ := hx1
        clear HTA HTA0 hx1 ha
        cases R
        · have hTN := HTN0.out rfl
          subst hTN
          clear HTN HTN0
          by_cases m0 : 0 ≤ m
          · have e0 : decide (0 ≤ m) = true := by simpa using m0
            by_cases m1 : m ≤ 32
            · have e1 : decide (m ≤ 32) = true := by simpa using m1
              have hML := HLM2.out m0 m1
              subst hML
              have hmm : (ML != ML) = false := by simp
              clear HLM2
              refine wp_region_quiet_below (by kernel_rfl) (by kernel_rfl) ?_
              repeat (go_big_quiet_step (first | (go_at_call 12; exact Calls.regrown_of (HX1.out _ (HM2.out _ _))) | (go_at_call 18; exact Calls.regrown_of (HMI.out _)) | (go_at_call 20; exact Calls.regrown_of (HLM.out _))))
              refine wpQuiet_nil ?_
              intro wk hw'
              obtain ⟨⟨dq, osq⟩, hw''⟩ := hw'
              have hbq := below_regrown wj dq osq
              rw [← hw''] at hbq
              clear hw'' osq dq
              go_wp2_with fail
              go_meet
              exact ⟨rfl, hbq⟩
            · have e1 : decide (m ≤ 32) = false := by simpa using m1
              clear HLM2 HLM
              refine wp_region_quiet_below (by kernel_rfl) (by kernel_rfl) ?_
              repeat (go_big_quiet_step (first | (go_at_call 12; exact Calls.regrown_of (HX1.out _ (HM2.out _ _))) | (go_at_call 18; exact Calls.regrown_of (HMI.out _))))
              refine wpQuiet_nil ?_
              intro wk hw'
              obtain ⟨⟨dq, osq⟩, hw''⟩ := hw'
              have hbq := below_regrown wj dq osq
              rw [← hw''] at hbq
              clear hw'' osq dq
              go_wp2_with fail
              go_meet
              exact ⟨rfl, hbq⟩
          · have e0 : decide (0 ≤ m) = false := by simpa using m0
            clear HLM2 HLM
            refine wp_region_quiet_below (by kernel_rfl) (by kernel_rfl) ?_
            repeat (go_big_quiet_step (first | (go_at_call 12; exact Calls.regrown_of (HX1.out _ (HM2.out _ _))) | (go_at_call 18; exact Calls.regrown_of (HMI.out _))))
            refine wpQuiet_nil ?_
            intro wk hw'
            obtain ⟨⟨dq, osq⟩, hw''⟩ := hw'
            have hbq := below_regrown wj dq osq
            rw [← hw''] at hbq
            clear hw'' osq dq
            go_wp2_with fail
            go_meet
            exact ⟨rfl, hbq⟩
        · obtain ⟨hie2, hx2⟩ := HTN.out rfl
          have HX2 : Hid _ := hx2
          clear HTN HTN0 hx2
          by_cases m0 : 0 ≤ m
          · have e0 : decide (0 ≤ m) = true := by simpa using m0
            by_cases m1 : m ≤ 32
            · have e1 : decide (m ≤ 32) = true := by simpa using m1
              have hML := HLM2.out m0 m1
              subst hML
              have hmm : (ML != ML) = false := by simp
              clear HLM2
              refine wp_region_quiet_below (by kernel_rfl) (by kernel_rfl) ?_
              repeat (go_big_quiet_step (first | (go_at_call 12; exact Calls.regrown_of (HX1.out _ (HM2.out _ _))) | (go_at_call 13; exact Calls.regrown_of (HX2.out _ (HM2.out _ _))) | (go_at_call 18; exact Calls.regrown_of (HMI.out _)) | (go_at_call 20; exact Calls.regrown_of (HLM.out _))))
              refine wpQuiet_nil ?_
              intro wk hw'
              obtain ⟨⟨dq, osq⟩, hw''⟩ := hw'
              have hbq := below_regrown wj dq osq
              rw [← hw''] at hbq
              clear hw'' osq dq
              go_wp2_with fail
              go_meet
              exact ⟨rfl, hbq⟩
            · have e1 : decide (m ≤ 32) = false := by simpa using m1
              clear HLM2 HLM
              refine wp_region_quiet_below (by kernel_rfl) (by kernel_rfl) ?_
              repeat (go_big_quiet_step (first | (go_at_call 12; exact Calls.regrown_of (HX1.out _ (HM2.out _ _))) | (go_at_call 13; exact Calls.regrown_of (HX2.out _ (HM2.out _ _))) | (go_at_call 18; exact Calls.regrown_of (HMI.out _))))
              refine wpQuiet_nil ?_
              intro wk hw'
              obtain ⟨⟨dq, osq⟩, hw''⟩ := hw'
              have hbq := below_regrown wj dq osq
              rw [← hw''] at hbq
              clear hw'' osq dq
              go_wp2_with fail
              go_meet
              exact ⟨rfl, hbq⟩
          · have e0 : decide (0 ≤ m) = false := by simpa using m0
            clear HLM2 HLM
            refine wp_region_quiet_below (by kernel_rfl) (by kernel_rfl) ?_
            repeat (go_big_quiet_step (first | (go_at_call 12; exact Calls.regrown_of (HX1.out _ (HM2.out _ _))) | (go_at_call 13; exact Calls.regrown_of (HX2.out _ (HM2.out _ _))) | (go_at_call 18; exact Calls.regrown_of (HMI.out _))))
            refine wpQuiet_nil ?_
            intro wk hw'
            obtain ⟨⟨dq, osq⟩, hw''⟩ := hw'
            have hbq := below_regrown wj dq osq
            rw [← hw''] at hbq
            clear hw'' osq dq
            go_wp2_with fail
            go_meet
            exact ⟨rfl, hbq⟩
      · have hTA := HTA0.out ha
        subst hTA
        clear HTA HTA0 ha
        cases R
        · have hTN := HTN0.out rfl
          subst hTN
          clear HTN HTN0
          by_cases m0 : 0 ≤ m
          · have e0 : decide (0 ≤ m) = true := by simpa using m0
            by_cases m1 : m ≤ 32
            · have e1 : decide (m ≤ 32) = true := by simpa using m1
              have hML := HLM2.out m0 m1
              subst hML
              have hmm : (ML != ML) = false := by simp
              clear HLM2
              refine wp_region_quiet_below (by kernel_rfl) (by kernel_rfl) ?_
              repeat (go_big_quiet_step (first | (go_at_call 18; exact Calls.regrown_of (HMI.out _)) | (go_at_call 20; exact Calls.regrown_of (HLM.out _))))
              refine wpQuiet_nil ?_
              intro wk hw'
              obtain ⟨⟨dq, osq⟩, hw''⟩ := hw'
              have hbq := below_regrown wj dq osq
              rw [← hw''] at hbq
              clear hw'' osq dq
              go_wp2_with fail
              go_meet
              exact ⟨rfl, hbq⟩
            · have e1 : decide (m ≤ 32) = false := by simpa using m1
              clear HLM2 HLM
              refine wp_region_quiet_below (by kernel_rfl) (by kernel_rfl) ?_
              repeat (go_big_quiet_step (first | (go_at_call 18; exact Calls.regrown_of (HMI.out _))))
              refine wpQuiet_nil ?_
              intro wk hw'
              obtain ⟨⟨dq, osq⟩, hw''⟩ := hw'
              have hbq := below_regrown wj dq osq
              rw [← hw''] at hbq
              clear hw'' osq dq
              go_wp2_with fail
              go_meet
              exact ⟨rfl, hbq⟩
          · have e0 : decide (0 ≤ m) = false := by simpa using m0
            clear HLM2 HLM
            refine wp_region_quiet_below (by kernel_rfl) (by kernel_rfl) ?_
            repeat (go_big_quiet_step (first | (go_at_call 18; exact Calls.regrown_of (HMI.out _))))
            refine wpQuiet_nil ?_
            intro wk hw'
            obtain ⟨⟨dq, osq⟩, hw''⟩ := hw'
            have hbq := below_regrown wj dq osq
            rw [← hw''] at hbq
            clear hw'' osq dq
            go_wp2_with fail
            go_meet
            exact ⟨rfl, hbq⟩
        · obtain ⟨hie2, hx2⟩ := HTN.out rfl
          have HX2 : Hid _ := hx2
          clear HTN HTN0 hx2
          by_cases m0 : 0 ≤ m
          · have e0 : decide (0 ≤ m) = true := by simpa using m0
            by_cases m1 : m ≤ 32
            · have e1 : decide (m ≤ 32) = true := by simpa using m1
              have hML := HLM2.out m0 m1
              subst hML
              have hmm : (ML != ML) = false := by simp
              clear HLM2
              refine wp_region_quiet_below (by kernel_rfl) (by kernel_rfl) ?_
              repeat (go_big_quiet_step (first | (go_at_call 13; exact Calls.regrown_of (HX2.out _ (HM2.out _ _))) | (go_at_call 18; exact Calls.regrown_of (HMI.out _)) | (go_at_call 20; exact Calls.regrown_of (HLM.out _))))
              refine wpQuiet_nil ?_
              intro wk hw'
              obtain ⟨⟨dq, osq⟩, hw''⟩ := hw'
              have hbq := below_regrown wj dq osq
              rw [← hw''] at hbq
              clear hw'' osq dq
              go_wp2_with fail
              go_meet
              exact ⟨rfl, hbq⟩
            · have e1 : decide (m ≤ 32) = false := by simpa using m1
              clear HLM2 HLM
              refine wp_region_quiet_below (by kernel_rfl) (by kernel_rfl) ?_
              repeat (go_big_quiet_step (first | (go_at_call 13; exact Calls.regrown_of (HX2.out _ (HM2.out _ _))) | (go_at_call 18; exact Calls.regrown_of (HMI.out _))))
              refine wpQuiet_nil ?_
              intro wk hw'
              obtain ⟨⟨dq, osq⟩, hw''⟩ := hw'
              have hbq := below_regrown wj dq osq
              rw [← hw''] at hbq
              clear hw'' osq dq
              go_wp2_with fail
              go_meet
              exact ⟨rfl, hbq⟩
          · have e0 : decide (0 ≤ m) = false := by simpa using m0
            clear HLM2 HLM
            refine wp_region_quiet_below (by kernel_rfl) (by kernel_rfl) ?_
            repeat (go_big_quiet_step (first | (go_at_call 13; exact Calls.regrown_of (HX2.out _ (HM2.out _ _))) | (go_at_call 18; exact Calls.regrown_of (HMI.out _))))
            refine wpQuiet_nil ?_
            intro wk hw'
            obtain ⟨⟨dq, osq⟩, hw''⟩ := hw'
            have hbq := below_regrown wj dq osq
            rw [← hw''] at hbq
            clear hw'' osq dq
            go_wp2_with fail
            go_meet
            exact ⟨rfl, hbq⟩
    case rest =>
      obtain ⟨rfl, hb⟩ := hcut
      clear HMI HLM HLM2 HTA HTA0 HTN HTN0 HM2
      have q13 := HR2.out.2.1.below hb HR2.out.2.1.lt
      have q14 := HR2.out.2.2.below hb HR2.out.2.2.lt
      have hBc := next_b HB1.out hb HB1.out.size
      have HT3 : Hid (Pow10 wc) := HT2.out _ hb
      have s0 : wc.cell? ⟨wi.heap.size, 0, none⟩ = some (.int .i64 n1) := q13.cell 0
      have s2 : wc.cell? ⟨wi.heap.size, 2, none⟩ = some (.int .i64 c1) := q13.cell 2
      by_cases hc1 : c1 = 0
      · have hp2 := HA1.out hc1
        subst hc1
        rw [hp2] at HAT
        clear HA1 hp2
        go_wp2_with fail
        refine (HAT.out _ HT3.out).mono ?_
        rintro e wy ⟨rfl, hby⟩
        have hBy := next_b hBc hby hBc.size
        have q14y := q14.below hby q14.lt
        have HT4 : Hid (Pow10 wy) := HT3.out.below hby
        clear q13 q14 s0 s2 hby
        have u0 : wy.cell? ⟨wi.heap.size + 1, 0, none⟩ = some (.int .i64 n2) := q14y.cell 0
        have u1 : wy.cell? ⟨wi.heap.size + 1, 1, none⟩ = some (.int .i64 l2) := q14y.cell 1
        have u2 : wy.cell? ⟨wi.heap.size + 1, 2, none⟩ = some (.int .i64 c2) := q14y.cell 2
        by_cases hc2 : c2 = 0
        · have hq2 := HN1.out hc2
          subst hc2
          rw [hq2] at HNT
          clear HN1 hq2
          go_wp2_with fail
          refine (HNT.out _ HT4.out).mono ?_
          rintro e wz ⟨rfl, hbz⟩
          have hBz := next_b hBy hbz hBy.size
          go_wp2
          go_ret
          exact ⟨rfl, hBz⟩
        · have hc2b : (c2 != 0) = true := by simpa using hc2
          clear HN1
          go_wp2
          go_ret
          exact ⟨rfl, hBy⟩
      · have hc1b : (c1 != 0) = true := by simpa using hc1
        clear HA1
        have u0 : wc.cell? ⟨wi.heap.size + 1, 0, none⟩ = some (.int .i64 n2) := q14.cell 0
        have u1 : wc.cell? ⟨wi.heap.size + 1, 1, none⟩ = some (.int .i64 l2) := q14.cell 1
        have u2 : wc.cell? ⟨wi.heap.size + 1, 2, none⟩ = some (.int .i64 c2) := q14.cell 2
        by_cases hc2 : c2 = 0
        · have hq2 := HN1.out hc2
          subst hc2
          rw [hq2] at HNT
          clear HN1 hq2
          go_wp2_with fail
          refine (HNT.out _ HT3.out).mono ?_
          rintro e wz ⟨rfl, hbz⟩
          have hBz := next_b hBc hbz hBc.size
          go_wp2
          go_ret
          exact ⟨rfl, hBz⟩
        · have hc2b : (c2 != 0) = true := by simpa using hc2
          clear HN1
          go_wp2
          go_ret
          exact ⟨rfl, hBc⟩
  · have hor : 1048576 < len0 ∨ (len0 ≤ 1048576 ∧ 1048576 < len1) := by omega
    rcases hor with h | ⟨h, h2⟩
    · have d0 : decide ((1048576 : Int) < (len0 : Int)) = true := by simp; omega
      go_enter Tryd.func3, Tryd.ntmps3
      go_wp2
      go_ret
      exact ⟨rfl, Below.refl _ _⟩
    · have d0 : decide ((1048576 : Int) < (len0 : Int)) = false := by simp; omega
      have d1 : decide ((1048576 : Int) < (len1 : Int)) = true := by simp; omega
      go_enter Tryd.func3, Tryd.ntmps3
      go_wp2
      go_ret
      exact ⟨rfl, Below.refl _ _⟩
end Go.Proofs.YtchgnjpbjnkdmaaDoor
