/- The walk of the law on datagrams and frames. -/
import Derived.Test.YtchgnjpbjnkdmaaDrawWire2
import Derived.Test.YtchgnjpbjnkdmaaDgMath
import Derived.Test.YtchgnjpbjnkdmaaDReadJ
import Derived.Test.YtchgnjpbjnkdmaaDReadS
import Derived.Test.YtchgnjpbjnkdmaaFReadI
import Derived.Test.YtchgnjpbjnkdmaaFReadS
import Derived.Deep.CutRange
import Derived.Laws.StructEq
import Derived.Lib.QuietBelow
import Derived.BigQuiet
namespace Go.Proofs.Ytchgnjpbjnkdmaa
open Go.RowKit Go.Sort

theorem notNone (r : ByteArray) (h : 1 ≤ r.size) : r.toList.isEmpty = false := by
  rw [ByteArray.toList_eq, List.isEmpty_eq_false_iff]
  intro e
  have := congrArg List.length e
  simp at this
  rw [this] at h
  simp at h
theorem slice20 (r : ByteArray) (h : 20 ≤ r.size) (w : World) : (Instr.slice 9 (.string r) none (some (.int .i64 20)) none).run Try.prog w = .ok (.string (r.extract 0 20)) w := by
  rw [run_slice_string_to_if _ _ _ _ _ Try.underlying9, if_pos (by omega)]; rfl
set_option maxRecDepth 100000 in
set_option maxHeartbeats 40000000 in
theorem fnDgram_walk (b0 : Option Addr) (len0 cap0 : Nat) (z0 : List Int) (b1 : Option Addr) (len1 cap1 : Nat) (z1 : List Int) (w : World) (w0 : IsRow .u8 w b0 len0 cap0 z0) (w1 : IsRow .u8 w b1 len1 cap1 z1) :
    Calls Try.prog 4 #[.slice b0 len0 cap0, .slice b1 len1 cap1] w fun e w' => e = .returned (.bool true) ∧ Below w.heap.size w w' := by
  have hcc := Code.of_row w0
  have hcm := Code.of_row w1
  have hlen0 := w0.len
  have hlen1 := w1.len
  clear w0 w1
  by_cases hl : len0 ≤ 1048576 ∧ len1 ≤ 1048576
  · obtain ⟨hl0, hl1⟩ := hl
    have d0 : decide ((1048576 : Int) < (len0 : Int)) = false := by simp; omega
    have d1 : decide ((1048576 : Int) < (len1 : Int)) = false := by simp; omega
    go_enter Try.func4, Try.ntmps4
    go_wp2_with fail
    refine (drawDgramBytes_any b0 len0 cap0 _ hcc hl0).mono ?_
    rintro e wa ⟨s, d, sp, dp, ttl, t, rfl, htz, hBa⟩
    clear d0 d1
    have hcma := (hcm.below hBa).mono hBa.size
    go_wp2_with fail
    refine (drawFrameBytes_any b1 len1 cap1 _ hcma hl1).mono ?_
    rintro e wb ⟨v, ft, rfl, hfz, hbb⟩
    have hBb := after_next hBa hbb hBa.size
    clear hcma hbb hBa
    have hBe : Below w.heap.size w ((wb.alloc (.cells #[.int .i64 s, .int .i64 d, .int .i64 sp, .int .i64 dp, .int .i64 ttl, .string t] 40)).alloc (.cells #[.int .i64 v, .string ft] 43)) := (hBb.alloc hBb.size _).alloc (by have := hBb.size; simp; omega) _
    have n5 : Row ((wb.alloc (.cells #[.int .i64 s, .int .i64 d, .int .i64 sp, .int .i64 dp, .int .i64 ttl, .string t] 40)).alloc (.cells #[.int .i64 v, .string ft] 43)) (wb.heap.size) 40 [.int .i64 s, .int .i64 d, .int .i64 sp, .int .i64 dp, .int .i64 ttl, .string t] := (Row.new wb 40 _).alloc _
    have n6 : Row ((wb.alloc (.cells #[.int .i64 s, .int .i64 d, .int .i64 sp, .int .i64 dp, .int .i64 ttl, .string t] 40)).alloc (.cells #[.int .i64 v, .string ft] 43)) (wb.heap.size + 1) 43 [.int .i64 v, .string ft] := by
      have h := Row.new (wb.alloc (.cells #[.int .i64 s, .int .i64 d, .int .i64 sp, .int .i64 dp, .int .i64 ttl, .string t] 40)) 43 [.int .i64 v, .string ft]
      rwa [show (wb.alloc (.cells #[.int .i64 s, .int .i64 d, .int .i64 sp, .int .i64 dp, .int .i64 ttl, .string t] 40)).heap.size = wb.heap.size + 1 by simp] at h
    have hbz := hBb.size
    clear hBb
    have HDI : Hid (∀ W, Calls Try.prog 27 #[.agg #[.int .i64 s, .int .i64 d, .int .i64 sp, .int .i64 dp, .int .i64 ttl, .string t]] W fun e w' => e = .returned (.string (dgO s d sp dp ttl t)) ∧ Below W.heap.size W w') := implDgramBytes_any s d sp dp ttl t
    have HFI : Hid (∀ W, Calls Try.prog 28 #[.agg #[.int .i64 v, .string ft]] W fun e w' => e = .returned (.string (frO v ft)) ∧ Below W.heap.size W w') := implFrameBytes_any v ft
    have k0 := cell_regrown (show ((wb.alloc (.cells #[.int .i64 s, .int .i64 d, .int .i64 sp, .int .i64 dp, .int .i64 ttl, .string t] 40)).alloc (.cells #[.int .i64 v, .string ft] 43)).cell? ⟨wb.heap.size, 0, none⟩ = some (.int .i64 s) from n5.cell 0)
    have k1 := cell_regrown (show ((wb.alloc (.cells #[.int .i64 s, .int .i64 d, .int .i64 sp, .int .i64 dp, .int .i64 ttl, .string t] 40)).alloc (.cells #[.int .i64 v, .string ft] 43)).cell? ⟨wb.heap.size, 1, none⟩ = some (.int .i64 d) from n5.cell 1)
    have k2 := cell_regrown (show ((wb.alloc (.cells #[.int .i64 s, .int .i64 d, .int .i64 sp, .int .i64 dp, .int .i64 ttl, .string t] 40)).alloc (.cells #[.int .i64 v, .string ft] 43)).cell? ⟨wb.heap.size, 2, none⟩ = some (.int .i64 sp) from n5.cell 2)
    have k3 := cell_regrown (show ((wb.alloc (.cells #[.int .i64 s, .int .i64 d, .int .i64 sp, .int .i64 dp, .int .i64 ttl, .string t] 40)).alloc (.cells #[.int .i64 v, .string ft] 43)).cell? ⟨wb.heap.size, 3, none⟩ = some (.int .i64 dp) from n5.cell 3)
    have k4 := cell_regrown (show ((wb.alloc (.cells #[.int .i64 s, .int .i64 d, .int .i64 sp, .int .i64 dp, .int .i64 ttl, .string t] 40)).alloc (.cells #[.int .i64 v, .string ft] 43)).cell? ⟨wb.heap.size, 4, none⟩ = some (.int .i64 ttl) from n5.cell 4)
    have k5 := cell_regrown (show ((wb.alloc (.cells #[.int .i64 s, .int .i64 d, .int .i64 sp, .int .i64 dp, .int .i64 ttl, .string t] 40)).alloc (.cells #[.int .i64 v, .string ft] 43)).cell? ⟨wb.heap.size, 5, none⟩ = some (.string t) from n5.cell 5)
    have k6 := cell_regrown (show ((wb.alloc (.cells #[.int .i64 s, .int .i64 d, .int .i64 sp, .int .i64 dp, .int .i64 ttl, .string t] 40)).alloc (.cells #[.int .i64 v, .string ft] 43)).cell? ⟨wb.heap.size + 1, 0, none⟩ = some (.int .i64 v) from n6.cell 0)
    have k7 := cell_regrown (show ((wb.alloc (.cells #[.int .i64 s, .int .i64 d, .int .i64 sp, .int .i64 dp, .int .i64 ttl, .string t] 40)).alloc (.cells #[.int .i64 v, .string ft] 43)).cell? ⟨wb.heap.size + 1, 1, none⟩ = some (.string ft) from n6.cell 1)
    go_wp2_with fail
    refine wp_region_quiet_below (by kernel_rfl) (by kernel_rfl) ?_
    repeat (go_big_quiet_step (first | (go_at_call 27; exact Calls.regrown_of (HDI.out _)) | (go_at_call 28; exact Calls.regrown_of (HFI.out _))))
    refine wpQuiet_nil ?_
    intro we hw'
    obtain ⟨⟨dq, osq⟩, hw''⟩ := hw'
    have hbq := below_regrown ((wb.alloc (.cells #[.int .i64 s, .int .i64 d, .int .i64 sp, .int .i64 dp, .int .i64 ttl, .string t] 40)).alloc (.cells #[.int .i64 v, .string ft] 43)) dq osq
    rw [← hw''] at hbq
    clear hw'' osq dq
    have hBf := after_next hBe hbq hBe.size
    have n5e := n5.below hbq n5.lt
    have n6e := n6.below hbq n6.lt
    have hcmf := (hcm.below hBf).mono hBf.size
    clear k0 k1 k2 k3 k4 k5 k6 k7 HDI HFI n5 n6 hbq hBe
    go_wp2_with fail
    refine (drawDgramRead_any b1 len1 cap1 _ hcmf hl1).mono ?_
    rintro e wf ⟨p, rfl, hp, hbf⟩
    have hBg := after_next hBf hbf hBf.size
    have n5f := n5e.below hbf n5e.lt
    have n6f := n6e.below hbf n6e.lt
    have hccg := (hcc.below hBg).mono hBg.size
    clear hcmf hbf hBf n5e n6e
    go_wp2_with fail
    refine (drawFrameRead_any b0 len0 cap0 _ hccg hl0).mono ?_
    rintro e wg ⟨q, rfl, hq, hbg⟩
    have hBh := after_next hBg hbg hBg.size
    have n5g := n5f.below hbg n5f.lt
    have n6g := n6f.below hbg n6f.lt
    clear hccg hbg hBg n5f n6f hcc
    obtain ⟨xs, xd, xsp, xdp, xttl, xt, c1, hX, hX0⟩ := dgRead_back p
    obtain ⟨yv, yt, c2, hY, hY0⟩ := frRead_back q
    have HX0 : Hid (c1 = 0 → dgO xs xd xsp xdp xttl xt = p) := hX0
    have HY0 : Hid (c2 = 0 → frO yv yt = q) := hY0
    clear hX0 hY0
    have HI1 : Hid (∀ W, Calls Try.prog 31 #[.string p] W fun e w' => e = .returned (.agg #[.int .i64 xs, .int .i64 xd, .int .i64 xsp, .int .i64 xdp, .int .i64 xttl, .string xt, .int .i64 c1]) ∧ Below W.heap.size W w') := fun W => by
      have h := implDgramRead_any p W (by omega)
      rw [hX] at h
      exact h
    have HI2 : Hid (∀ W, Calls Try.prog 32 #[.string q] W fun e w' => e = .returned (.agg #[.int .i64 yv, .string yt, .int .i64 c2]) ∧ Below W.heap.size W w') := fun W => by
      have h := implFrameRead_any q W (by omega)
      rw [hY] at h
      exact h
    have HS3 : Hid (∀ W, Calls Try.prog 36 #[.string p] W fun e w' => e = .returned (.agg #[.int .i64 xs, .int .i64 xd, .int .i64 xsp, .int .i64 xdp, .int .i64 xttl, .string xt, .int .i64 c1]) ∧ Below W.heap.size W w') := fun W => by
      have h := specDgramRead_any p W (by omega)
      rw [hX] at h
      exact h
    have HS4 : Hid (∀ W, Calls Try.prog 37 #[.string q] W fun e w' => e = .returned (.agg #[.int .i64 yv, .string yt, .int .i64 c2]) ∧ Below W.heap.size W w') := fun W => by
      have h := specFrameRead_any q W (by omega)
      rw [hY] at h
      exact h
    clear hX hY
    go_wp2_with fail
    refine (HI1.out _).mono ?_
    rintro e wh ⟨rfl, hbh⟩
    have hBi := after_next hBh hbh hBh.size
    have n5h := n5g.below hbh n5g.lt
    have n6h := n6g.below hbh n6g.lt
    clear hbh hBh n5g n6g
    go_wp2_with fail
    refine (HI2.out _).mono ?_
    rintro e wi ⟨rfl, hbi⟩
    have hBj := after_next hBi hbi hBi.size
    have n5i := n5h.below hbi n5h.lt
    have n6i := n6h.below hbi n6h.lt
    clear hbi hBi n5h n6h HI1 HI2
    have hBk : Below w.heap.size w ((wi.alloc (.cells #[.int .i64 xs, .int .i64 xd, .int .i64 xsp, .int .i64 xdp, .int .i64 xttl, .string xt, .int .i64 c1] 49)).alloc (.cells #[.int .i64 yv, .string yt, .int .i64 c2] 52)) := (hBj.alloc hBj.size _).alloc (by have := hBj.size; simp; omega) _
    have hcmk := (hcm.below hBk).mono hBk.size
    have m5 := (n5i.alloc (.cells #[.int .i64 xs, .int .i64 xd, .int .i64 xsp, .int .i64 xdp, .int .i64 xttl, .string xt, .int .i64 c1] 49)).alloc (.cells #[.int .i64 yv, .string yt, .int .i64 c2] 52)
    have m6 := (n6i.alloc (.cells #[.int .i64 xs, .int .i64 xd, .int .i64 xsp, .int .i64 xdp, .int .i64 xttl, .string xt, .int .i64 c1] 49)).alloc (.cells #[.int .i64 yv, .string yt, .int .i64 c2] 52)
    have m11 : Row ((wi.alloc (.cells #[.int .i64 xs, .int .i64 xd, .int .i64 xsp, .int .i64 xdp, .int .i64 xttl, .string xt, .int .i64 c1] 49)).alloc (.cells #[.int .i64 yv, .string yt, .int .i64 c2] 52)) (wi.heap.size) 49 [.int .i64 xs, .int .i64 xd, .int .i64 xsp, .int .i64 xdp, .int .i64 xttl, .string xt, .int .i64 c1] := (Row.new wi 49 _).alloc _
    have m12 : Row ((wi.alloc (.cells #[.int .i64 xs, .int .i64 xd, .int .i64 xsp, .int .i64 xdp, .int .i64 xttl, .string xt, .int .i64 c1] 49)).alloc (.cells #[.int .i64 yv, .string yt, .int .i64 c2] 52)) (wi.heap.size + 1) 52 [.int .i64 yv, .string yt, .int .i64 c2] := by
      have h := Row.new (wi.alloc (.cells #[.int .i64 xs, .int .i64 xd, .int .i64 xsp, .int .i64 xdp, .int .i64 xttl, .string xt, .int .i64 c1] 49)) 52 [.int .i64 yv, .string yt, .int .i64 c2]
      rwa [show (wi.alloc (.cells #[.int .i64 xs, .int .i64 xd, .int .i64 xsp, .int .i64 xdp, .int .i64 xttl, .string xt, .int .i64 c1] 49)).heap.size = wi.heap.size + 1 by simp] at h
    clear n5i n6i hBj
    go_wp2_with fail
    refine (drawSum16_any b1 len1 cap1 _ hcmk hl1).mono ?_
    rintro e wj ⟨sm, rfl, hsm, hbj⟩
    have hBl := after_next hBk hbj hBk.size
    have HRow : Hid (Row wj (wb.heap.size) 40 [.int .i64 s, .int .i64 d, .int .i64 sp, .int .i64 dp, .int .i64 ttl, .string t] ∧ Row wj (wb.heap.size + 1) 43 [.int .i64 v, .string ft] ∧ Row wj (wi.heap.size) 49 [.int .i64 xs, .int .i64 xd, .int .i64 xsp, .int .i64 xdp, .int .i64 xttl, .string xt, .int .i64 c1] ∧ Row wj (wi.heap.size + 1) 52 [.int .i64 yv, .string yt, .int .i64 c2]) := ⟨m5.below hbj m5.lt, m6.below hbj m6.lt, m11.below hbj m11.lt, m12.below hbj m12.lt⟩
    clear m5 m6 m11 m12 hcmk hbj hBk hcm
    have HS1 : Hid (∀ W, Calls Try.prog 34 #[.agg #[.int .i64 s, .int .i64 d, .int .i64 sp, .int .i64 dp, .int .i64 ttl, .string t]] W fun e w' => e = .returned (.string (dgO s d sp dp ttl t)) ∧ Below W.heap.size W w') := specDgramBytes_any s d sp dp ttl t
    have HS2 : Hid (∀ W, Calls Try.prog 35 #[.agg #[.int .i64 v, .string ft]] W fun e w' => e = .returned (.string (frO v ft)) ∧ Below W.heap.size W w') := specFrameBytes_any v ft
    have HU1 : Hid (∀ W, Calls Try.prog 38 #[.string sm] W fun e w' => e = .returned (.int .i64 (sum16 sm)) ∧ Below W.heap.size W w') := fun W => implSum16_any sm W (by omega)
    have HU2 : Hid (∀ W, Calls Try.prog 39 #[.string sm] W fun e w' => e = .returned (.int .i64 (sum16 sm)) ∧ Below W.heap.size W w') := fun W => specSum16_any sm W (by omega)
    have HR1 : Hid (∀ W, Calls Try.prog 40 #[.agg #[.int .i64 s, .int .i64 d, .int .i64 sp, .int .i64 dp, .int .i64 ttl, .string t]] W fun e w' => e = .returned (.bool (dgB s d sp dp ttl t.size)) ∧ Below W.heap.size W w') := implDgramRight_any s d sp dp ttl t
    have HR2 : Hid (∀ W, Calls Try.prog 41 #[.agg #[.int .i64 s, .int .i64 d, .int .i64 sp, .int .i64 dp, .int .i64 ttl, .string t]] W fun e w' => e = .returned (.bool (dgB s d sp dp ttl t.size)) ∧ Below W.heap.size W w') := specDgramRight_any s d sp dp ttl t
    have HR3 : Hid (∀ W, Calls Try.prog 42 #[.agg #[.int .i64 v, .string ft]] W fun e w' => e = .returned (.bool (frB v ft.size)) ∧ Below W.heap.size W w') := implFrameRight_any v ft
    have HR4 : Hid (∀ W, Calls Try.prog 43 #[.agg #[.int .i64 v, .string ft]] W fun e w' => e = .returned (.bool (frB v ft.size)) ∧ Below W.heap.size W w') := specFrameRight_any v ft
    have HDX : Hid (∀ W, Calls Try.prog 27 #[.agg #[.int .i64 xs, .int .i64 xd, .int .i64 xsp, .int .i64 xdp, .int .i64 xttl, .string xt]] W fun e w' => e = .returned (.string (dgO xs xd xsp xdp xttl xt)) ∧ Below W.heap.size W w') := implDgramBytes_any xs xd xsp xdp xttl xt
    have HFX : Hid (∀ W, Calls Try.prog 28 #[.agg #[.int .i64 yv, .string yt]] W fun e w' => e = .returned (.string (frO yv yt)) ∧ Below W.heap.size W w') := implFrameBytes_any yv yt
    have HTD : Hid (dgB s d sp dp ttl t.size = true → (dgO s d sp dp ttl t).toList.isEmpty = false ∧ (∀ W, (Instr.slice 9 (.string (dgO s d sp dp ttl t)) none (some (.int .i64 20)) none).run Try.prog W = .ok (.string ((dgO s d sp dp ttl t).extract 0 20)) W) ∧ (∀ W, Calls Try.prog 31 #[.string (dgO s d sp dp ttl t)] W fun e w' => e = .returned (.agg #[.int .i64 s, .int .i64 d, .int .i64 sp, .int .i64 dp, .int .i64 ttl, .string t, .int .i64 0]) ∧ Below W.heap.size W w') ∧ (∀ W, Calls Try.prog 38 #[.string ((dgO s d sp dp ttl t).extract 0 20)] W fun e w' => e = .returned (.int .i64 0) ∧ Below W.heap.size W w')) := fun h => by
      have hz := dgT_size s d sp dp ttl t
      rw [dgO_in _ _ _ _ _ _ h]
      refine ⟨notNone _ (by omega), slice20 _ (by omega), fun W => ?_, fun W => ?_⟩
      · have h2 := implDgramRead_any (dgT s d sp dp ttl t) W (by omega)
        rw [dgRead_text s d sp dp ttl t h] at h2
        exact h2
      · have h2 := implSum16_any ((dgT s d sp dp ttl t).extract 0 20) W (by simp; omega)
        rw [head_of] at h2
        exact h2
    have HTD0 : Hid (dgB s d sp dp ttl t.size = false → dgO s d sp dp ttl t = ⟨#[]⟩) := fun h => dgO_out _ _ _ _ _ _ (by simp [h])
    have HTF : Hid (frB v ft.size = true → (frO v ft).toList.isEmpty = false ∧ ∀ W, Calls Try.prog 32 #[.string (frO v ft)] W fun e w' => e = .returned (.agg #[.int .i64 v, .string ft, .int .i64 0]) ∧ Below W.heap.size W w') := fun h => by
      have hz : (frT v ft).size = 18 + ft.size := by
        show (frL v ft.data.toList).toArray.size = _
        rw [List.size_toArray, frL_length]; simp
      rw [frO_in _ _ h]
      refine ⟨notNone _ (by omega), fun W => ?_⟩
      have h2 := implFrameRead_any (frT v ft) W (by omega)
      rw [frRead_text v ft h] at h2
      exact h2
    have HTF0 : Hid (frB v ft.size = false → frO v ft = ⟨#[]⟩) := fun h => frO_out _ _ (by simp [h])
    generalize hTD : dgO s d sp dp ttl t = TD at *
    generalize hTF : frO v ft = TF at *
    generalize hRD : dgB s d sp dp ttl t.size = RD at *
    generalize hRF : frB v ft.size = RF at *
    generalize sum16 sm = SS at *
    have hneS : (SS != SS) = false := by simp
    have hneD : (RD != RD) = false := by simp
    have hneF : (RF != RF) = false := by simp
    clear hTD hTF hRD hRF htz hfz hp hq hsm hlen0 hlen1
    have k0 := cell_regrown (show wj.cell? ⟨wb.heap.size, 0, none⟩ = some (.int .i64 s) from HRow.out.1.cell 0)
    have k1 := cell_regrown (show wj.cell? ⟨wb.heap.size, 1, none⟩ = some (.int .i64 d) from HRow.out.1.cell 1)
    have k2 := cell_regrown (show wj.cell? ⟨wb.heap.size, 2, none⟩ = some (.int .i64 sp) from HRow.out.1.cell 2)
    have k3 := cell_regrown (show wj.cell? ⟨wb.heap.size, 3, none⟩ = some (.int .i64 dp) from HRow.out.1.cell 3)
    have k4 := cell_regrown (show wj.cell? ⟨wb.heap.size, 4, none⟩ = some (.int .i64 ttl) from HRow.out.1.cell 4)
    have k5 := cell_regrown (show wj.cell? ⟨wb.heap.size, 5, none⟩ = some (.string t) from HRow.out.1.cell 5)
    have k6 := cell_regrown (show wj.cell? ⟨wb.heap.size + 1, 0, none⟩ = some (.int .i64 v) from HRow.out.2.1.cell 0)
    have k7 := cell_regrown (show wj.cell? ⟨wb.heap.size + 1, 1, none⟩ = some (.string ft) from HRow.out.2.1.cell 1)
    have k8 := cell_regrown (show wj.cell? ⟨wi.heap.size, 0, none⟩ = some (.int .i64 xs) from HRow.out.2.2.1.cell 0)
    have k9 := cell_regrown (show wj.cell? ⟨wi.heap.size, 1, none⟩ = some (.int .i64 xd) from HRow.out.2.2.1.cell 1)
    have k10 := cell_regrown (show wj.cell? ⟨wi.heap.size, 2, none⟩ = some (.int .i64 xsp) from HRow.out.2.2.1.cell 2)
    have k11 := cell_regrown (show wj.cell? ⟨wi.heap.size, 3, none⟩ = some (.int .i64 xdp) from HRow.out.2.2.1.cell 3)
    have k12 := cell_regrown (show wj.cell? ⟨wi.heap.size, 4, none⟩ = some (.int .i64 xttl) from HRow.out.2.2.1.cell 4)
    have k13 := cell_regrown (show wj.cell? ⟨wi.heap.size, 5, none⟩ = some (.string xt) from HRow.out.2.2.1.cell 5)
    have k14 := cell_regrown (show wj.cell? ⟨wi.heap.size, 6, none⟩ = some (.int .i64 c1) from HRow.out.2.2.1.cell 6)
    have k15 := cell_regrown (show wj.cell? ⟨wi.heap.size + 1, 0, none⟩ = some (.int .i64 yv) from HRow.out.2.2.2.cell 0)
    have k16 := cell_regrown (show wj.cell? ⟨wi.heap.size + 1, 1, none⟩ = some (.string yt) from HRow.out.2.2.2.cell 1)
    have k17 := cell_regrown (show wj.cell? ⟨wi.heap.size + 1, 2, none⟩ = some (.int .i64 c2) from HRow.out.2.2.2.cell 2)
    go_wp2_with fail
    refine wp_region_quiet_below (by kernel_rfl) (by kernel_rfl) ?_
    repeat (go_big_quiet_step (first | (go_at_call 34; exact Calls.regrown_of (HS1.out _)) | (go_at_call 35; exact Calls.regrown_of (HS2.out _)) | (go_at_call 36; exact Calls.regrown_of (HS3.out _)) | (go_at_call 37; exact Calls.regrown_of (HS4.out _)) | (go_at_call 38; exact Calls.regrown_of (HU1.out _)) | (go_at_call 39; exact Calls.regrown_of (HU2.out _)) | (go_at_call 40; exact Calls.regrown_of (HR1.out _)) | (go_at_call 41; exact Calls.regrown_of (HR2.out _)) | (go_at_call 42; exact Calls.regrown_of (HR3.out _)) | (go_at_call 43; exact Calls.regrown_of (HR4.out _))))
    refine wpQuiet_nil ?_
    intro wk hw'
    obtain ⟨⟨dq, osq⟩, hw''⟩ := hw'
    have hbq := below_regrown wj dq osq
    rw [← hw''] at hbq
    clear hw'' osq dq
    have HRw : Hid (Row wk (wb.heap.size) 40 [.int .i64 s, .int .i64 d, .int .i64 sp, .int .i64 dp, .int .i64 ttl, .string t] ∧ Row wk (wb.heap.size + 1) 43 [.int .i64 v, .string ft] ∧ Row wk (wi.heap.size) 49 [.int .i64 xs, .int .i64 xd, .int .i64 xsp, .int .i64 xdp, .int .i64 xttl, .string xt, .int .i64 c1] ∧ Row wk (wi.heap.size + 1) 52 [.int .i64 yv, .string yt, .int .i64 c2]) := ⟨HRow.out.1.below hbq HRow.out.1.lt, HRow.out.2.1.below hbq HRow.out.2.1.lt, HRow.out.2.2.1.below hbq HRow.out.2.2.1.lt, HRow.out.2.2.2.below hbq HRow.out.2.2.2.lt⟩
    have HB1 : Hid (Below w.heap.size w wk) := after_next hBl hbq hBl.size
    clear hbq HRow hBl k0 k1 k2 k3 k4 k5 k6 k7 k8 k9 k10 k11 k12 k13 k14 k15 k16 k17 HS1 HS2 HS3 HS4 HU1 HU2 HR1 HR2 HR3 HR4 hneS hneD hneF
    go_upto_region 10 with fail
    go_cut [108] from 83 to 108 (fun v wx => v = .bool false ∧ Below wk.heap.size wk wx)
    case first =>
      have k0 := cell_regrown (show wk.cell? ⟨wb.heap.size, 0, none⟩ = some (.int .i64 s) from HRw.out.1.cell 0)
      have k1 := cell_regrown (show wk.cell? ⟨wb.heap.size, 1, none⟩ = some (.int .i64 d) from HRw.out.1.cell 1)
      have k2 := cell_regrown (show wk.cell? ⟨wb.heap.size, 2, none⟩ = some (.int .i64 sp) from HRw.out.1.cell 2)
      have k3 := cell_regrown (show wk.cell? ⟨wb.heap.size, 3, none⟩ = some (.int .i64 dp) from HRw.out.1.cell 3)
      have k4 := cell_regrown (show wk.cell? ⟨wb.heap.size, 4, none⟩ = some (.int .i64 ttl) from HRw.out.1.cell 4)
      have k5 := cell_regrown (show wk.cell? ⟨wb.heap.size, 5, none⟩ = some (.string t) from HRw.out.1.cell 5)
      have k6 := cell_regrown (show wk.cell? ⟨wb.heap.size + 1, 0, none⟩ = some (.int .i64 v) from HRw.out.2.1.cell 0)
      have k7 := cell_regrown (show wk.cell? ⟨wb.heap.size + 1, 1, none⟩ = some (.string ft) from HRw.out.2.1.cell 1)
      clear HRw HX0 HY0 HDX HFX
      cases RD
      · have hTD := HTD0.out rfl
        subst hTD
        clear HTD HTD0
        cases RF
        · have hTF := HTF0.out rfl
          subst hTF
          clear HTF HTF0
          refine wp_region_quiet_below (by kernel_rfl) (by kernel_rfl) ?_
          repeat (go_big_quiet_step (first | fail))
          refine wpQuiet_nil ?_
          intro wl hw'
          obtain ⟨⟨dq, osq⟩, hw''⟩ := hw'
          have hbq := below_regrown wk dq osq
          rw [← hw''] at hbq
          clear hw'' osq dq
          go_wp2_with fail
          go_meet
          exact ⟨rfl, hbq⟩
        · obtain ⟨hie2, hg3⟩ := HTF.out rfl
          have HG3 : Hid _ := hg3
          clear HTF HTF0 hg3
          refine wp_region_quiet_below (by kernel_rfl) (by kernel_rfl) ?_
          repeat (go_big_quiet_step (first | (go_at_call 32; exact Calls.regrown_of (HG3.out _))))
          refine wpQuiet_nil ?_
          intro wl hw'
          obtain ⟨⟨dq, osq⟩, hw''⟩ := hw'
          have hbq := below_regrown wk dq osq
          rw [← hw''] at hbq
          clear hw'' osq dq
          go_wp2_with fail
          go_meet
          exact ⟨rfl, hbq⟩
      · obtain ⟨hie, hsl, hg1, hg2⟩ := HTD.out rfl
        have HG1 : Hid _ := hg1
        have HG2 : Hid _ := hg2
        clear HTD HTD0 hg1 hg2
        generalize TD.extract 0 20 = TX at *
        cases RF
        · have hTF := HTF0.out rfl
          subst hTF
          clear HTF HTF0
          refine wp_region_quiet_below (by kernel_rfl) (by kernel_rfl) ?_
          repeat (go_big_quiet_step (first | (go_at_call 31; exact Calls.regrown_of (HG1.out _)) | (go_at_call 38; exact Calls.regrown_of (HG2.out _))))
          refine wpQuiet_nil ?_
          intro wl hw'
          obtain ⟨⟨dq, osq⟩, hw''⟩ := hw'
          have hbq := below_regrown wk dq osq
          rw [← hw''] at hbq
          clear hw'' osq dq
          go_wp2_with fail
          go_meet
          exact ⟨rfl, hbq⟩
        · obtain ⟨hie2, hg3⟩ := HTF.out rfl
          have HG3 : Hid _ := hg3
          clear HTF HTF0 hg3
          refine wp_region_quiet_below (by kernel_rfl) (by kernel_rfl) ?_
          repeat (go_big_quiet_step (first | (go_at_call 31; exact Calls.regrown_of (HG1.out _)) | (go_at_call 38; exact Calls.regrown_of (HG2.out _)) | (go_at_call 32; exact Calls.regrown_of (HG3.out _))))
          refine wpQuiet_nil ?_
          intro wl hw'
          obtain ⟨⟨dq, osq⟩, hw''⟩ := hw'
          have hbq := below_regrown wk dq osq
          rw [← hw''] at hbq
          clear hw'' osq dq
          go_wp2_with fail
          go_meet
          exact ⟨rfl, hbq⟩
    case rest =>
      obtain ⟨rfl, hb⟩ := hcut
      clear HTD HTD0 HTF HTF0
      have q11 := HRw.out.2.2.1.below hb HRw.out.2.2.1.lt
      have q12 := HRw.out.2.2.2.below hb HRw.out.2.2.2.lt
      have hBc := after_next HB1.out hb HB1.out.size
      have s0 : wc.cell? ⟨wi.heap.size, 0, none⟩ = some (.int .i64 xs) := q11.cell 0
      have s1 : wc.cell? ⟨wi.heap.size, 1, none⟩ = some (.int .i64 xd) := q11.cell 1
      have s2 : wc.cell? ⟨wi.heap.size, 2, none⟩ = some (.int .i64 xsp) := q11.cell 2
      have s3 : wc.cell? ⟨wi.heap.size, 3, none⟩ = some (.int .i64 xdp) := q11.cell 3
      have s4 : wc.cell? ⟨wi.heap.size, 4, none⟩ = some (.int .i64 xttl) := q11.cell 4
      have s5 : wc.cell? ⟨wi.heap.size, 5, none⟩ = some (.string xt) := q11.cell 5
      have s6 : wc.cell? ⟨wi.heap.size, 6, none⟩ = some (.int .i64 c1) := q11.cell 6
      by_cases hc1 : c1 = 0
      · have hp2 := HX0.out hc1
        subst hc1
        rw [hp2] at HDX
        clear HX0 hp2
        go_wp2_with fail
        refine (HDX.out _).mono ?_
        rintro e wy ⟨rfl, hby⟩
        have hBy := after_next hBc hby hBc.size
        have q12y := q12.below hby q12.lt
        clear q11 q12 s0 s1 s2 s3 s4 s5 s6 hby
        have u0 : wy.cell? ⟨wi.heap.size + 1, 0, none⟩ = some (.int .i64 yv) := q12y.cell 0
        have u1 : wy.cell? ⟨wi.heap.size + 1, 1, none⟩ = some (.string yt) := q12y.cell 1
        have u2 : wy.cell? ⟨wi.heap.size + 1, 2, none⟩ = some (.int .i64 c2) := q12y.cell 2
        by_cases hc2 : c2 = 0
        · have hq2 := HY0.out hc2
          subst hc2
          rw [hq2] at HFX
          clear HY0 hq2
          go_wp2_with fail
          refine (HFX.out _).mono ?_
          rintro e wz ⟨rfl, hbz2⟩
          have hBz := after_next hBy hbz2 hBy.size
          go_wp2
          go_ret
          exact ⟨rfl, hBz⟩
        · have hc2b : (c2 != 0) = true := by simpa using hc2
          clear HY0
          go_wp2
          go_ret
          exact ⟨rfl, hBy⟩
      · have hc1b : (c1 != 0) = true := by simpa using hc1
        clear HX0
        have u0 : wc.cell? ⟨wi.heap.size + 1, 0, none⟩ = some (.int .i64 yv) := q12.cell 0
        have u1 : wc.cell? ⟨wi.heap.size + 1, 1, none⟩ = some (.string yt) := q12.cell 1
        have u2 : wc.cell? ⟨wi.heap.size + 1, 2, none⟩ = some (.int .i64 c2) := q12.cell 2
        by_cases hc2 : c2 = 0
        · have hq2 := HY0.out hc2
          subst hc2
          rw [hq2] at HFX
          clear HY0 hq2
          go_wp2_with fail
          refine (HFX.out _).mono ?_
          rintro e wz ⟨rfl, hbz2⟩
          have hBz := after_next hBc hbz2 hBc.size
          go_wp2
          go_ret
          exact ⟨rfl, hBz⟩
        · have hc2b : (c2 != 0) = true := by simpa using hc2
          clear HY0
          go_wp2
          go_ret
          exact ⟨rfl, hBc⟩
  · have hor : 1048576 < len0 ∨ (len0 ≤ 1048576 ∧ 1048576 < len1) := by omega
    rcases hor with h | ⟨h, h2⟩
    · have d0 : decide ((1048576 : Int) < (len0 : Int)) = true := by simp; omega
      go_enter Try.func4, Try.ntmps4
      go_wp2
      go_ret
      exact ⟨rfl, Below.refl _ _⟩
    · have d0 : decide ((1048576 : Int) < (len0 : Int)) = false := by simp; omega
      have d1 : decide ((1048576 : Int) < (len1 : Int)) = true := by simp; omega
      go_enter Try.func4, Try.ntmps4
      go_wp2
      go_ret
      exact ⟨rfl, Below.refl _ _⟩
end Go.Proofs.Ytchgnjpbjnkdmaa
