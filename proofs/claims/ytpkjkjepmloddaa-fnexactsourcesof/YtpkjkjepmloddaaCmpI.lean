/- slices.Compact at a few whole numbers in order. (Written by gen_cmp.py.) -/
import Derived.Test.YtpkjkjepmloddaaCmpM
import Derived.Test.YtpkjkjepmloddaaBase
import Derived.Lib.SliceRun
import Derived.Lib.EndianMore
import Derived.BigQuiet
namespace Go.Proofs.Ytpkjkjepmloddaa
open Go.RowKit Go.Sort

theorem Try.infoI64 : (Try.prog.info? 2).map (fun i => (i.zero, i.size, i.bytes)) = some (some (.int .i64 0), 1, 8) := by kernel_rfl
theorem sliceJ_upto (g n cap k : Nat) (x : Int) (hx : x = k) (hk : k ≤ cap) (w : World) : (Instr.slice 41 (.slice (some ⟨g, 0, none⟩) n cap) none (some (.int .i64 x)) none).run Try.prog w = .ok (.slice (some ⟨g, 0, none⟩) k cap) w := by
  subst hx
  have hb := run_sliceBound (P := Try.prog) w .i64 (k : Int) cap .sliceAcap (by omega) (by omega)
  unfold Instr.slice Instr.sliceBounds
  simp [Sem.run_bind, run_underlying Try.underlying41, hb, Addr.add]
theorem sliceJ_from (g n cap k : Nat) (x : Int) (hx : x = k) (hk : k ≤ n) (hc : k < cap) (w : World) : (Instr.slice 41 (.slice (some ⟨g, 0, none⟩) n cap) (some (.int .i64 x)) none none).run Try.prog w = .ok (.slice (some ⟨g, k, none⟩) (n - k) (cap - k)) w := by
  subst hx
  have hb := run_sliceBound (P := Try.prog) w .i64 (k : Int) n .sliceB (by omega) (by omega)
  have hz : Try.prog.cellsOf 2 = 1 := by kernel_rfl
  unfold Instr.slice Instr.sliceBounds
  have hne : ¬ cap = k := by omega
  simp [Sem.run_bind, run_underlying Try.underlying41, hb, hne, Addr.add]
  intro e; exact e.symm
theorem size_setCells (g : Nat) : ∀ (vs : List Value) (o : Nat) (w : World), (w.setCells g o vs).heap.size = w.heap.size
  | [], _, _ => rfl
  | v :: r, o, w => by rw [World.setCells, size_setCells g r (o + 1)]; simp
theorem row_setCells {g : Nat} {t : TypeId} : ∀ (vs : List Value) (o : Nat) (w : World) (l : List Value), Row w g t l → ∃ l', Row (w.setCells g o vs) g t l' ∧ l'.take o = l.take o ∧ l'.length = l.length
  | [], _, w, l, h => ⟨l, h, rfl, rfl⟩
  | v :: r, o, w, l, h => by
    obtain ⟨l', h1, h2, h3⟩ := row_setCells r (o + 1) _ _ (h.set o v)
    refine ⟨l', h1, ?_, by rw [h3, List.length_set]⟩
    have e := congrArg (List.take o) h2
    rw [List.take_take, List.take_take, Nat.min_eq_left (by omega)] at e
    rw [e, List.take_set_of_le (Nat.le_refl _)]
theorem IntsAt.cut {w : World} {g c k : Nat} {ds : List Int} (h : IntsAt w g c ds) (hk : k ≤ ds.length) (vs : List Value) : IntsAt (w.setCells g k vs) g c (ds.take k) := by
  obtain ⟨cur, hr, e, hl⟩ := h
  obtain ⟨l', h1, h2, h3⟩ := row_setCells vs k w cur hr
  have hkl : (ds.take k).length = k := by rw [List.length_take]; omega
  refine ⟨l', h1, ?_, by rw [h3]; exact hl⟩
  have e2 := congrArg (List.take k) e
  rw [List.take_take, Nat.min_eq_left hk] at e2
  rw [hkl, h2, e2]
  simp [flatJ, List.map_take]
set_option maxRecDepth 100000 in
set_option maxHeartbeats 2000000 in
theorem compactJ_any (g c cap : Nat) (ds : List Int) (w : World) (h12 : ds.length ≤ 12) (hc : ds.length ≤ cap) (hs : RisenJ ds ds.length) (h : IntsAt w g c ds) :
    Calls Try.prog 41 #[.slice (some ⟨g, 0, none⟩) ds.length cap] w fun e w' => ∃ out : List Int, e = .returned (.slice (some ⟨g, 0, none⟩) out.length cap) ∧ IntsAt w' g c out ∧ OnceJ ds out ∧ ButG g w w' ∧ w'.heap.size = w.heap.size := by
  have HS : Hid (RisenJ ds ds.length) := hs
  have HX : Hid (IntsAt w g c ds) := h
  clear h hs
  by_cases h2 : ds.length < 2
  · have d2 : decide ((ds.length : Int) < 2) = true := by simp; omega
    have HR : Hid (OnceJ ds ds) := onceJ_self (fun p hp => by omega)
    clear HS h2 h12 hc
    go_enter Try.func41, Try.ntmps41
    go_wp2
    go_ret
    exact ⟨ds, rfl, HX.out, HR.out, ButG.refl _ _, rfl⟩
  · have d2 : decide ((ds.length : Int) < 2) = false := by simp; omega
    go_enter Try.func41, Try.ntmps41
    go_wp2_with fail
    go_loopw [3] (fun i wr => ∃ k : Nat, 1 ≤ k ∧ i = .int .i64 k ∧ k ≤ ds.length ∧ IntsAt wr g c ds ∧ ButG g w wr ∧ wr.heap.size = w.heap.size ∧ ∀ p, p + 1 < k → ds[p]! < ds[p + 1]!) (fun i _ => ds.length - (intOf i).toNat)
    case atStart => exact ⟨1, Nat.le_refl _, rfl, by omega, HX.out, ButG.refl _ _, rfl, fun p hp => absurd hp (by omega)⟩
    case round =>
      obtain ⟨k, hk1, rfl, hkl, hN, hBt, hsz, hall⟩ := hrel
      by_cases hlt : k < ds.length
      · have d1 : decide ((k : Int) < (ds.length : Int)) = true := by simpa using hlt
        have c0 := hN.cell k hlt
        have e0 := hN.cell (k - 1) (by omega)
        have HB : Hid (ds[k]! = ds[k]'hlt ∧ ds[k - 1]! = ds[k - 1]'(by omega)) := ⟨getElem!_pos _ _ _, getElem!_pos _ _ _⟩
        have HA : Hid (∀ p, p + 1 < k → ds[p]! < ds[p + 1]!) := hall
        have z2 : IntKind.i64.wrap ((k : Int) - 1) = ((k - 1 : Nat) : Int) := by rw [wrap_i64_in _ (by omega) (by omega)]; omega
        have z3 : (k : Int) - 1 = ((k - 1 : Nat) : Int) := by omega
        have z4 : decide (((k - 1 : Nat) : Int) < (ds.length : Int)) = true := by simp; omega
        have z5 : k - 1 < ds.length := by omega
        have HN : Hid (IntsAt wr g c ds ∧ ButG g w wr) := ⟨hN, hBt⟩
        clear hN hBt hall
        generalize hU : ds[k]'hlt = U at *
        generalize hV : ds[k - 1]'(by omega) = V at *
        clear hU hV
        by_cases he : U = V
        · have d3 : (U == V) = true := by simp [he]
          have hsl := fun w => sliceJ_from g ds.length cap k (k : Int) rfl hkl (by omega) w
          have HP : Hid (PackJ ds ds (k + 1) k) := packJ_first hk1 hlt HA.out (by rw [HB.out.1, HB.out.2, he])
          clear HA HB he
          go_wp2_with fail
          go_quiet (fail)
          clear c0 e0
          go_wp2_with fail
          go_loopw [3, 5] (fun i j wr => ∃ k2 m : Nat, 1 ≤ m ∧ i = .int .i64 k2 ∧ j = .int .i64 m ∧ k + m ≤ ds.length ∧ ∃ cur, IntsAt wr g c cur ∧ PackJ ds cur (k + m) k2 ∧ ButG g w wr ∧ wr.heap.size = w.heap.size) (fun _ j _ => ds.length - k - (intOf j).toNat)
          case atStart => exact ⟨k, 1, Nat.le_refl _, rfl, rfl, by omega, ds, HN.out.1.drewN _, HP.out, HN.out.2.drewN _, hsz⟩
          case round =>
            clear HP d3 HN hsz
            obtain ⟨k2, m, hm1, rfl, rfl, hkm, cur, hN, hP, hBt, hsz⟩ := hrel
            have hlen := hP.len
            have hki := hP.ki
            have hk21 := hP.k1
            by_cases hlm : k + m < ds.length
            · have dm : decide ((m : Int) < ((ds.length - k : Nat) : Int)) = true := by simp; omega
              have c0 := hN.cell (k + m) (by omega)
              have e0 := hN.cell (k + (m - 1)) (by omega)
              have f0 := hN.frozen k2
              obtain ⟨z, x0⟩ : ∃ z : Value, wr.cell? ⟨g, k2, none⟩ = some z := ⟨_, hN.cell k2 (by omega)⟩
              have hr1 : cur[k + m]'(by omega) = ds[k + m]! := by rw [← getElem!_pos cur (k + m) (by omega)]; exact hP.rest _ (by omega) hlm
              have hr2 : cur[k + (m - 1)]'(by omega) = ds[k + m - 1]! := by rw [← getElem!_pos cur (k + (m - 1)) (by omega), show k + (m - 1) = k + m - 1 by omega]; exact hP.rest _ (by omega) (by omega)
              rw [hr1] at c0
              rw [hr2] at e0
              clear hr1 hr2
              have y2 : IntKind.i64.wrap ((m : Int) - 1) = ((m - 1 : Nat) : Int) := by rw [wrap_i64_in _ (by omega) (by omega)]; omega
              have y3 : (m : Int) - 1 = ((m - 1 : Nat) : Int) := by omega
              have y4 : decide (((m - 1 : Nat) : Int) < ((ds.length - k : Nat) : Int)) = true := by simp; omega
              have y5 : m - 1 < ds.length - k := by omega
              have y6 : m < ds.length - k := by omega
              have y7 : k2 < ds.length := by omega
              have y8 : decide ((k2 : Int) < (ds.length : Int)) = true := by simp; omega
              have HN : Hid (IntsAt wr g c cur ∧ PackJ ds cur (k + m) k2 ∧ ButG g w wr) := ⟨hN, hP, hBt⟩
              clear hN hP hBt
              by_cases hne : ds[k + m]! = ds[k + m - 1]!
              · have d4 : (ds[k + m]! != ds[k + m - 1]!) = false := by simp [hne]
                have HF : Hid (PackJ ds cur (k + (m + 1)) k2) := HN.out.2.1.skip hlm hne
                clear hne
                generalize ds[k + m]! = X1 at *
                generalize ds[k + m - 1]! = X2 at *
                go_wp2_with fail
                go_quiet (fail)
                clear c0 e0 x0 f0
                go_wp2
                go_roundw
                case rel => exact ⟨k2, m + 1, by omega, rfl, by go_num, by omega, cur, HN.out.1.drewN _, HF.out, HN.out.2.2.drewN _, hsz⟩
                case measure => simp [intOf]; omega
              · have d4 : (ds[k + m]! != ds[k + m - 1]!) = true := bne_iff_ne.2 hne
                have HF : Hid (PackJ ds (cur.set k2 ds[k + m]!) (k + (m + 1)) (k2 + 1)) := HN.out.2.1.keep HS.out hlm hne
                have HG : Hid (∀ n, IntsAt ((wr.drewN n).setCell ⟨g, k2, none⟩ (.int .i64 ds[k + m]!)) g c (cur.set k2 ds[k + m]!) ∧ ButG g w ((wr.drewN n).setCell ⟨g, k2, none⟩ (.int .i64 ds[k + m]!)) ∧ ((wr.drewN n).setCell ⟨g, k2, none⟩ (.int .i64 ds[k + m]!)).heap.size = w.heap.size) := fun n => ⟨(HN.out.1.drewN n).set k2 _, (HN.out.2.2.drewN n).set k2 _, by simp [hsz]⟩
                clear hne HN
                generalize ds[k + m]! = X1 at *
                generalize ds[k + m - 1]! = X2 at *
                go_wp2_with fail
                go_quiet (fail)
                go_wp2
                go_roundw
                case rel => exact ⟨k2 + 1, m + 1, by omega, by go_num, by go_num, by omega, _, (HG.out _).1, HF.out, (HG.out _).2.1, (HG.out _).2.2⟩
                case measure => simp [intOf]; omega
            · have hkm2 : k + m = ds.length := by omega
              have dm : decide ((m : Int) < ((ds.length - k : Nat) : Int)) = false := by simp; omega
              rw [hkm2] at hP hki
              have hs2 := fun w => sliceJ_from g ds.length cap k2 (k2 : Int) rfl (by omega) (by omega) w
              have hs3 := fun w => sliceJ_upto g ds.length cap k2 (k2 : Int) rfl (by omega) w
              have hzv : ∀ w, (zeroValue 2).run Try.prog w = .ok (.int .i64 0) w := fun w => by kernel_rfl
              have hcl : ∀ ty, (Builtin.clear_ #[41] ty #[.slice (some ⟨g, k2, none⟩) (ds.length - k2) (cap - k2)]).run Try.prog wr = .ok (.tuple #[]) (wr.setCells g k2 (List.replicate (ds.length - k2) (.int .i64 0))) :=
                fun ty => Lib.run_clear_slice wr _ _ ty _ Try.underlying41 hzv rfl rfl g k2 _ _ (by omega) (fun j hj => by rw [hN.cell (k2 + j) (by omega)]; rfl) (fun j hj => hN.frozen _)
              have HF : Hid (IntsAt (wr.setCells g k2 (List.replicate (ds.length - k2) (.int .i64 0))) g c (cur.take k2) ∧ OnceJ ds (cur.take k2) ∧ ButG g w (wr.setCells g k2 (List.replicate (ds.length - k2) (.int .i64 0))) ∧ (cur.take k2).length = k2 ∧ (wr.setCells g k2 (List.replicate (ds.length - k2) (.int .i64 0))).heap.size = w.heap.size) := ⟨hN.cut (by omega) _, hP.done, hBt.trans (fun B w0 hb hBg => hb.trans (Lib.below_setCells_w hBg _ _ _)), by rw [List.length_take]; omega, by rw [size_setCells]; exact hsz⟩
              clear hN hP hBt HX HS
              go_wp2
              go_ret
              obtain ⟨h1, h2, h3, h4, h5⟩ := HF.out
              exact ⟨cur.take k2, by rw [h4]; rfl, h1, h2, h3, h5⟩
        · have d3 : (U == V) = false := by simp [he]
          have HP : Hid (∀ p, p + 1 < k + 1 → ds[p]! < ds[p + 1]!) := fun p hp => by
            by_cases hpk : p + 1 = k
            · have h1 := HS.out p (by omega)
              have h2 := HB.out
              rw [← hpk, show p + 1 - 1 = p by omega] at h2
              rw [h2.1, h2.2] at h1 ⊢
              omega
            · exact HA.out p (by omega)
          clear HA HB he
          go_wp2_with fail
          go_quiet (fail)
          clear c0 e0
          go_wp2
          go_roundw
          case rel => exact ⟨k + 1, by omega, by go_num, by omega, HN.out.1.drewN _, HN.out.2.drewN _, hsz, HP.out⟩
          case measure => simp [intOf]; omega
      · have d1 : decide ((k : Int) < (ds.length : Int)) = false := by simpa using hlt
        obtain rfl : k = ds.length := by omega
        have HF : Hid (OnceJ ds ds) := onceJ_self hall
        have HN : Hid (IntsAt wr g c ds ∧ ButG g w wr) := ⟨hN, hBt⟩
        clear hall HS hN hBt
        go_wp2
        go_ret
        exact ⟨ds, rfl, HN.out.1, HF.out, HN.out.2, hsz⟩
end Go.Proofs.Ytpkjkjepmloddaa
