/- A block's numbers, of the program. -/
import Derived.Test.YtialedffpaoacaaGreatDoorRowU
namespace Go.Proofs.YtialedffpaoacaaGreatDoor
open Go.RowKit

/-- The bytes b lie in block g from offset o on. -/
def BytesAt (w : World) (g o : Nat) (b : List UInt8) : Prop := ∀ j, j < b.length → w.cell? ⟨g, o + j, none⟩ = some (.int .u8 ((b.getD j 0).toNat : Int))
theorem BytesAt.below {B : Nat} {w w' : World} {g o : Nat} {b : List UInt8} (h : BytesAt w g o b) (hb : Below B w w') (hg : g < B) : BytesAt w' g o b := by
  intro j hj
  rw [hb.cell (p := ⟨g, o + j, none⟩) hg]
  exact h j hj
theorem word_or (b : List UInt8) (i : Nat) : bits .or .u32 (bits .or .u32 (bits .or .u32 (((b.getD (4 * i) 0).toNat : Int) * 16777216) (((b.getD (4 * i + 1) 0).toNat : Int) * 65536)) (((b.getD (4 * i + 2) 0).toNat : Int) * 256)) ((b.getD (4 * i + 3) 0).toNat : Int) = ((wordOf b i : Nat) : Int) := by
  unfold wordOf
  have h0 := (b.getD (4 * i) 0).toNat_lt
  have h1 := (b.getD (4 * i + 1) 0).toNat_lt
  have h2 := (b.getD (4 * i + 2) 0).toNat_lt
  have h3 := (b.getD (4 * i + 3) 0).toNat_lt
  generalize (b.getD (4 * i) 0).toNat = p0 at *
  generalize (b.getD (4 * i + 1) 0).toNat = p1 at *
  generalize (b.getD (4 * i + 2) 0).toNat = p2 at *
  generalize (b.getD (4 * i + 3) 0).toNat = p3 at *
  have e0 : ((p0 : Int) * 16777216) = ((p0 * 16777216 : Nat) : Int) := by omega
  have e1 : ((p1 : Int) * 65536) = ((p1 * 65536 : Nat) : Int) := by omega
  have e2 : ((p2 : Int) * 256) = ((p2 * 256 : Nat) : Int) := by omega
  have o1 : p0 * 16777216 ||| p1 * 65536 = p0 * 16777216 + p1 * 65536 := by
    have := Nat.two_pow_add_eq_or_of_lt (i := 24) (b := p1 * 65536) (by omega) p0
    rw [Nat.mul_comm p0 16777216]; exact this.symm
  have o2 : p0 * 16777216 + p1 * 65536 ||| p2 * 256 = p0 * 16777216 + p1 * 65536 + p2 * 256 := by
    have := Nat.two_pow_add_eq_or_of_lt (i := 16) (b := p2 * 256) (by omega) (p0 * 256 + p1)
    have e : 2 ^ 16 * (p0 * 256 + p1) = p0 * 16777216 + p1 * 65536 := by omega
    rw [e] at this; exact this.symm
  have o3 : p0 * 16777216 + p1 * 65536 + p2 * 256 ||| p3 = p0 * 16777216 + p1 * 65536 + p2 * 256 + p3 := by
    have := Nat.two_pow_add_eq_or_of_lt (i := 8) (b := p3) (by omega) (p0 * 65536 + p1 * 256 + p2)
    have e : 2 ^ 8 * (p0 * 65536 + p1 * 256 + p2) = p0 * 16777216 + p1 * 65536 + p2 * 256 := by omega
    rw [e] at this; exact this.symm
  rw [e0, e1, e2, u32_or_nat _ _ (by omega) (by omega), o1, u32_or_nat _ _ (by omega) (by omega), o2, u32_or_nat _ _ (by omega) (by omega), o3]
theorem Tryz.size64 : (Tryz.prog.info? 264).map (·.size) = some 64 := by kernel_rfl
theorem nums_step {wr : World} {G : Nat} {t : TypeId} {b : List UInt8} {k : Nat} (hr : Row wr G t (valsU (wl b k ++ List.replicate (64 - k) 0))) (hk : k < 64) (x : Int) (hx : x = (nextW b (wl b k) : Nat)) :
    Row (wr.setCell ⟨G, k, none⟩ (.int .u32 x)) G t (valsU (wl b (k + 1) ++ List.replicate (64 - (k + 1)) 0)) := by
  have h := hr.set k (.int .u32 x)
  rw [hx, valsU_set, fill_set _ k _ (wl_length b k) hk] at h
  rw [hx]
  exact h
set_option maxRecDepth 100000 in
set_option maxHeartbeats 1000000 in
theorem implNums_any (b : List UInt8) (g o cap : Nat) (w : World) (hb : b.length = 64) (hcap : 64 ≤ cap) (hm : cap ≤ 1000000) (hrow : BytesAt w g o b) (hg : g < w.heap.size) :
    Calls Tryz.prog 218 #[.slice (some ⟨g, o, none⟩) 64 cap] w fun e w' => e = .returned (.agg (valsU (wl b 64)).toArray) ∧ Below w.heap.size w w' := by
  have hu := Tryz.underlying264
  go_enter Tryz.func218, Tryz.ntmps218
  go_wp2_with fail
  go_loopw [6] (fun i wr => ∃ k : Nat, k ≤ 64 ∧ i = .int .i64 k ∧ Row wr (w.heap.size + 1) 264 (valsU (wl b k ++ List.replicate (64 - k) 0)) ∧ Row wr w.heap.size 264 (valsU (List.replicate 64 0)) ∧ Below w.heap.size w wr) (fun i _ => 64 - (intOf i).toNat)
  case atStart => exact ⟨0, by omega, rfl, heap_alloc2_new _ _ _, heap_alloc2_old _ _ _, (((Below.refl _ _).alloc (Nat.le_refl _) _).alloc (by simp) _)⟩
  case round =>
    obtain ⟨k, hk, rfl, hr1, hr0, hbel⟩ := hrel
    by_cases h16 : k < 16
    · have c0 := (hrow.below hbel hg) (4 * k) (by omega)
      have c1 := (hrow.below hbel hg) (4 * k + 1) (by omega)
      have c2 := (hrow.below hbel hg) (4 * k + 2) (by omega)
      have c3 := (hrow.below hbel hg) (4 * k + 3) (by omega)
      rw [← Nat.add_assoc] at c1 c2 c3
      have cw := hr1.cell k
      rw [valsU_get _ k (by simp [wl_length]; omega)] at cw
      have cf := hr1.frozen k
      have HW : Hid _ := word_or b k
      have l0 := (b.getD (4 * k) 0).toNat_lt
      have l1 := (b.getD (4 * k + 1) 0).toNat_lt
      have l2 := (b.getD (4 * k + 2) 0).toNat_lt
      have l3 := (b.getD (4 * k + 3) 0).toNat_lt
      generalize (b.getD (4 * k) 0).toNat = p0 at *
      generalize (b.getD (4 * k + 1) 0).toNat = p1 at *
      generalize (b.getD (4 * k + 2) 0).toNat = p2 at *
      generalize (b.getD (4 * k + 3) 0).toNat = p3 at *
      have i0 : (0 : Int) ≤ (k : Int) := by omega
      have i1 : (k : Int) < 64 := by omega
      have j0 : (0 : Int) < ((64 - 4 * k : Nat) : Int) := by omega
      have j00 : 4 * k < 64 := by omega
      have q0 : IntKind.u32.wrap (p0 : Int) = p0 := by rw [IntKind.wrap_u32]; omega
      have q1 : IntKind.u32.wrap ((p0 : Int) * 16777216) = (p0 : Int) * 16777216 := by rw [IntKind.wrap_u32]; omega
      have q2 : IntKind.u32.wrap (p3 : Int) = p3 := by rw [IntKind.wrap_u32]; omega
      have j1 : (1 : Int) < ((64 - 4 * k : Nat) : Int) := by omega
      have j2 : (2 : Int) < ((64 - 4 * k : Nat) : Int) := by omega
      have j3 : (3 : Int) < ((64 - 4 * k : Nat) : Int) := by omega
      have hne : g ≠ w.heap.size + 1 := by omega
      have hne' : w.heap.size + 1 ≠ g := by omega
      have j01 : 0 < 64 - 4 * k := by omega
      have j02 : ¬ (64 - 4 * k = 0) := by omega
      have j03 : ¬ (64 ≤ 4 * k) := by omega
      go_wp2_with fail
      generalize 64 - 4 * k = L at *
      go_region_held3 (fun w' => w'.cell? ⟨g, o + 4 * k, none⟩ = some (.int .u8 (p0 : Int)) ∧ w'.cell? ⟨g, o + 4 * k + 1, none⟩ = some (.int .u8 (p1 : Int)) ∧ w'.cell? ⟨g, o + 4 * k + 2, none⟩ = some (.int .u8 (p2 : Int)) ∧ w'.cell? ⟨g, o + 4 * k + 3, none⟩ = some (.int .u8 (p3 : Int))) (go_keep) (fail)
      go_wp2
      go_roundw
      case rel =>
        refine ⟨k + 1, by omega, by go_num, ?_, ?_, ?_⟩
        · exact nums_step hr1 (by omega) _ (by rw [HW.out, nextW_low b k h16])
        · exact (hr0.other k _ (by omega)).drewN 1
        · exact (hbel.setCell (by simp) _).drew
      case measure => simp [intOf]; omega
    · by_cases h64 : k < 64
      · have hlen := wl_length b k
        have hlt := wl_lt b k
        have cw := hr1.cell k
        have c0 := hr1.cell (k - 16)
        have c1 := hr1.cell (k - 15)
        have c2 := hr1.cell (k - 7)
        have c3 := hr1.cell (k - 2)
        have l1 := getD_lt32 hlt (k - 15)
        have l3 := getD_lt32 hlt (k - 2)
        have HN : Hid _ := nextW_high b k h16
        rw [valsU_get _ _ (by simp [wl_length]; omega)] at cw c0 c1 c2 c3
        rw [fill_get _ k _ hlen (by omega)] at c0 c1 c2 c3
        have cf := hr1.frozen k
        generalize (wl b k).getD (k - 16) 0 = x0 at *
        generalize (wl b k).getD (k - 15) 0 = x1 at *
        generalize (wl b k).getD (k - 7) 0 = x2 at *
        generalize (wl b k).getD (k - 2) 0 = x3 at *
        have i0 : (0 : Int) ≤ (k : Int) := by omega
        have i1 : (k : Int) < 64 := by omega
        have s0 : IntKind.i64.wrap ((k : Int) - 16) = (k : Int) - 16 := wrap_i64_in _ (by omega) (by omega)
        have s1 : IntKind.i64.wrap ((k : Int) - 15) = (k : Int) - 15 := wrap_i64_in _ (by omega) (by omega)
        have s2 : IntKind.i64.wrap ((k : Int) - 7) = (k : Int) - 7 := wrap_i64_in _ (by omega) (by omega)
        have s3 : IntKind.i64.wrap ((k : Int) - 2) = (k : Int) - 2 := wrap_i64_in _ (by omega) (by omega)
        have t0 : (0 : Int) ≤ (k : Int) - 16 ∧ (k : Int) - 16 < 64 := by omega
        have t1 : (0 : Int) ≤ (k : Int) - 15 ∧ (k : Int) - 15 < 64 := by omega
        have t2 : (0 : Int) ≤ (k : Int) - 7 ∧ (k : Int) - 7 < 64 := by omega
        have t3 : (0 : Int) ≤ (k : Int) - 2 ∧ (k : Int) - 2 < 64 := by omega
        have a16 : (16 : Int) ≤ (k : Int) := by omega
        have a15 : (15 : Int) ≤ (k : Int) := by omega
        have a7 : (7 : Int) ≤ (k : Int) := by omega
        have a2 : (2 : Int) ≤ (k : Int) := by omega
        rw [show k - 16 = ((k : Int) - 16).toNat by omega] at c0
        rw [show k - 15 = ((k : Int) - 15).toNat by omega] at c1
        rw [show k - 7 = ((k : Int) - 7).toNat by omega] at c2
        rw [show k - 2 = ((k : Int) - 2).toNat by omega] at c3
        have d0 : ¬ (k = ((k : Int) - 16).toNat) := by omega
        have d1 : ¬ (k = ((k : Int) - 15).toNat) := by omega
        have d2 : ¬ (k = ((k : Int) - 7).toNat) := by omega
        have d3 : ¬ (k = ((k : Int) - 2).toNat) := by omega
        obtain ⟨t0a, t0b⟩ := t0
        obtain ⟨t1a, t1b⟩ := t1
        obtain ⟨t2a, t2b⟩ := t2
        obtain ⟨t3a, t3b⟩ := t3
        go_wp2_with fail
        go_region_held3 (fun w' => w'.cell? ⟨w.heap.size + 1, ((k : Int) - 16).toNat, none⟩ = some (.int .u32 (x0 : Int)) ∧ w'.cell? ⟨w.heap.size + 1, ((k : Int) - 15).toNat, none⟩ = some (.int .u32 (x1 : Int)) ∧ w'.cell? ⟨w.heap.size + 1, ((k : Int) - 7).toNat, none⟩ = some (.int .u32 (x2 : Int)) ∧ w'.cell? ⟨w.heap.size + 1, ((k : Int) - 2).toNat, none⟩ = some (.int .u32 (x3 : Int))) (simp [*, World.cell?_setCell_other]) (first | (go_at_call_of 226 (Value.int IntKind.u32 (x1 : Int)); refine (implDuo_any x1 7 18 3 _ _ _ rfl rfl rfl _ l1 (by omega) (by omega) (by omega) (by omega) (by omega) (by omega)).mono ?_; rintro e w' ⟨rfl, n1, rfl⟩) | (go_at_call_of 226 (Value.int IntKind.u32 (x3 : Int)); refine (implDuo_any x3 17 19 10 _ _ _ rfl rfl rfl _ l3 (by omega) (by omega) (by omega) (by omega) (by omega) (by omega)).mono ?_; rintro e w' ⟨rfl, n2, rfl⟩))
        clear c0 c1 c2 c3 d0 d1 d2 d3 s0 s1 s2 s3
        go_wp2
        go_roundw
        case rel =>
          refine ⟨k + 1, by omega, by go_num, ?_, ?_, ?_⟩
          · exact nums_step (hr1.drewN _) (by omega) _ (by rw [HN.out]; omega)
          · exact (hr0.drewN _).other k _ (by omega)
          · exact (below_drewN hbel _).setCell (by simp) _
        case measure => simp [intOf]; omega
      · obtain rfl : k = 64 := by omega
        have e64 : wl b 64 ++ List.replicate (64 - 64) 0 = wl b 64 := by simp
        rw [e64] at hr1
        have z1 : (valsU (wl b 64)).toArray.size = 64 := by simp [valsU_length, wl_length]
        have z0 : (valsU (List.replicate 64 0)).toArray.size = 64 := by simp [valsU_length]
        have one := valsU_one (wl b 64)
        generalize hV : valsU (wl b 64) = V1 at *
        have HV : Hid (valsU (wl b 64) = V1) := hV
        clear hV
        generalize valsU (List.replicate 64 0) = V0 at *
        go_wp2_with (first | (refine wpList_load_row rfl 264 _ rfl (w.heap.size + 1) rfl 264 _ (0, 0) _ hr1 Tryz.underlying264 rfl (by rw [z1]; exact Tryz.size64) ?_) | (refine wpList_store_row rfl 264 _ _ rfl w.heap.size _ rfl rfl 264 _ hr0 (by rw [z1]; exact Tryz.size64) (by rw [z0, z1]) (by rw [Array.all_eq_true_iff_forall_mem]; intro v hv; exact one v (by simpa using hv)) ?_))
        have hrow2 := setRow_heap wr w.heap.size _ V1.toArray 264 _ hr0
        have hb2 := below_setRow hbel (Nat.le_refl _) V1.toArray
        refine bodyPost_ret (v := .agg V1.toArray) ?_ rfl ⟨by rw [HV.out], hb2⟩
        refine results_cell_row Tryz.results218 _ _ w.heap.size 264 _ (0, 0) _ ?_ hrow2 Tryz.underlying264 rfl (by rw [z1]; exact Tryz.size64)
        simp [Act.put]
end Go.Proofs.YtialedffpaoacaaGreatDoor
