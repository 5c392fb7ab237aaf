/- NetText, of the program and of the model. -/
import Derived.Test.YtchgnjpbjnkdmaaDoorAddrTextI
import Derived.Test.YtchgnjpbjnkdmaaDoorNetOf
namespace Go.Proofs.YtchgnjpbjnkdmaaDoor
open Go.RowKit Go.Sort
open Go.Lib (decDigits)

def netT (a l : Int) : ByteArray := if rightB a l = true then ⟨(netL a.toNat l.toNat).toArray⟩ else ByteArray.empty
theorem netT_in (a l : Int) (h : rightB a l = true) : netT a l = addrT a ++ ⟨#[47]⟩ ++ ⟨(decDigits l.toNat).toArray⟩ := by
  have h1 : 0 ≤ a ∧ a ≤ 4294967295 ∧ 0 ≤ l ∧ l ≤ 32 ∧ cutV a l = a := by simpa [rightB] using h
  unfold netT addrT
  rw [if_pos h, if_pos ⟨h1.1, h1.2.1⟩, show (⟨#[47]⟩ : ByteArray) = ⟨[47].toArray⟩ from rfl, text_append, text_append]
  unfold netL
  simp
theorem netT_out (a l : Int) (h : rightB a l = false) : netT a l = ByteArray.empty := by unfold netT; rw [if_neg (by simp [h])]
theorem addrT_size (a : Int) : (addrT a).size ≤ 15 := by
  unfold addrT
  split
  · rename_i h
    rw [text_size]; exact (addrL_length a.toNat (by omega)).2
  · show 0 ≤ 15; omega
theorem decT_size (l : Int) (h : l ≤ 32) : (⟨(decDigits l.toNat).toArray⟩ : ByteArray).size ≤ 3 := by rw [text_size]; exact (dec3_len _ (by omega)).2
set_option maxRecDepth 100000 in
theorem implNetText_any (a l : Int) (w : World) (hT : Pow10 w) : Calls Tryd.prog 9 #[netV a l] w fun e w' => e = .returned (.string (netT a l)) ∧ Below w.heap.size w w' := by
  have HR : Hid (∀ w, Calls Tryd.prog 22 #[netV a l] w fun e w' => e = .returned (.bool (rightB a l)) ∧ Below w.heap.size w w') := implRight_any a l
  by_cases hr : rightB a l = true
  · have h : 0 ≤ a ∧ a ≤ 4294967295 ∧ 0 ≤ l ∧ l ≤ 32 ∧ cutV a l = a := by simpa [rightB] using hr
    have HV : Hid _ := netT_in a l hr
    have HA : Hid (∀ w, Pow10 w → Calls Tryd.prog 8 #[.int .i64 a] w fun e w' => e = .returned (.string (addrT a)) ∧ Below w.heap.size w w') := implAddrText_any a
    have HF : Hid (∀ w, Pow10 w → Calls Tryd.prog 30 #[.int .i64 l, .int .i64 10] w fun e w' => e = .returned (.string ⟨(decDigits l.toNat).toArray⟩) ∧ Below w.heap.size w w') := fun w hT => by
      have h2 := fmtInt_any l w (by omega) (by omega) hT
      rw [show Lib.itoa l = decDigits l.toNat by unfold Lib.itoa; rw [if_neg (by omega)]] at h2
      exact h2
    have z1 := addrT_size a
    have z2 := decT_size l h.2.2.2.1
    generalize (⟨(decDigits l.toNat).toArray⟩ : ByteArray) = D at *
    generalize addrT a = B at *
    generalize netT a l = T at *
    rw [hr] at HR
    have HTT : Hid (Pow10 w) := hT
    clear hr h hT
    unfold netV at *
    go_enter Tryd.func9, Tryd.ntmps9
    go_wp2_with fail
    refine (HR.out _).mono ?_
    rintro e w1 ⟨rfl, hb1⟩
    obtain ⟨c0, c1, hs1, hB1⟩ := cell2_later rfl hb1
    have HP : Hid (Pow10 w1) := HTT.out.below hB1
    have k0 := cell_regrown c0
    have k1 := cell_regrown c1
    clear hb1 c0 c1
    go_wp2_with fail
    refine wp_region_quiet_below (by kernel_rfl) (by kernel_rfl) ?_
    repeat (go_big_quiet_step (first | (go_at_call 8; exact Calls.regrown_of (HA.out _ (HP.out.below (below_regrown _ _ _)))) | (go_at_call 30; exact Calls.regrown_of (HF.out _ (HP.out.below (below_regrown _ _ _))))))
    refine wpQuiet_nil ?_
    intro w2 hw'
    obtain ⟨⟨dq, osq⟩, hw''⟩ := hw'
    have hbq := below_regrown w1 dq osq
    rw [← hw''] at hbq
    clear hw'' osq dq k0 k1
    go_wp2
    go_ret
    exact ⟨by rw [HV.out]; rfl, hB1.trans (hbq.mono hB1.size)⟩
  · have hr' : rightB a l = false := by simpa using hr
    rw [netT_out a l hr']
    rw [hr'] at HR
    clear hr hr' hT
    unfold netV at *
    go_enter Tryd.func9, Tryd.ntmps9
    go_wp2_with fail
    refine (HR.out _).mono ?_
    rintro e w1 ⟨rfl, hb1⟩
    obtain ⟨c0, c1, hs1, hB1⟩ := cell2_later rfl hb1
    clear hb1 c0 c1
    go_wp2
    go_ret
    exact ⟨rfl, hB1⟩
set_option maxRecDepth 100000 in
theorem specNetText_any (a l : Int) (w : World) : Calls Tryd.prog 15 #[netV a l] w fun e w' => e = .returned (.string (netT a l)) ∧ Below w.heap.size w w' := by
  have HR : Hid (∀ w, Calls Tryd.prog 23 #[netV a l] w fun e w' => e = .returned (.bool (rightB a l)) ∧ Below w.heap.size w w') := specRight_any a l
  by_cases hr : rightB a l = true
  · have h : 0 ≤ a ∧ a ≤ 4294967295 ∧ 0 ≤ l ∧ l ≤ 32 ∧ cutV a l = a := by simpa [rightB] using hr
    have HV : Hid _ := netT_in a l hr
    have HA : Hid (∀ w, Calls Tryd.prog 14 #[.int .i64 a] w fun e w' => e = .returned (.string (addrT a)) ∧ Below w.heap.size w w') := specAddrText_any a
    have HF : Hid (∀ w, Calls Tryd.prog 37 #[.int .i64 l] w fun e w' => e = .returned (.string ⟨(decDigits l.toNat).toArray⟩) ∧ Below w.heap.size w w') := fun w => l01Dec_at l l.toNat w (by omega) (by omega)
    have z1 := addrT_size a
    have z2 := decT_size l h.2.2.2.1
    generalize (⟨(decDigits l.toNat).toArray⟩ : ByteArray) = D at *
    generalize addrT a = B at *
    generalize netT a l = T at *
    rw [hr] at HR
    clear hr h
    unfold netV at *
    go_enter Tryd.func15, Tryd.ntmps15
    go_wp2_with fail
    refine (HR.out _).mono ?_
    rintro e w1 ⟨rfl, hb1⟩
    obtain ⟨c0, c1, hs1, hB1⟩ := cell2_later rfl hb1
    have k0 := cell_regrown c0
    have k1 := cell_regrown c1
    clear hb1 c0 c1
    go_wp2_with fail
    refine wp_region_quiet_below (by kernel_rfl) (by kernel_rfl) ?_
    repeat (go_big_quiet_step (first | (go_at_call 14; exact Calls.regrown_of (HA.out _)) | (go_at_call 37; exact Calls.regrown_of (HF.out _))))
    refine wpQuiet_nil ?_
    intro w2 hw'
    obtain ⟨⟨dq, osq⟩, hw''⟩ := hw'
    have hbq := below_regrown w1 dq osq
    rw [← hw''] at hbq
    clear hw'' osq dq k0 k1
    go_wp2
    go_ret
    exact ⟨by rw [HV.out]; rfl, hB1.trans (hbq.mono hB1.size)⟩
  · have hr' : rightB a l = false := by simpa using hr
    rw [netT_out a l hr']
    rw [hr'] at HR
    clear hr hr'
    unfold netV at *
    go_enter Tryd.func15, Tryd.ntmps15
    go_wp2_with fail
    refine (HR.out _).mono ?_
    rintro e w1 ⟨rfl, hb1⟩
    obtain ⟨c0, c1, hs1, hB1⟩ := cell2_later rfl hb1
    clear hb1 c0 c1
    go_wp2
    go_ret
    exact ⟨rfl, hB1⟩
end Go.Proofs.YtchgnjpbjnkdmaaDoor
