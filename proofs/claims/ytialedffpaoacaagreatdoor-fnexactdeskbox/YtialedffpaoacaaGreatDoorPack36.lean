/- Texts that stand on each other, in one file: NewM, RaiseI, NewI. -/
import Derived.Test.YtialedffpaoacaaGreatDoorPack27
import Derived.Test.YtialedffpaoacaaGreatDoorPack34
import Derived.Test.YtialedffpaoacaaGreatDoorPack22
import Derived.Test.YtialedffpaoacaaGreatDoorPack35
/- A new router, in plain lists. (Written by gen_new.py.) -/
namespace Go.Proofs.YtialedffpaoacaaGreatDoor
open Go.RowKit Go.Sort

def upsI (is : List If) : Nat → List If
  | 0 => is
  | k + 1 => setU (upsI is k) k true
theorem upsI_length (is : List If) : ∀ k, (upsI is k).length = is.length
  | 0 => rfl
  | k + 1 => by show (setU (upsI is k) k true).length = _; rw [setU_length, upsI_length is k]
theorem upsI_get (is : List If) : ∀ (k j : Nat) (h : j < is.length), ((upsI is k)[j]'(by rw [upsI_length]; exact h)).a = is[j].a ∧ ((upsI is k)[j]'(by rw [upsI_length]; exact h)).l = is[j].l
  | 0, _, _ => ⟨rfl, rfl⟩
  | k + 1, j, h => by
    have h1 := upsI_get is k j h
    have h2 := setU_get (upsI is k) k j true (by rw [upsI_length]; exact h)
    have e : ∀ hp, ((setU (upsI is k) k true)[j]'hp).a = is[j].a ∧ ((setU (upsI is k) k true)[j]'hp).l = is[j].l := fun hp => by
      rw [show (setU (upsI is k) k true)[j]'hp = _ from h2]
      split
      · exact h1
      · exact h1
    exact e _
def ribN (is : List If) : Nat → List Rt
  | 0 => []
  | k + 1 => if h : k < is.length then insR (ribN is k) (ownRt is[k].a is[k].l k) else ribN is k
theorem ifsB_le {is : List If} (h : ifsB is = true) : is.length ≤ 3 := by
  unfold ifsB at h
  simp only [Bool.and_eq_true, decide_eq_true_eq] at h
  exact h.1
theorem insR_le {rs : List Rt} (h : ribB rs = true) (r : Rt) : (insR rs r).length ≤ rs.length + 1 := by
  rw [insR_length rs r (rib_rising h)]
  split <;> omega
theorem ribN_right {is : List If} (h : ifsB is = true) : ∀ k, k ≤ is.length → ribB (ribN is k) = true ∧ (ribN is k).length ≤ k
  | 0, _ => ⟨ribB_of (by simp [ribN]) (by simp [ribN]) (by simp [ribN]), by simp [ribN]⟩
  | k + 1, hk => by
    obtain ⟨h1, h2⟩ := ribN_right h k (by omega)
    have hk' : k < is.length := by omega
    have h3 := ifsB_le h
    have hl := insR_le h1 (ownRt is[k].a is[k].l k)
    have hif : inIf (k : Int) = true := by unfold inIf; simp only [decide_eq_true_eq]; omega
    show ribB (if h : k < is.length then insR (ribN is k) (ownRt is[k].a is[k].l k) else ribN is k) = true ∧ (if h : k < is.length then insR (ribN is k) (ownRt is[k].a is[k].l k) else ribN is k).length ≤ k + 1
    rw [dif_pos hk']
    exact ⟨insR_right h1 (ownRt_right (ifsB_right h k hk') hif) (by omega), by omega⟩
theorem ownO_new {is : List If} (h : ifsB is = true) (k : Nat) (hk : k < is.length) : ownO (ribN is k) is[k].a is[k].l k = (0, ribN is (k + 1)) := by
  obtain ⟨h1, h2⟩ := ribN_right h k (by omega)
  have h3 := ifsB_le h
  have hl := insR_le h1 (ownRt is[k].a is[k].l k)
  have hif : inIf (k : Int) = true := by unfold inIf; simp only [decide_eq_true_eq]; omega
  unfold ownO
  rw [h1, ifsB_right h k hk, hif]
  simp only [Bool.and_self, if_true]
  rw [if_pos (by omega)]
  show _ = (0, if h : k < is.length then insR (ribN is k) (ownRt is[k].a is[k].l k) else ribN is k)
  rw [dif_pos hk]
/-- What InstNew answers. -/
def newO (is : List If) : Int × (List If × (List Rt × Int)) := if 400 < is.length then (2, [], [], 0) else if ifsB is = true then (0, upsI is is.length, ribN is is.length, 0) else (1, [], [], 0)
theorem newO_len (is : List If) (h : is.length ≤ 1048576) : (newO is).2.1.length ≤ 10000000 ∧ (newO is).2.2.1.length ≤ 100000000 := by
  unfold newO
  split
  · simp
  · split
    · rename_i h1
      have := ribN_right h1 is.length (Nat.le_refl _)
      exact ⟨by show (upsI is is.length).length ≤ _; rw [upsI_length]; omega, by show (ribN is is.length).length ≤ _; omega⟩
    · simp
end Go.Proofs.YtialedffpaoacaaGreatDoor
/- An Iface is raised: it is up, and its net in the table. (Written by gen_insti.py.) -/
namespace Go.Proofs.YtialedffpaoacaaGreatDoor
open Go.RowKit Go.Sort

set_option maxRecDepth 100000 in
set_option maxHeartbeats 2000000 in
theorem raise_any (base : Nat) (is : List If) (rs : List Rt) (now : Int) (g k : Nat) (w : World) (h : AtW base is rs now g w) (hk : k < is.length) (hn2 : rs.length ≤ 100000000) :
    Calls Tryz.prog 118 #[.pointer (some ⟨g, 0, none⟩), .int .i64 k] w fun e w' => e = .returned (.int .i64 (ownO rs is[k].a is[k].l k).1) ∧ AtW base (setU is k true) (if (ownO rs is[k].a is[k].l k).1 = 0 then (ownO rs is[k].a is[k].l k).2 else rs) now g w' ∧ Below base w w' := by
  have HO : Hid (∀ w, AtW base (setU is k true) rs now g w → Calls Tryz.prog 167 #[.pointer (some ⟨g, 0, none⟩), .agg #[.int .i64 is[k].a, .int .i64 is[k].l], .int .i64 k] w fun e w' => e = .returned (.int .i64 (ownO rs is[k].a is[k].l k).1) ∧ AtW base (setU is k true) (if (ownO rs is[k].a is[k].l k).1 = 0 then (ownO rs is[k].a is[k].l k).2 else rs) now g w' ∧ Below base w w') := fun w h => ownW_any base _ rs now g is[k].a is[k].l k w h hn2
  obtain ⟨b, k1, y1, ⟨u0, y2⟩, y3, hbb, hbl, -, hup⟩ := atW_up h k hk
  have hat2 := hup true
  have hl2 : (setU is k true).length = is.length := setU_length is k true
  have hke : (setU is k true)[k]'(by rw [hl2]; exact hk) = ⟨is[k].d, is[k].a, is[k].l, is[k].c, true⟩ := by rw [setU_get is k k true hk, if_pos rfl]
  generalize hf : is[k] = f at *
  clear hf
  obtain ⟨d, a, l, c, u⟩ := f
  simp only at HO hke ⊢
  have zk : (k : Int) < (is.length : Int) := by omega
  have hB := (Below.refl base w).setCell (p := ⟨b, k * 5 + 4, none⟩) hbb (.bool true)
  obtain ⟨q1, k1', q2, k2, t0, t1, t2, t3, oi⟩ := atW_cells hat2
  obtain ⟨b', d', a', l', c', u', rfl, -, hek, e0, e1, e2, e3, e4⟩ := (ownsI_in rfl oi).at k (by rw [hl2]; exact hk)
  rw [hke] at hek
  cases hek
  rw [hl2] at t1
  have HH : Hid _ := And.intro hat2 hB
  clear h hat2 hB hup hke oi hl2 hn2
  generalize ownO rs a l k = RR at *
  generalize (if RR.1 = 0 then RR.2 else rs) = R2 at *
  go_enter Tryz.func118, Tryz.ntmps118
  go_wp2_with fail
  obtain ⟨hat, hB⟩ := HH.out
  generalize w.setCell ⟨b, k * 5 + 4, none⟩ (.bool true) = W2 at *
  clear y1 y2 y3 HH
  refine wp_region_tail 12 (by kernel_rfl) (by kernel_rfl) ?_
  simp only [List.take_succ_cons, List.take_zero, List.drop_succ_cons, List.drop_zero]
  repeat (quiet_step (fail))
  refine wpQuiet_nil ?_
  intro _ hw'
  obtain ⟨nq, hw''⟩ := hw'
  subst hw''
  go_wp2_with fail
  refine (HO.out _ (atW_drewN nq hat)).mono ?_
  rintro e w3 ⟨rfl, hat, hb3⟩
  have hB := (below_drewN hB nq).trans hb3
  clear hb3 HO t0 t1 t2 t3 e0 e1 e2 e3 e4
  go_wp2
  go_ret
  exact ⟨rfl, hat, hB⟩
end Go.Proofs.YtialedffpaoacaaGreatDoor
/- InstNew of the program. (Written by gen_new.py.) -/
namespace Go.Proofs.YtialedffpaoacaaGreatDoor
open Go.RowKit Go.Sort

set_option maxRecDepth 100000 in
set_option maxHeartbeats 2000000 in
theorem implNew_any (x : Option Addr) (c1 : Nat) (is : List If) (w : World) (h1 : IfsIn w x is) (hc : is.length ≤ c1) (hc1 : x = none → c1 = 0) (hn1 : is.length ≤ 100000000) :
    Calls Tryz.prog 66 #[.slice x is.length c1] w fun e w' => OutI w.heap.size (newO is) e w' ∧ Below w.heap.size w w' := by
  have HR : Hid (∀ w, IfsIn w x is → Calls Tryz.prog 117 #[.slice x is.length c1] w fun e w' => e = .returned (.bool (ifsB is)) ∧ Below w.heap.size w w') := fun w p => ifacesRight_any x c1 is w p hc hn1
  have HA : Hid (∀ w, IfsIn w x is → Calls Tryz.prog 100 #[.agg #[.slice x is.length c1, .slice none 0 0, .int .i64 0]] w fun e w' => ∃ g, e = .returned (.pointer (some ⟨g, 0, none⟩)) ∧ AtW w.heap.size (upsI is 0) (ribN is 0) 0 g w' ∧ Below w.heap.size w w') := fun w p => atWork_any x c1 none 0 is [] 0 w p hc1 (.inl rfl) (fun _ => rfl) hn1 (by simp)
  have HRs : Hid (ifsB is = true → ∀ base g k w, k < is.length → AtW base (upsI is k) (ribN is k) 0 g w → Calls Tryz.prog 118 #[.pointer (some ⟨g, 0, none⟩), .int .i64 (k : Nat)] w fun e w' => e = .returned (.int .i64 0) ∧ AtW base (upsI is (k + 1)) (ribN is (k + 1)) 0 g w' ∧ Below base w w') := fun hI base g k w hk h => by
    have h3 := ribN_right hI k (by omega)
    have := raise_any base (upsI is k) (ribN is k) 0 g k w h (by rw [upsI_length]; exact hk) (by have := ifsB_le hI; omega)
    obtain ⟨ha, hl⟩ := upsI_get is k k hk
    rw [ha, hl, ownO_new hI k hk] at this
    exact this
  have HT : Hid (∀ base g w, AtW base (upsI is is.length) (ribN is is.length) 0 g w → Calls Tryz.prog 119 #[.pointer (some ⟨g, 0, none⟩), .int .i64 0] w fun e w' => OutI base (0, upsI is is.length, ribN is is.length, 0) e w' ∧ Below w.heap.size w w') := fun base g w h => toldW_any base _ _ 0 0 g w h
  have HX : Hid (IfsIn w x is) := h1
  have HD : Hid (newO is = if 400 < is.length then (2, [], [], 0) else if ifsB is = true then (0, upsI is is.length, ribN is is.length, 0) else (1, [], [], 0)) := rfl
  clear h1 hc hc1
  generalize newO is = RES at *
  generalize hIB : ifsB is = IB at *
  clear hIB
  have qz := Row.new w 74 [.slice none 0 0, .slice none 0 0, .int .i64 0, .int .i64 0]
  have hB := ent_new0 w (.cells #[.slice none 0 0, .slice none 0 0, .int .i64 0, .int .i64 0] 74)
  have HQ : Hid _ := And.intro qz hB
  clear qz hB
  by_cases h4 : 400 < is.length
  · have z4 : decide ((is.length : Int) > 400) = true := by simp; omega
    have hR := HD.out
    rw [if_pos h4] at hR
    clear h4 HD HR HA HRs HT HX
    go_enter Tryz.func66, Tryz.ntmps66
    go_wp2
    exact bodyPost_ret (v := .agg #[.slice none 0 0, .slice none 0 0, .int .i64 0, .int .i64 2]) (by simp [results, Tryz.results66, go_sem]) rfl ⟨by rw [hR]; exact outI_no _ _ _, ent_new0 _ _⟩
  · have z4 : decide ((is.length : Int) > 400) = false := by simp; omega
    have hR := HD.out
    rw [if_neg h4] at hR
    clear h4 HD
    go_enter Tryz.func66, Tryz.ntmps66
    go_wp2_with fail
    obtain ⟨qz, hB⟩ := HQ.out
    refine (HR.out _ (HX.out.below hB)).mono ?_
    rintro e w1 ⟨rfl, hb1⟩
    have qz := qz.below hb1 qz.lt
    have hB := hB.trans (hb1.mono hB.size)
    clear hb1 HR HQ
    cases IB
    · simp only [Bool.false_eq_true, if_false] at hR
      clear HX HA HRs HT
      have f0 : w1.frozen? ⟨w.heap.size, 0, none⟩ = false := qz.frozen 0
      have f1 : w1.frozen? ⟨w.heap.size, 1, none⟩ = false := qz.frozen 1
      have f2 : w1.frozen? ⟨w.heap.size, 2, none⟩ = false := qz.frozen 2
      have f3 : w1.frozen? ⟨w.heap.size, 3, none⟩ = false := qz.frozen 3
      have z0 : w1.cell? ⟨w.heap.size, 0, none⟩ = some (.slice none 0 0) := qz.cell 0
      have z1 : w1.cell? ⟨w.heap.size, 1, none⟩ = some (.slice none 0 0) := qz.cell 1
      have z2 : w1.cell? ⟨w.heap.size, 2, none⟩ = some (.int .i64 0) := qz.cell 2
      have z3 : w1.cell? ⟨w.heap.size, 3, none⟩ = some (.int .i64 0) := qz.cell 3
      have HE : Hid _ := out4 (p := none) (q := none) (now := 0) (cc := 1) qz rfl (Nat.le_refl _) hB (ownsI_nil w1 w.heap.size) (ownsR_nil w1 w.heap.size) rfl _ rfl
      clear qz hB 
      go_wp2_with fail
      generalize (((w1.setCell ⟨w.heap.size, 0, none⟩ (.slice none 0 0)).setCell ⟨w.heap.size, 1, none⟩ (.slice none 0 0)).setCell ⟨w.heap.size, 2, none⟩ (.int .i64 0)).setCell ⟨w.heap.size, 3, none⟩ (.int .i64 1) = Z at *
      obtain ⟨m1, m2, m3, m4⟩ := HE.out
      clear HE f0 f1 f2 f3 z0 z1 z2 z3
      have e0 : Z.cell? ⟨w.heap.size, 0, none⟩ = some (.slice none 0 0) := m1.cell 0
      have e1 : Z.cell? ⟨w.heap.size, 1, none⟩ = some (.slice none 0 0) := m1.cell 1
      have e2 : Z.cell? ⟨w.heap.size, 2, none⟩ = some (.int .i64 0) := m1.cell 2
      have e3 : Z.cell? ⟨w.heap.size, 3, none⟩ = some (.int .i64 1) := m1.cell 3
      exact bodyPost_ret (v := .agg #[.slice none 0 0, .slice none 0 0, .int .i64 0, .int .i64 1]) (by simp [results, Tryz.results66, go_sem, e0, e1, e2, e3]) rfl ⟨by rw [hR]; exact outI_no _ _ _, m2⟩
    · simp only [if_true] at hR
      go_wp2_with fail
      refine (HA.out _ (HX.out.below hB)).mono ?_
      rintro e w2 ⟨g, rfl, hat, hb2⟩
      have L1 := qz.lt
      have qz := qz.below hb2 qz.lt
      have hBs := hB.size
      have hB := hB.trans (hb2.mono hB.size)
      clear hb2 HA HX
      have hat0 := hat
      generalize hBB : w1.heap.size = B at *
      clear hBB
      have HS0 : Hid _ := And.intro hat (And.intro qz hB)
      obtain ⟨q1, k1, q2, k2, y0, y1, y2, y3, -⟩ := atW_cells hat0
      rw [show (upsI is 0).length = is.length from rfl] at y1
      clear hat hat0 qz hB
      go_wp2_with fail
      go_loopw [21] (fun i wr => ∃ k : Nat, k ≤ is.length ∧ i = .int .i64 k ∧ AtW B (upsI is k) (ribN is k) 0 g wr ∧ Row wr w.heap.size 74 [.slice none 0 0, .slice none 0 0, .int .i64 0, .int .i64 0] ∧ Below w.heap.size w wr) (fun i _ => is.length - (intOf i).toNat)
      case atStart => exact ⟨0, Nat.zero_le _, rfl, HS0.out.1, HS0.out.2.1, HS0.out.2.2⟩
      case round =>
        obtain ⟨k, hk, rfl, hat, qz, hB⟩ := hrel
        clear HS0 y0 y1 y2 y3
        by_cases hlt : k < is.length
        · have d1 : decide ((k : Int) < (is.length : Int)) = true := by simpa using hlt
          go_wp2_with fail
          refine (HRs.out trivial _ _ k _ hlt hat).mono ?_
          rintro e w3 ⟨rfl, hat, hb3⟩
          have qz := qz.below hb3 L1
          have hB := hB.trans (hb3.mono (by omega))
          clear hb3 HRs HT
          go_wp2_with fail
          go_roundw
          case rel => exact ⟨k + 1, hlt, by go_num, hat, qz, hB⟩
          case measure => simp [intOf]; omega
        · obtain rfl : k = is.length := by omega
          have d1 : decide ((is.length : Int) < (is.length : Int)) = false := by simp
          clear hlt hk HRs
          go_wp2_with fail
          refine (HT.out _ _ _ hat).mono ?_
          rintro e w4 ⟨⟨p, d1', q, d2, rfl, oi, orr⟩, hb4⟩
          have qz := qz.below hb4 qz.lt
          have hB := hB.trans (hb4.mono hB.size)
          clear hb4 HT hat
          simp only at oi orr ⊢
          have f0 : w4.frozen? ⟨w.heap.size, 0, none⟩ = false := qz.frozen 0
          have f1 : w4.frozen? ⟨w.heap.size, 1, none⟩ = false := qz.frozen 1
          have f2 : w4.frozen? ⟨w.heap.size, 2, none⟩ = false := qz.frozen 2
          have f3 : w4.frozen? ⟨w.heap.size, 3, none⟩ = false := qz.frozen 3
          have z0 : w4.cell? ⟨w.heap.size, 0, none⟩ = some (.slice none 0 0) := qz.cell 0
          have z1 : w4.cell? ⟨w.heap.size, 1, none⟩ = some (.slice none 0 0) := qz.cell 1
          have z2 : w4.cell? ⟨w.heap.size, 2, none⟩ = some (.int .i64 0) := qz.cell 2
          have z3 : w4.cell? ⟨w.heap.size, 3, none⟩ = some (.int .i64 0) := qz.cell 3
          have HE : Hid _ := out4 (p := p) (q := q) (now := 0) (cc := 0) qz rfl (Nat.le_refl _) hB oi orr rfl _ rfl
          clear qz hB oi orr
          go_wp2_with fail
          generalize (((w4.setCell ⟨w.heap.size, 0, none⟩ (.slice p (upsI is is.length).length d1')).setCell ⟨w.heap.size, 1, none⟩ (.slice q (ribN is is.length).length d2)).setCell ⟨w.heap.size, 2, none⟩ (.int .i64 0)).setCell ⟨w.heap.size, 3, none⟩ (.int .i64 0) = Z at *
          obtain ⟨m1, m2, m3, m4⟩ := HE.out
          clear HE f0 f1 f2 f3 z0 z1 z2 z3
          have e0 : Z.cell? ⟨w.heap.size, 0, none⟩ = some (.slice p (upsI is is.length).length d1') := m1.cell 0
          have e1 : Z.cell? ⟨w.heap.size, 1, none⟩ = some (.slice q (ribN is is.length).length d2) := m1.cell 1
          have e2 : Z.cell? ⟨w.heap.size, 2, none⟩ = some (.int .i64 0) := m1.cell 2
          have e3 : Z.cell? ⟨w.heap.size, 3, none⟩ = some (.int .i64 0) := m1.cell 3
          exact bodyPost_ret (v := .agg #[.slice p (upsI is is.length).length d1', .slice q (ribN is is.length).length d2, .int .i64 0, .int .i64 0]) (by simp [results, Tryz.results66, go_sem, e0, e1, e2, e3]) rfl ⟨by rw [hR]; exact ⟨p, d1', q, d2, rfl, ownsI_mono m3 (by omega), ownsR_mono m4 (by omega)⟩, m2⟩
end Go.Proofs.YtialedffpaoacaaGreatDoor
