/- Texts that stand on each other, in one file: OfferM, WrapM, VlanI, OfferI, Off7. -/
import Derived.Test.YtialedffpaoacaaGreatDoorPack20
import Derived.Test.YtialedffpaoacaaGreatDoorPack21
import Derived.Test.YtialedffpaoacaaGreatDoorPack13
import Derived.Test.YtialedffpaoacaaGreatDoorPack18
import Derived.Test.YtialedffpaoacaaGreatDoorPack12
import Derived.Test.YtialedffpaoacaaGreatDoorPack7
/- What is offered, in plain lists. (Written by gen_offer.py.) -/
namespace Go.Proofs.YtialedffpaoacaaGreatDoor
open Go.RowKit Go.Sort

/-- What is told of a route by an Iface. -/
def offE (i : Int) (r : Rt) : Ent := ⟨r.a, r.l, 0, if r.i = i then 16 else r.m, r.t⟩
def offF (i : Int) (all : Bool) (r : Rt) : Option Ent := if all || r.c then some (offE i r) else none
/-- What Offer answers. -/
def offerO (is : List If) (rs : List Rt) (now i : Int) (all : Bool) : List Ent := if instB is rs now = true then (match ifAt is i with | none => [] | some f => if f.u = true then rs.filterMap (offF i all) else []) else []
theorem off_next (f : Rt → Option Ent) (rs : List Rt) (k : Nat) (hk : k < rs.length) : (rs.take (k + 1)).filterMap f = (rs.take k).filterMap f ++ (f rs[k]).toList := by
  rw [List.take_succ_eq_append_getElem hk, List.filterMap_append]
  cases h : f rs[k] <;> simp [h]
theorem off_le (f : Rt → Option Ent) (rs : List Rt) (k : Nat) : ((rs.take k).filterMap f).length ≤ rs.length := Nat.le_trans (List.length_filterMap_le _ _) (by rw [List.length_take]; omega)
theorem offerO_le (is : List If) (rs : List Rt) (now i : Int) (all : Bool) : (offerO is rs now i all).length ≤ 1000 := by
  unfold offerO
  split
  · rename_i hI
    unfold instB at hI
    simp only [Bool.and_eq_true] at hI
    have h8 := (ribB_spec hI.2.1).1
    split
    · simp
    · split
      · exact Nat.le_trans (List.length_filterMap_le _ _) (by omega)
      · simp
  · simp
end Go.Proofs.YtialedffpaoacaaGreatDoor
/- What Wrap answers, in plain lists. (By hand.) -/
namespace Go.Proofs.YtialedffpaoacaaGreatDoor
open Go.RowKit Go.Sort

/-- Is it a Bind of this Iface? -/
def isFc (n i : Int) (b : Bd) : Bool := b.tn == n && b.ic == i
/-- The vlan of the first one, or 0. -/
def vlF (l : List Bd) (n i : Int) : Int := match l.find? (isFc n i) with
  | none => 0
  | some b => b.vl
theorem vlF_none {l : List Bd} {n i : Int} (h : ∀ j (hj : j < l.length), isFc n i l[j] = false) : vlF l n i = 0 := by
  unfold vlF
  rw [List.find?_eq_none.2 (fun b hb => by
    obtain ⟨j, hj, rfl⟩ := List.mem_iff_getElem.1 hb
    rw [h j hj]; simp)]
theorem vlF_some {l : List Bd} {n i : Int} {j : Nat} (hj : j < l.length) (h0 : ∀ k (hk : k < l.length), k < j → isFc n i l[k] = false) (h : isFc n i l[j] = true) : vlF l n i = l[j].vl := by
  unfold vlF
  rw [List.find?_eq_some_iff_getElem.2 ⟨h, j, hj, rfl, fun k hk => by rw [h0 k (by omega) hk]; rfl⟩]
theorem vlF_in {ts : List Tn} {l : List Bd} (h : bindsB ts l = true) (n i : Int) : vlF l n i = 0 ∨ 1 ≤ vlF l n i ∧ vlF l n i ≤ 4094 := by
  unfold vlF
  cases hf : l.find? (isFc n i) with
  | none => exact .inl rfl
  | some b =>
    have hm := List.mem_of_find?_eq_some hf
    obtain ⟨j, hj, rfl⟩ := List.mem_iff_getElem.1 hm
    unfold bindsB at h
    simp only [Bool.and_eq_true, List.all_eq_true, List.mem_range] at h
    have := (h.2 j hj).1
    rw [get_bangB l j hj] at this
    unfold bdB at this
    simp only [Bool.and_eq_true, decide_eq_true_eq] at this
    exact .inr ⟨this.2.2.1, this.2.2.2.1⟩
theorem bv_of {ts : List Tn} {l : List Bd} (h : bindsB ts l = true) : ∀ b ∈ l, 1 ≤ b.vl ∧ b.vl ≤ 4094 := fun b hb => by
  obtain ⟨j, hj, rfl⟩ := List.mem_iff_getElem.1 hb
  unfold bindsB at h
  simp only [Bool.and_eq_true, List.all_eq_true, List.mem_range] at h
  have := (h.2 j hj).1
  rw [get_bangB l j hj] at this
  unfold bdB at this
  simp only [Bool.and_eq_true, decide_eq_true_eq] at this
  exact ⟨this.2.2.1, this.2.2.2.1⟩
/-- What an Iface tells. -/
def offL (f : If) (i : Int) (all : Bool) (rs : List Rt) : List Ent := if f.u = true then rs.filterMap (offF i all) else []
def wrapT (f : If) (key : ByteArray) (now : Int) (es : List Ent) (vl : Int) : ByteArray := if es = [] ∨ now = 0 ∨ vl = 0 then ByteArray.empty else frT vl (dgT f.d 3758096393 520 520 1 (signT 2 es key now))
def wrapO (ts : List Tn) (l : List Bd) (ls : List Lk) (lost : Int) (n i : Int) (all : Bool) : ByteArray :=
  if (boxB ts l ls lost && inFc ts n i) = true then wrapT (ts[n.toNat]!).is[i.toNat]! (ts[n.toNat]!).key (ts[n.toNat]!).now (offL (ts[n.toNat]!).is[i.toNat]! i all (ts[n.toNat]!).rs) (vlF l n i) else ByteArray.empty
theorem offE_right {r : Rt} (h : routeB r = true) (i : Int) : entB (offE i r) = true := by
  unfold routeB saidB entB rtE at h
  simp only [Bool.and_eq_true] at h
  obtain ⟨⟨⟨⟨⟨⟨h1, h2⟩, h3⟩, h4⟩, -⟩, -⟩, -⟩ := h
  unfold entB offE
  have e0 : inAddr 0 = true := rfl
  have e1 : inMet (if r.i = i then 16 else r.m) = true := by
    by_cases hi : r.i = i
    · rw [if_pos hi]; rfl
    · rw [if_neg hi]; exact h3
  simp only [Bool.and_eq_true]
  exact ⟨⟨⟨h1, e0⟩, e1⟩, h4⟩
/-- What a right tenant's Iface tells is right. -/
structure Wr (t : Tn) (f : If) (es : List Ent) : Prop where
  rip : ripB 2 es = true
  key : inKey t.key = true
  now : 0 ≤ t.now ∧ t.now ≤ 999800
  adr : inA f.d = true
  few : es.length ≤ 8
  rts : t.rs.length ≤ 8
  ins : instB t.is t.rs t.now = true
theorem wr_of {t : Tn} (h : tenT t = true) {k : Nat} (hk : k < t.is.length) (i : Int) (all : Bool) : Wr t t.is[k] (offL t.is[k] i all t.rs) := by
  unfold tenT tenB at h
  simp only [Bool.and_eq_true] at h
  obtain ⟨hI, hK, -⟩ := h
  have hI' := hI
  unfold instB at hI'
  simp only [Bool.and_eq_true, decide_eq_true_eq] at hI'
  obtain ⟨hF, hR, hn⟩ := hI'
  obtain ⟨r8, rk⟩ := ribB_spec hR
  have hR' : ∀ r ∈ t.rs, routeB r = true := fun r hr => by
    obtain ⟨j, hj, rfl⟩ := List.mem_iff_getElem.1 hr
    have := rk j hj
    unfold okAt at this
    simp only [Bool.and_eq_true] at this
    rw [getElem!_pos t.rs j hj] at this
    exact this.1
  have hlen : (offL t.is[k] i all t.rs).length ≤ 8 := by
    unfold offL
    split
    · exact Nat.le_trans (List.length_filterMap_le _ _) r8
    · simp
  have hall : (offL t.is[k] i all t.rs).all entB = true := by
    rw [List.all_eq_true]
    intro e he
    unfold offL at he
    split at he
    · obtain ⟨r, hr, hre⟩ := List.mem_filterMap.1 he
      unfold offF at hre
      split at hre
      · cases hre
        exact offE_right (hR' r hr) i
      · cases hre
    · cases he
  have hadr : inA t.is[k].d = true := by
    unfold ifsB at hF
    simp only [Bool.and_eq_true, List.all_eq_true, List.mem_range] at hF
    have := hF.2 k hk
    unfold ifsOk at this
    simp only [Bool.and_eq_true] at this
    have := this.1
    rw [getElem!_pos t.is k hk] at this
    unfold ifB coversB at this
    simp only [Bool.and_eq_true] at this
    exact this.1.2.1
  refine ⟨?_, hK, hn, hadr, hlen, r8, hI⟩
  unfold ripB
  rw [hall, decide_eq_true hlen]
  rfl
theorem Wr.dg {t : Tn} {f : If} {es : List Ent} (h : Wr t f es) : dgB f.d 3758096393 520 520 1 (signT 2 es t.key t.now).size = true := by
  unfold dgB
  rw [h.adr, signT_size]
  have := h.few
  have e : decide (28 + 20 * es.length ≤ 300) = true := by simpa using by omega
  rw [e]
  rfl
theorem Wr.seq {t : Tn} {f : If} {es : List Ent} (h : Wr t f es) (hn : t.now ≠ 0) : inSeq t.now = true := by
  have := h.now
  unfold inSeq
  simp only [decide_eq_true_eq]
  omega
theorem Wr.sign {t : Tn} {f : If} {es : List Ent} (h : Wr t f es) : signO 2 es t.key t.now = if t.now = 0 then ByteArray.empty else signT 2 es t.key t.now := by
  unfold signO
  by_cases hn : t.now = 0
  · rw [if_pos hn, if_neg (by rw [hn]; rintro ⟨-, h, -⟩; cases h)]
  · rw [if_neg hn, if_pos ⟨h.rip, h.seq hn, h.key⟩]
theorem Wr.fr {t : Tn} {f : If} {es : List Ent} (h : Wr t f es) {v : Int} (hv : 1 ≤ v ∧ v ≤ 4094) : frB v (dgT f.d 3758096393 520 520 1 (signT 2 es t.key t.now)).size = true := by
  unfold frB
  rw [dgT_size, signT_size]
  have := h.few
  simp only [decide_eq_true_eq]
  omega
theorem Wr.wire {t : Tn} {f : If} {es : List Ent} (h : Wr t f es) {v : Int} (hv : v = 0 ∨ 1 ≤ v ∧ v ≤ 4094) (he : es ≠ []) (hn : t.now ≠ 0) :
    frO v (dgO f.d 3758096393 520 520 1 (signT 2 es t.key t.now)) = wrapT f t.key t.now es v := by
  rw [dgO_in _ _ _ _ _ _ h.dg]
  unfold wrapT
  rcases hv with rfl | hv
  · rw [if_pos (.inr (.inr rfl))]
    exact frO_out _ _ (by unfold frB; simp)
  · rw [if_neg (by rintro (h | h | h); exact he h; exact hn h; omega)]
    exact frO_in _ _ (h.fr hv)
theorem ten_of {ts : List Tn} {bs : List Bd} {ls : List Lk} {lost : Int} (h : boxB ts bs ls lost = true) {k : Nat} (hk : k < ts.length) : tenT ts[k] = true := by
  unfold boxB tensB at h
  simp only [Bool.and_eq_true, List.all_eq_true] at h
  have := h.1.2.2 ts[k] (List.getElem_mem hk)
  unfold tnOk at this
  simp only [Bool.and_eq_true] at this
  exact this.1
theorem binds_of {ts : List Tn} {bs : List Bd} {ls : List Lk} {lost : Int} (h : boxB ts bs ls lost = true) : bindsB ts bs = true := by
  unfold boxB at h
  simp only [Bool.and_eq_true] at h
  exact h.2.1
/-- The places of a tenant's lists are at home with their rooms. -/
def TpO (a : Tp) (t : Tn) : Prop := t.is.length ≤ a.c1 ∧ (a.x = none → a.c1 = 0) ∧ (a.y = none → a.c2 = 0)
end Go.Proofs.YtialedffpaoacaaGreatDoor
/- The vlan of an Iface, by the program. (By hand.) -/
namespace Go.Proofs.YtialedffpaoacaaGreatDoor
open Go.RowKit Go.Sort

set_option maxRecDepth 100000 in
set_option maxHeartbeats 4000000 in
theorem vlanOf_any (p : Option Addr) (cap : Nat) (l : List Bd) (n i : Int) (w : World) (h : BdsIn w p l) (hn : l.length ≤ 100000000) :
    Calls Tryz.prog 27 #[.slice p l.length cap, .int .i64 n, .int .i64 i] w fun e w' => e = .returned (.int .i64 (vlF l n i)) ∧ Below w.heap.size w w' := by
  have HX : Hid (BdsIn w p l) := h
  have HF : Hid (∀ j (hj : j < l.length), (∀ i' (hi : i' < l.length), i' < j → isFc n i l[i'] = false) → isFc n i l[j] = true → vlF l n i = l[j].vl) := fun j hj a b => vlF_some hj a b
  have HG : Hid ((∀ j (hj : j < l.length), isFc n i l[j] = false) → vlF l n i = 0) := vlF_none
  clear h
  generalize vlF l n i = V at *
  go_enter Tryz.func27, Tryz.ntmps27
  go_wp2_with fail
  go_loopw [11] (fun i' wr => ∃ k : Nat, k ≤ l.length ∧ i' = .int .i64 k ∧ (∀ j (hj : j < l.length), j < k → isFc n i l[j] = false) ∧ Below w.heap.size w wr) (fun i' _ => l.length - (intOf i').toNat)
  case atStart => exact ⟨0, Nat.zero_le _, rfl, fun j _ hj => absurd hj (by omega), Below.refl _ _⟩
  case round =>
    obtain ⟨k, hk, rfl, ha, hB⟩ := hrel
    by_cases hlt : k < l.length
    · have dk : decide ((k : Int) < (l.length : Int)) = true := by simpa using hlt
      obtain ⟨g, b0, b1, b2, b3, rfl, hg, hek, c0, c1, c2, c3⟩ := (HX.out.below hB).at k hlt
      have HS : Hid (isFc n i l[k] = (b2 == n && b3 == i)) := by show _ = _; rw [hek]; rfl
      have HK : Hid (l[k].vl = b1) := by show _ = _; rw [hek]
      have HA : Hid (∀ j (hj : j < l.length), j < k → isFc n i l[j] = false) := ha
      have HR : Hid _ := hB.alloc hB.size (.cells #[.int .i64 b0, .int .i64 b1, .int .i64 b2, .int .i64 b3] 77)
      clear hek ha hB
      by_cases h0 : b2 = n
      · have d0 : (b2 == n) = true := by simpa using h0
        by_cases h1 : b3 = i
        · have d1 : (b3 == i) = true := by simpa using h1
          have hF := HF.out k hlt HA.out (by rw [HS.out, d0, d1]; rfl)
          rw [HK.out] at hF
          clear h0 h1 HF HG HX HS HA HK
          go_wp2_with fail
          clear c0 c1 c2 c3
          go_ret
          exact ⟨by rw [hF]; rfl, HR.out⟩
        · have d1 : (b3 == i) = false := by simpa using h1
          have HN : Hid (isFc n i l[k] = false) := by show _ = _; rw [HS.out, d1, Bool.and_false]
          clear h0 h1 HS HK
          go_wp2_with fail
          clear c0 c1 c2 c3
          go_roundw
          case rel => exact ⟨k + 1, hlt, by go_num, (fun j hj hjk => by
            rcases Nat.lt_or_ge j k with h' | h'
            · exact HA.out j hj h'
            · obtain rfl : j = k := (by omega)
              exact HN.out), HR.out⟩
          case measure => simp [intOf]; omega
      · have d0 : (b2 == n) = false := by simpa using h0
        have HN : Hid (isFc n i l[k] = false) := by show _ = _; rw [HS.out, d0, Bool.false_and]
        clear h0 HS HK
        go_wp2_with fail
        clear c0 c1 c2 c3
        go_roundw
        case rel => exact ⟨k + 1, hlt, by go_num, (fun j hj hjk => by
          rcases Nat.lt_or_ge j k with h' | h'
          · exact HA.out j hj h'
          · obtain rfl : j = k := (by omega)
            exact HN.out), HR.out⟩
        case measure => simp [intOf]; omega
    · have dk : decide ((k : Int) < (l.length : Int)) = false := by simpa using hlt
      have hG := HG.out (fun j hj => ha j hj (by omega))
      clear HX HF HG ha
      go_wp2_with fail
      go_ret
      exact ⟨by rw [hG]; rfl, hB⟩
end Go.Proofs.YtialedffpaoacaaGreatDoor
/- Offer of the program. (Written by gen_offer.py.) -/
namespace Go.Proofs.YtialedffpaoacaaGreatDoor
open Go.RowKit Go.Sort

set_option maxRecDepth 100000 in
set_option maxHeartbeats 2000000 in
theorem offered_any (r : Rt) (i : Int) (w : World) : Calls Tryz.prog 102 #[rtV r, .int .i64 i] w fun e w' => e = .returned (entV (offE i r)) ∧ Below w.heap.size w w' := by
  obtain ⟨a, l, m, n, ii, t, u, b, c⟩ := r
  unfold rtV rtA offE entV
  simp only
  by_cases hI : ii = i
  · have zI : (ii == i) = true := by simpa using hI
    rw [if_pos hI]
    clear hI
    go_enter Tryz.func102, Tryz.ntmps102
    go_wp2_with fail
    exact bodyPost_ret (v := .agg #[.int .i64 a, .int .i64 l, .int .i64 0, .int .i64 16, .int .i64 t]) (by simp [results, Tryz.results102, go_sem]) rfl ⟨rfl, ((ent_new0 w _).alloc (by simp) _).alloc (by simp; omega) _⟩
  · have zI : (ii == i) = false := by simpa using hI
    rw [if_neg hI]
    clear hI
    go_enter Tryz.func102, Tryz.ntmps102
    go_wp2_with fail
    exact bodyPost_ret (v := .agg #[.int .i64 a, .int .i64 l, .int .i64 0, .int .i64 m, .int .i64 t]) (by simp [results, Tryz.results102, go_sem]) rfl ⟨rfl, ((ent_new0 w _).alloc (by simp) _).alloc (by simp; omega) _⟩
set_option maxRecDepth 100000 in
set_option maxHeartbeats 2000000 in
theorem implOffer_any (x : Option Addr) (c1 : Nat) (y : Option Addr) (c2 : Nat) (is : List If) (rs : List Rt) (now : Int) (i : Int) (all : Bool) (w : World) (h1 : IfsIn w x is) (hc : is.length ≤ c1) (hc1 : x = none → c1 = 0) (h2 : RtsIn w y rs) (hc2 : y = none → c2 = 0) (hn1 : is.length ≤ 100000000) (hn2 : rs.length ≤ 100000000) :
    Calls Tryz.prog 57 #[instV x is.length c1 y rs.length c2 now, .int .i64 i, .bool all] w fun e w' => (∃ v, e = .returned v ∧ OwnE w' w.heap.size v (offerO is rs now i all)) ∧ Below w.heap.size w w' := by
  have HR : Hid (∀ w, IfsIn w x is → RtsIn w y rs → Calls Tryz.prog 99 #[instV x is.length c1 y rs.length c2 now] w fun e w' => e = .returned (.bool (instB is rs now)) ∧ Below w.heap.size w w') := fun w p q => implInst_any x c1 y c2 is rs now w p hc q hn1 hn2
  have HA : Hid (∀ w, IfsIn w x is → RtsIn w y rs → Calls Tryz.prog 100 #[instV x is.length c1 y rs.length c2 now] w fun e w' => ∃ g, e = .returned (.pointer (some ⟨g, 0, none⟩)) ∧ AtW w.heap.size is rs now g w' ∧ Below w.heap.size w w') := fun w p q => atWork_any x c1 y c2 is rs now w p hc1 q hc2 hn1 hn2
  have HL : Hid (∀ base g w, AtW base is rs now g w → Calls Tryz.prog 101 #[.pointer (some ⟨g, 0, none⟩), .int .i64 i, .bool true] w fun e w' => e = .returned (.int .i64 (lookC is i true)) ∧ Below w.heap.size w w') := fun base g w h => by
    obtain ⟨q1, k1, q2, k2, hg, hr, oi, orr⟩ := h
    exact look_any g q2 _ k2 q1 k1 now is i true w hr (ownsI_in rfl oi) hn1
  have HC : Hid ((match ifAt is i with | none => (6 : Int) | some f => if f.u = true then (0 : Int) else 10) = lookC is i true) := rfl
  generalize lookC is i true = CC at *
  have HF : Hid (∀ r w, Calls Tryz.prog 102 #[rtV r, .int .i64 i] w fun e w' => e = .returned (entV (offE i r)) ∧ Below w.heap.size w w') := fun r w => offered_any r i w
  have HX : Hid (IfsIn w x is ∧ RtsIn w y rs) := ⟨h1, h2⟩
  have HD : Hid (offerO is rs now i all = if instB is rs now = true then (match ifAt is i with | none => [] | some f => if f.u = true then rs.filterMap (offF i all) else []) else []) := rfl
  have H8 : Hid (instB is rs now = true → rs.length ≤ 8) := fun h => by
    unfold instB at h
    simp only [Bool.and_eq_true] at h
    exact (ribB_spec h.2.1).1
  clear h1 h2 hc hc1 hc2
  generalize offerO is rs now i all = RES at *
  generalize instB is rs now = IB at *
  unfold instV at *
  have HQ : Hid _ := And.intro (Row.new w 51 [.slice x is.length c1, .slice y rs.length c2, .int .i64 now]) (ent_new0 w (.cells #[.slice x is.length c1, .slice y rs.length c2, .int .i64 now] 51))
  go_enter Tryz.func57, Tryz.ntmps57
  go_wp2_with fail
  obtain ⟨q0, hB⟩ := HQ.out
  refine (HR.out _ (HX.out.1.below hB) (HX.out.2.below hB)).mono ?_
  rintro e w1 ⟨rfl, hb1⟩
  have q0 := q0.below hb1 q0.lt
  have hB := hB.trans (hb1.mono hB.size)
  clear hb1 HR HQ
  have hR := HD.out
  have hcc := HC.out
  clear HD HC
  cases IB
  · simp only [Bool.false_eq_true, if_false] at hR
    go_wp2
    go_ret
    exact ⟨⟨_, rfl, by rw [hR]; exact OwnE.nil _ _⟩, hB⟩
  · simp only [if_true] at hR
    have h8 := H8.out rfl
    clear H8
    have y0 : w1.cell? ⟨w.heap.size, 0, none⟩ = some (.slice x is.length c1) := q0.cell 0
    have y1 : w1.cell? ⟨w.heap.size, 1, none⟩ = some (.slice y rs.length c2) := q0.cell 1
    have y2 : w1.cell? ⟨w.heap.size, 2, none⟩ = some (.int .i64 now) := q0.cell 2
    go_wp2_with fail
    refine (HA.out _ (HX.out.1.below hB) (HX.out.2.below hB)).mono ?_
    rintro e w2 ⟨g, rfl, hat, hb2⟩
    have q0 := q0.below hb2 q0.lt
    have hB := hB.trans (hb2.mono hB.size)
    clear hb2 HA y0 y1 y2
    go_wp2_with fail
    refine (HL.out _ _ _ hat).mono ?_
    rintro e w3 ⟨rfl, hb3⟩
    have q0 := q0.below hb3 q0.lt
    have hB := hB.trans (hb3.mono hB.size)
    clear hb3 HL hat
    cases hia : ifAt is i with
    | none =>
      rw [hia] at hR hcc
      simp only at hR hcc
      subst hcc
      clear hia
      go_wp2
      go_ret
      exact ⟨⟨_, rfl, by rw [hR]; exact OwnE.nil _ _⟩, hB⟩
    | some f =>
      rw [hia] at hR hcc
      simp only at hR hcc
      clear hia
      by_cases hu : f.u = true
      · rw [if_pos hu] at hR hcc
        subst hcc
        clear hu
        have y1 : w3.cell? ⟨w.heap.size, 1, none⟩ = some (.slice y rs.length c2) := q0.cell 1
        have HQ : Hid _ := And.intro q0 hB
        clear q0 hB
        go_wp2_with fail
        clear y1
        go_loopw [24, 7] (fun i' v wr => ∃ k : Nat, k ≤ rs.length ∧ i' = .int .i64 k ∧ OwnE wr w.heap.size v ((rs.take k).filterMap (offF i all)) ∧ Below w.heap.size w wr) (fun i' _ _ => rs.length - (intOf i').toNat)
        case atStart => exact ⟨0, Nat.zero_le _, rfl, OwnE.nil _ _, HQ.out.2⟩
        case round =>
          obtain ⟨k, hk, rfl, ho, hBr⟩ := hrel
          clear HQ
          by_cases hlt : k < rs.length
          · have d1 : decide ((k : Int) < (rs.length : Int)) = true := by simpa using hlt
            have hnx := off_next (offF i all) rs k hlt
            have hle := off_le (offF i all) rs k
            obtain ⟨gr, a, l, m, n, ii, t, u, b, c, rfl, hg, hek, c0, c1', c2', c3, c4, c5, c6, c7, c8⟩ := ((HX.out.2).below hBr).at k hlt
            rw [hek] at hnx
            have hBs := hBr.size
            obtain ⟨pv, cv, rfl, -⟩ := ho.form
            have hB2 := hBr.alloc hBr.size (.cells #[.int .i64 a, .int .i64 l, .int .i64 m, .int .i64 n, .int .i64 ii, .int .i64 t, .int .i64 u, .int .i64 b, .bool c] 144)
            have ho2 := ho.alloc (.cells #[.int .i64 a, .int .i64 l, .int .i64 m, .int .i64 n, .int .i64 ii, .int .i64 t, .int .i64 u, .int .i64 b, .bool c] 144)
            have HFk : Hid (∀ w, Calls Tryz.prog 102 #[.agg #[.int .i64 a, .int .i64 l, .int .i64 m, .int .i64 n, .int .i64 ii, .int .i64 t, .int .i64 u, .int .i64 b, .bool c], .int .i64 i] w fun e w' => e = .returned (entV (offE i ⟨a, l, m, n, ii, t, u, b, c⟩)) ∧ Below w.heap.size w w') := HF.out ⟨a, l, m, n, ii, t, u, b, c⟩
            have hnx' := hnx
            have hof : offF i all ⟨a, l, m, n, ii, t, u, b, c⟩ = if (all || c) = true then some (offE i ⟨a, l, m, n, ii, t, u, b, c⟩) else none := rfl
            rw [hof] at hnx
            clear hof
            by_cases hA : (all || c) = true
            · rw [if_pos hA] at hnx
              generalize hEE : offE i ⟨a, l, m, n, ii, t, u, b, c⟩ = E at *
              clear hEE
              have HNX : Hid _ := hnx
              have HO : Hid _ := And.intro ho2 hB2
              have hK : ∀ w4, Below (wr.alloc (.cells #[.int .i64 a, .int .i64 l, .int .i64 m, .int .i64 n, .int .i64 ii, .int .i64 t, .int .i64 u, .int .i64 b, .bool c] 144)).heap.size (wr.alloc (.cells #[.int .i64 a, .int .i64 l, .int .i64 m, .int .i64 n, .int .i64 ii, .int .i64 t, .int .i64 u, .int .i64 b, .bool c] 144)) w4 → OwnE (w4.alloc (.cells #[.int .i64 E.a, .int .i64 E.l, .int .i64 E.n, .int .i64 E.m, .int .i64 E.t] 146)) w.heap.size (.slice pv ((rs.take k).filterMap (offF i all)).length cv) ((rs.take k).filterMap (offF i all)) ∧ Below w.heap.size w (w4.alloc (.cells #[.int .i64 E.a, .int .i64 E.l, .int .i64 E.n, .int .i64 E.m, .int .i64 E.t] 146)) := fun w4 hb4 => ⟨(HO.out.1.below hb4).alloc _, (HO.out.2.trans (hb4.mono HO.out.2.size)).alloc (by have := HO.out.2.size; have := hb4.size; omega) _⟩
              have HKK : Hid _ := hK
              have hc' : all = true ∨ all = false ∧ c = true := by cases all <;> cases c <;> simp_all
              clear hA hnx hnx' ho ho2 hBr hB2 hK hg hek HO
              rcases hc' with rfl | ⟨rfl, rfl⟩
              · go_wp2_with fail
                refine (HFk.out _).mono ?_
                rintro e w4 ⟨rfl, hb4⟩
                obtain ⟨ho4, hB4⟩ := HKK.out _ hb4
                have hs4 : wr.heap.size + 1 ≤ w4.heap.size := by have := hb4.size; simpa using this
                have rE := Row.new w4 146 [.int .i64 E.a, .int .i64 E.l, .int .i64 E.n, .int .i64 E.m, .int .i64 E.t]
                clear hb4 HKK HFk HF
                unfold entV
                go_wp2_with (at_builtin; refine wpList_append_ent rfl _ _ rfl w.heap.size _ _ rfl ho4 w4.heap.size 1 E rfl rE (by omega) (by simp; omega) ?_)
                intro v5 w5 ho5 hb5
                have HZ : Hid _ := And.intro ho5 (hB4.trans hb5)
                clear ho5 hb5 ho4 hB4 rE
                go_wp2_with fail
                go_roundw
                case rel => exact ⟨k + 1, hlt, by go_num, by rw [HNX.out]; exact HZ.out.1, HZ.out.2⟩
                case measure => simp [intOf]; omega
              · go_wp2_with fail
                refine (HFk.out _).mono ?_
                rintro e w4 ⟨rfl, hb4⟩
                obtain ⟨ho4, hB4⟩ := HKK.out _ hb4
                have hs4 : wr.heap.size + 1 ≤ w4.heap.size := by have := hb4.size; simpa using this
                have rE := Row.new w4 146 [.int .i64 E.a, .int .i64 E.l, .int .i64 E.n, .int .i64 E.m, .int .i64 E.t]
                clear hb4 HKK HFk HF
                unfold entV
                go_wp2_with (at_builtin; refine wpList_append_ent rfl _ _ rfl w.heap.size _ _ rfl ho4 w4.heap.size 1 E rfl rE (by omega) (by simp; omega) ?_)
                intro v5 w5 ho5 hb5
                have HZ : Hid _ := And.intro ho5 (hB4.trans hb5)
                clear ho5 hb5 ho4 hB4 rE
                go_wp2_with fail
                go_roundw
                case rel => exact ⟨k + 1, hlt, by go_num, by rw [HNX.out]; exact HZ.out.1, HZ.out.2⟩
                case measure => simp [intOf]; omega
            · rw [if_neg hA] at hnx
              have hnx3 : (rs.take (k + 1)).filterMap (offF i all) = (rs.take k).filterMap (offF i all) := by rw [hnx']; unfold offF; rw [if_neg (by simpa using hA)]; simp
              obtain ⟨rfl, rfl⟩ : all = false ∧ c = false := by cases all <;> cases c <;> simp_all
              have HZ : Hid _ := And.intro ho2 (And.intro hB2 hnx3)
              clear hA hnx hnx' ho ho2 hBr hB2 hnx3 hek HFk HF
              go_wp2_with fail
              go_roundw
              case rel => exact ⟨k + 1, hlt, by go_num, by rw [HZ.out.2.2]; exact HZ.out.1, HZ.out.2.1⟩
              case measure => simp [intOf]; omega
          · obtain rfl : k = rs.length := by omega
            have d1 : decide ((rs.length : Int) < (rs.length : Int)) = false := by simp
            rw [List.take_length] at ho
            clear hlt hk
            go_wp2
            go_ret
            exact ⟨⟨_, rfl, by rw [hR]; exact ho⟩, hBr⟩
      · rw [if_neg hu] at hR hcc
        subst hcc
        clear hu
        go_wp2
        go_ret
        exact ⟨⟨_, rfl, by rw [hR]; exact OwnE.nil _ _⟩, hB⟩
end Go.Proofs.YtialedffpaoacaaGreatDoor
/- Offer of the model. (Written by gen_offer.py.) -/
namespace Go.Proofs.YtialedffpaoacaaGreatDoor
open Go.RowKit Go.Sort

set_option maxRecDepth 100000 in
set_option maxHeartbeats 2000000 in
theorem l07Offer_any (x : Option Addr) (c1 : Nat) (y : Option Addr) (c2 : Nat) (is : List If) (rs : List Rt) (now : Int) (k : Nat) (all : Bool) (w : World) (h1 : IfsIn w x is) (h2 : RtsIn w y rs) (hk : k < is.length) (h8 : rs.length ≤ 8) :
    Calls Tryz.prog 44 #[instV x is.length c1 y rs.length c2 now, .int .i64 (k : Int), .bool all] w fun e w' => (∃ v, e = .returned v ∧ OwnE w' w.heap.size v (if is[k].u = true then rs.filterMap (offF (k : Int) all) else [])) ∧ Below w.heap.size w w' := by
  have HX : Hid (IfsIn w x is ∧ RtsIn w y rs) := ⟨h1, h2⟩
  have HK : Hid (∀ f, is[k] = f → is[k].u = f.u) := fun f e => by rw [e]
  have HKf : Hid (k < is.length) := hk
  generalize is[k].u = U at *
  generalize hRR : (if U = true then rs.filterMap (offF (k : Int) all) else []) = RES at *
  have HRES : Hid ((if U = true then rs.filterMap (offF (k : Int) all) else []) = RES) := hRR
  clear h1 h2 hRR
  unfold instV at *
  have hB0 := (ent_new0 w (.cells #[.slice x is.length c1, .slice y rs.length c2, .int .i64 now] 51)).alloc (by simp) (.cells #[] 146)
  have q0 := (Row.new w 51 [.slice x is.length c1, .slice y rs.length c2, .int .i64 now]).alloc (.cells #[] 146)
  have ho0 : OwnE ((w.alloc (.cells #[.slice x is.length c1, .slice y rs.length c2, .int .i64 now] 51)).alloc (.cells #[] 146)) (w.heap.size + 1) (.slice (some ⟨w.heap.size + 1, 0, none⟩) 0 0) [] := by
    have ho := World.ownsRow_lit (base := (w.alloc (.cells #[.slice x is.length c1, .slice y rs.length c2, .int .i64 now] 51)).heap.size) (e := 146) (size := 5) (w.alloc (.cells #[.slice x is.length c1, .slice y rs.length c2, .int .i64 now] 51)) #[] 0 (Nat.le_refl _) (Nat.zero_le _) (by simp)
    have hz : (w.alloc (.cells #[.slice x is.length c1, .slice y rs.length c2, .int .i64 now] 51)).heap.size = w.heap.size + 1 := by simp
    rw [hz] at ho
    simpa [OwnE, rowE] using ho
  have zk : (k : Int) < (is.length : Int) := by omega
  have HQ : Hid _ := And.intro q0 (And.intro ho0 hB0)
  clear q0 ho0 hB0
  go_enter Tryz.func44, Tryz.ntmps44
  go_wp2_with fail
  go_loopw [8, 7] (fun i' v wr => ∃ k' : Nat, k' ≤ rs.length ∧ i' = .int .i64 k' ∧ (k' = 0 ∨ U = true) ∧ Row wr w.heap.size 51 [.slice x is.length c1, .slice y rs.length c2, .int .i64 now] ∧ OwnE wr (w.heap.size + 1) v ((rs.take k').filterMap (offF (k : Int) all)) ∧ Below w.heap.size w wr) (fun i' _ _ => rs.length - (intOf i').toNat)
  case atStart => exact ⟨0, Nat.zero_le _, rfl, .inl rfl, HQ.out.1, HQ.out.2.1, HQ.out.2.2⟩
  case round =>
    obtain ⟨k', hk', rfl, hU, q0, ho, hB⟩ := hrel
    clear HQ
    have y0 : wr.cell? ⟨w.heap.size, 0, none⟩ = some (.slice x is.length c1) := q0.cell 0
    have y1 : wr.cell? ⟨w.heap.size, 1, none⟩ = some (.slice y rs.length c2) := q0.cell 1
    have HUU : Hid (k' = 0 ∨ U = true) := hU
    clear hU
    by_cases hlt : k' < rs.length
    · have d1 : decide ((k' : Int) < (rs.length : Int)) = true := by simpa using hlt
      obtain ⟨gi, fd, fa, fl, fc, fu, rfl, hgi, hfk, e0, e1, e2, e3, e4⟩ := (HX.out.1.below hB).at k HKf.out
      have hu := HK.out _ hfk
      simp only at hu
      clear hfk e0 e1 e2 e3
      cases fu
      · subst hu
        have h0 : k' = 0 := by rcases HUU.out with h | h; exact h; cases h
        subst h0
        have ho : OwnE wr w.heap.size _ [] := OwnE.mono (base := w.heap.size + 1) ho (by omega)
        have hr := HRES.out
        simp only [Bool.false_eq_true, if_false] at hr
        subst hr
        clear HRES
        clear hk' HUU
        go_wp2
        go_ret
        exact ⟨⟨_, rfl, by simpa using ho⟩, hB⟩
      · subst hu
        have hnx := off_next (offF (k : Int) all) rs k' hlt
        have hle := off_le (offF (k : Int) all) rs k'
        obtain ⟨gr, a, l, m, n, ii, t, u, b, c, rfl, hg, hek, c0, c1', c2', c3, c4, c5, c6, c7, c8⟩ := ((HX.out.2).below hB).at k' hlt
        rw [hek] at hnx
        have hBs := hB.size
        have q1 := q0
        obtain ⟨pv, cv, rfl, -⟩ := ho.form
        have hkeep : ∀ w4, Below wr.heap.size wr w4 → Row w4 w.heap.size 51 [.slice (some ⟨gi, 0, none⟩) is.length c1, .slice (some ⟨gr, 0, none⟩) rs.length c2, .int .i64 now] := fun w4 hb4 => q0.below hb4 q0.lt
        have HKP : Hid _ := hkeep
        clear q0 q1 hkeep hek HX HKf HK HRES
        cases all
        · cases c
          · have hnx3 : (rs.take (k' + 1)).filterMap (offF (k : Int) false) = (rs.take k').filterMap (offF (k : Int) false) := by rw [hnx]; unfold offF; simp
            have HZ : Hid _ := And.intro (ho.alloc (.cells #[.int .i64 a, .int .i64 l, .int .i64 m, .int .i64 n, .int .i64 ii, .int .i64 t, .int .i64 u, .int .i64 b, .bool false] 144)) (And.intro (hB.alloc hB.size (.cells #[.int .i64 a, .int .i64 l, .int .i64 m, .int .i64 n, .int .i64 ii, .int .i64 t, .int .i64 u, .int .i64 b, .bool false] 144)) hnx3)
            clear ho hB hnx hnx3
            go_wp2_with fail
            go_roundw
            case rel => exact ⟨k' + 1, hlt, by go_num, .inr trivial, HKP.out _ (ent_new0 _ _), by rw [HZ.out.2.2]; exact HZ.out.1, HZ.out.2.1⟩
            case measure => simp [intOf]; omega
          · have hcc : (false || true) = true := rfl
            by_cases hI : ii = (k : Int)
            · have zI : (ii == (k : Int)) = true := by simpa using hI
              have HNX : Hid ((rs.take (k' + 1)).filterMap (offF (k : Int) false) = (rs.take k').filterMap (offF (k : Int) false) ++ [⟨a, l, 0, 16, t⟩]) := by
                show _ = _
                rw [hnx]; unfold offF offE; simp [hI, hcc]
              clear hI hnx hcc
              have rE := Row.new ((wr.alloc (.cells #[.int .i64 a, .int .i64 l, .int .i64 m, .int .i64 n, .int .i64 ii, .int .i64 t, .int .i64 u, .int .i64 b, .bool true] 144)).alloc (.cells #[.int .i64 a, .int .i64 l, .int .i64 0, .int .i64 16, .int .i64 t] 146)) 146 [.int .i64 a, .int .i64 l, .int .i64 0, .int .i64 16, .int .i64 t]
              have hs2 : ((wr.alloc (.cells #[.int .i64 a, .int .i64 l, .int .i64 m, .int .i64 n, .int .i64 ii, .int .i64 t, .int .i64 u, .int .i64 b, .bool true] 144)).alloc (.cells #[.int .i64 a, .int .i64 l, .int .i64 0, .int .i64 16, .int .i64 t] 146)).heap.size = wr.heap.size + 1 + 1 := by simp
              rw [hs2] at rE
              have ho4 := ((ho.alloc (.cells #[.int .i64 a, .int .i64 l, .int .i64 m, .int .i64 n, .int .i64 ii, .int .i64 t, .int .i64 u, .int .i64 b, .bool true] 144)).alloc (.cells #[.int .i64 a, .int .i64 l, .int .i64 0, .int .i64 16, .int .i64 t] 146)).alloc (.cells #[.int .i64 a, .int .i64 l, .int .i64 0, .int .i64 16, .int .i64 t] 146)
              have hBx := ((ent_new0 wr (.cells #[.int .i64 a, .int .i64 l, .int .i64 m, .int .i64 n, .int .i64 ii, .int .i64 t, .int .i64 u, .int .i64 b, .bool true] 144)).alloc (by simp) (.cells #[.int .i64 a, .int .i64 l, .int .i64 0, .int .i64 16, .int .i64 t] 146)).alloc (by simp; omega) (.cells #[.int .i64 a, .int .i64 l, .int .i64 0, .int .i64 16, .int .i64 t] 146)
              have hB4 := ((hB.alloc hB.size (.cells #[.int .i64 a, .int .i64 l, .int .i64 m, .int .i64 n, .int .i64 ii, .int .i64 t, .int .i64 u, .int .i64 b, .bool true] 144)).alloc (by simp; omega) (.cells #[.int .i64 a, .int .i64 l, .int .i64 0, .int .i64 16, .int .i64 t] 146)).alloc (by simp; omega) (.cells #[.int .i64 a, .int .i64 l, .int .i64 0, .int .i64 16, .int .i64 t] 146)
              have q4 := HKP.out _ hBx
              clear ho hB hBx
              go_wp2_with (at_builtin; refine wpList_append_ent rfl _ _ rfl (w.heap.size + 1) _ _ rfl ho4 (wr.heap.size + 1 + 1) 1 ⟨a, l, 0, 16, t⟩ rfl rE (by omega) (by simp; omega) ?_)
              intro v5 w5 ho5 hb5
              have HZ : Hid _ := And.intro ho5 (And.intro (hB4.trans (hb5.mono (by omega))) ((q4.below hb5 (Nat.lt_succ_self _))))
              clear ho5 hb5 ho4 hB4 rE hs2 q4
              go_wp2_with fail
              go_roundw
              case rel => exact ⟨k' + 1, hlt, by go_num, .inr trivial, HZ.out.2.2, by rw [HNX.out]; exact HZ.out.1, HZ.out.2.1⟩
              case measure => simp [intOf]; omega
            · have zI : (ii == (k : Int)) = false := by simpa using hI
              have HNX : Hid ((rs.take (k' + 1)).filterMap (offF (k : Int) false) = (rs.take k').filterMap (offF (k : Int) false) ++ [⟨a, l, 0, m, t⟩]) := by
                show _ = _
                rw [hnx]; unfold offF offE; simp [hI, hcc]
              clear hI hnx hcc
              have rE := Row.new ((wr.alloc (.cells #[.int .i64 a, .int .i64 l, .int .i64 m, .int .i64 n, .int .i64 ii, .int .i64 t, .int .i64 u, .int .i64 b, .bool true] 144)).alloc (.cells #[.int .i64 a, .int .i64 l, .int .i64 0, .int .i64 m, .int .i64 t] 146)) 146 [.int .i64 a, .int .i64 l, .int .i64 0, .int .i64 m, .int .i64 t]
              have hs2 : ((wr.alloc (.cells #[.int .i64 a, .int .i64 l, .int .i64 m, .int .i64 n, .int .i64 ii, .int .i64 t, .int .i64 u, .int .i64 b, .bool true] 144)).alloc (.cells #[.int .i64 a, .int .i64 l, .int .i64 0, .int .i64 m, .int .i64 t] 146)).heap.size = wr.heap.size + 1 + 1 := by simp
              rw [hs2] at rE
              have ho4 := ((ho.alloc (.cells #[.int .i64 a, .int .i64 l, .int .i64 m, .int .i64 n, .int .i64 ii, .int .i64 t, .int .i64 u, .int .i64 b, .bool true] 144)).alloc (.cells #[.int .i64 a, .int .i64 l, .int .i64 0, .int .i64 m, .int .i64 t] 146)).alloc (.cells #[.int .i64 a, .int .i64 l, .int .i64 0, .int .i64 m, .int .i64 t] 146)
              have hBx := ((ent_new0 wr (.cells #[.int .i64 a, .int .i64 l, .int .i64 m, .int .i64 n, .int .i64 ii, .int .i64 t, .int .i64 u, .int .i64 b, .bool true] 144)).alloc (by simp) (.cells #[.int .i64 a, .int .i64 l, .int .i64 0, .int .i64 m, .int .i64 t] 146)).alloc (by simp; omega) (.cells #[.int .i64 a, .int .i64 l, .int .i64 0, .int .i64 m, .int .i64 t] 146)
              have hB4 := ((hB.alloc hB.size (.cells #[.int .i64 a, .int .i64 l, .int .i64 m, .int .i64 n, .int .i64 ii, .int .i64 t, .int .i64 u, .int .i64 b, .bool true] 144)).alloc (by simp; omega) (.cells #[.int .i64 a, .int .i64 l, .int .i64 0, .int .i64 m, .int .i64 t] 146)).alloc (by simp; omega) (.cells #[.int .i64 a, .int .i64 l, .int .i64 0, .int .i64 m, .int .i64 t] 146)
              have q4 := HKP.out _ hBx
              clear ho hB hBx
              go_wp2_with (at_builtin; refine wpList_append_ent rfl _ _ rfl (w.heap.size + 1) _ _ rfl ho4 (wr.heap.size + 1 + 1) 1 ⟨a, l, 0, m, t⟩ rfl rE (by omega) (by simp; omega) ?_)
              intro v5 w5 ho5 hb5
              have HZ : Hid _ := And.intro ho5 (And.intro (hB4.trans (hb5.mono (by omega))) ((q4.below hb5 (Nat.lt_succ_self _))))
              clear ho5 hb5 ho4 hB4 rE hs2 q4
              go_wp2_with fail
              go_roundw
              case rel => exact ⟨k' + 1, hlt, by go_num, .inr trivial, HZ.out.2.2, by rw [HNX.out]; exact HZ.out.1, HZ.out.2.1⟩
              case measure => simp [intOf]; omega
        · have hcc : (true || c) = true := rfl
          by_cases hI : ii = (k : Int)
          · have zI : (ii == (k : Int)) = true := by simpa using hI
            have HNX : Hid ((rs.take (k' + 1)).filterMap (offF (k : Int) true) = (rs.take k').filterMap (offF (k : Int) true) ++ [⟨a, l, 0, 16, t⟩]) := by
              show _ = _
              rw [hnx]; unfold offF offE; simp [hI, hcc]
            clear hI hnx hcc
            have rE := Row.new ((wr.alloc (.cells #[.int .i64 a, .int .i64 l, .int .i64 m, .int .i64 n, .int .i64 ii, .int .i64 t, .int .i64 u, .int .i64 b, .bool c] 144)).alloc (.cells #[.int .i64 a, .int .i64 l, .int .i64 0, .int .i64 16, .int .i64 t] 146)) 146 [.int .i64 a, .int .i64 l, .int .i64 0, .int .i64 16, .int .i64 t]
            have hs2 : ((wr.alloc (.cells #[.int .i64 a, .int .i64 l, .int .i64 m, .int .i64 n, .int .i64 ii, .int .i64 t, .int .i64 u, .int .i64 b, .bool c] 144)).alloc (.cells #[.int .i64 a, .int .i64 l, .int .i64 0, .int .i64 16, .int .i64 t] 146)).heap.size = wr.heap.size + 1 + 1 := by simp
            rw [hs2] at rE
            have ho4 := ((ho.alloc (.cells #[.int .i64 a, .int .i64 l, .int .i64 m, .int .i64 n, .int .i64 ii, .int .i64 t, .int .i64 u, .int .i64 b, .bool c] 144)).alloc (.cells #[.int .i64 a, .int .i64 l, .int .i64 0, .int .i64 16, .int .i64 t] 146)).alloc (.cells #[.int .i64 a, .int .i64 l, .int .i64 0, .int .i64 16, .int .i64 t] 146)
            have hBx := ((ent_new0 wr (.cells #[.int .i64 a, .int .i64 l, .int .i64 m, .int .i64 n, .int .i64 ii, .int .i64 t, .int .i64 u, .int .i64 b, .bool c] 144)).alloc (by simp) (.cells #[.int .i64 a, .int .i64 l, .int .i64 0, .int .i64 16, .int .i64 t] 146)).alloc (by simp; omega) (.cells #[.int .i64 a, .int .i64 l, .int .i64 0, .int .i64 16, .int .i64 t] 146)
            have hB4 := ((hB.alloc hB.size (.cells #[.int .i64 a, .int .i64 l, .int .i64 m, .int .i64 n, .int .i64 ii, .int .i64 t, .int .i64 u, .int .i64 b, .bool c] 144)).alloc (by simp; omega) (.cells #[.int .i64 a, .int .i64 l, .int .i64 0, .int .i64 16, .int .i64 t] 146)).alloc (by simp; omega) (.cells #[.int .i64 a, .int .i64 l, .int .i64 0, .int .i64 16, .int .i64 t] 146)
            have q4 := HKP.out _ hBx
            clear ho hB hBx
            go_wp2_with (at_builtin; refine wpList_append_ent rfl _ _ rfl (w.heap.size + 1) _ _ rfl ho4 (wr.heap.size + 1 + 1) 1 ⟨a, l, 0, 16, t⟩ rfl rE (by omega) (by simp; omega) ?_)
            intro v5 w5 ho5 hb5
            have HZ : Hid _ := And.intro ho5 (And.intro (hB4.trans (hb5.mono (by omega))) ((q4.below hb5 (Nat.lt_succ_self _))))
            clear ho5 hb5 ho4 hB4 rE hs2 q4
            go_wp2_with fail
            go_roundw
            case rel => exact ⟨k' + 1, hlt, by go_num, .inr trivial, HZ.out.2.2, by rw [HNX.out]; exact HZ.out.1, HZ.out.2.1⟩
            case measure => simp [intOf]; omega
          · have zI : (ii == (k : Int)) = false := by simpa using hI
            have HNX : Hid ((rs.take (k' + 1)).filterMap (offF (k : Int) true) = (rs.take k').filterMap (offF (k : Int) true) ++ [⟨a, l, 0, m, t⟩]) := by
              show _ = _
              rw [hnx]; unfold offF offE; simp [hI, hcc]
            clear hI hnx hcc
            have rE := Row.new ((wr.alloc (.cells #[.int .i64 a, .int .i64 l, .int .i64 m, .int .i64 n, .int .i64 ii, .int .i64 t, .int .i64 u, .int .i64 b, .bool c] 144)).alloc (.cells #[.int .i64 a, .int .i64 l, .int .i64 0, .int .i64 m, .int .i64 t] 146)) 146 [.int .i64 a, .int .i64 l, .int .i64 0, .int .i64 m, .int .i64 t]
            have hs2 : ((wr.alloc (.cells #[.int .i64 a, .int .i64 l, .int .i64 m, .int .i64 n, .int .i64 ii, .int .i64 t, .int .i64 u, .int .i64 b, .bool c] 144)).alloc (.cells #[.int .i64 a, .int .i64 l, .int .i64 0, .int .i64 m, .int .i64 t] 146)).heap.size = wr.heap.size + 1 + 1 := by simp
            rw [hs2] at rE
            have ho4 := ((ho.alloc (.cells #[.int .i64 a, .int .i64 l, .int .i64 m, .int .i64 n, .int .i64 ii, .int .i64 t, .int .i64 u, .int .i64 b, .bool c] 144)).alloc (.cells #[.int .i64 a, .int .i64 l, .int .i64 0, .int .i64 m, .int .i64 t] 146)).alloc (.cells #[.int .i64 a, .int .i64 l, .int .i64 0, .int .i64 m, .int .i64 t] 146)
            have hBx := ((ent_new0 wr (.cells #[.int .i64 a, .int .i64 l, .int .i64 m, .int .i64 n, .int .i64 ii, .int .i64 t, .int .i64 u, .int .i64 b, .bool c] 144)).alloc (by simp) (.cells #[.int .i64 a, .int .i64 l, .int .i64 0, .int .i64 m, .int .i64 t] 146)).alloc (by simp; omega) (.cells #[.int .i64 a, .int .i64 l, .int .i64 0, .int .i64 m, .int .i64 t] 146)
            have hB4 := ((hB.alloc hB.size (.cells #[.int .i64 a, .int .i64 l, .int .i64 m, .int .i64 n, .int .i64 ii, .int .i64 t, .int .i64 u, .int .i64 b, .bool c] 144)).alloc (by simp; omega) (.cells #[.int .i64 a, .int .i64 l, .int .i64 0, .int .i64 m, .int .i64 t] 146)).alloc (by simp; omega) (.cells #[.int .i64 a, .int .i64 l, .int .i64 0, .int .i64 m, .int .i64 t] 146)
            have q4 := HKP.out _ hBx
            clear ho hB hBx
            go_wp2_with (at_builtin; refine wpList_append_ent rfl _ _ rfl (w.heap.size + 1) _ _ rfl ho4 (wr.heap.size + 1 + 1) 1 ⟨a, l, 0, m, t⟩ rfl rE (by omega) (by simp; omega) ?_)
            intro v5 w5 ho5 hb5
            have HZ : Hid _ := And.intro ho5 (And.intro (hB4.trans (hb5.mono (by omega))) ((q4.below hb5 (Nat.lt_succ_self _))))
            clear ho5 hb5 ho4 hB4 rE hs2 q4
            go_wp2_with fail
            go_roundw
            case rel => exact ⟨k' + 1, hlt, by go_num, .inr trivial, HZ.out.2.2, by rw [HNX.out]; exact HZ.out.1, HZ.out.2.1⟩
            case measure => simp [intOf]; omega
    · obtain rfl : k' = rs.length := by omega
      have d1 : decide ((rs.length : Int) < (rs.length : Int)) = false := by simp
      have hE : (rs.take rs.length).filterMap (offF (k : Int) all) = (if U = true then rs.filterMap (offF (k : Int) all) else []) := by
        rw [List.take_length]
        rcases HUU.out with h | h
        · have : rs = [] := List.length_eq_zero_iff.1 h
          subst this
          cases U <;> rfl
        · rw [h]
          rfl
      rw [hE, HRES.out] at ho
      have ho := OwnE.mono (base' := w.heap.size) ho (by omega)
      clear hE HRES
      clear hlt hk' HUU
      go_wp2
      go_ret
      exact ⟨⟨_, rfl, ho⟩, hB⟩
end Go.Proofs.YtialedffpaoacaaGreatDoor
