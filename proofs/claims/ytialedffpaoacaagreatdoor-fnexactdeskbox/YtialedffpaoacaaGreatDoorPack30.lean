/- Texts that stand on each other, in one file: MarkSn, MarkTnM, MarkTen, MarkBx, LawX. -/
import Derived.Test.YtialedffpaoacaaGreatDoorPack22
import Derived.Test.YtialedffpaoacaaGreatDoorPack17
import Derived.Test.YtialedffpaoacaaGreatDoorPack11
import Derived.Lib.QuietBelow
import Derived.BigQuiet
import Derived.BigGuardPart
import Derived.Test.YtialedffpaoacaaGreatDoorPack23
/- The laws' own marks in lists of Sents: written, and looked for. (Written by gen_markflat.py.) -/
namespace Go.Proofs.YtialedffpaoacaaGreatDoor
open Go.RowKit Go.Sort

def mkSn (K i : Nat) : Sn := ⟨(K : Int) + 2 * (i : Int), mTxt (K + 2 * i + 1)⟩
def mksSn (K n : Nat) : List Sn := (List.range n).map (mkSn K)
theorem mksSn_length (K n : Nat) : (mksSn K n).length = n := by simp [mksSn]
theorem mksSn_set (K : Nat) (es : List Sn) (rest : List Value) (k : Nat) (hk : k < es.length) :
    (((rowSn (mksSn K k ++ es.drop k) ++ rest).set (k * 2) (.int .i64 ((K : Int) + 2 * (k : Int)))).set (k * 2 + 1) (.string (mTxt (K + 2 * k + 1)))) = rowSn (mksSn K (k + 1) ++ es.drop (k + 1)) ++ rest := by
  have e : es.drop k = es[k] :: es.drop (k + 1) := List.drop_eq_getElem_cons hk
  have e2 : mksSn K (k + 1) = mksSn K k ++ [mkSn K k] := by simp [mksSn, List.range_succ]
  rw [e, e2, rowSn_append, rowSn_cons, List.append_assoc, List.append_assoc, List.append_assoc, rowSn_append, List.singleton_append, rowSn_cons, List.append_assoc]
  exact setSn _ _ k (by rw [rowSn_length, mksSn_length]; omega) _ _ _ _
set_option maxRecDepth 100000 in
set_option maxHeartbeats 4000000 in
theorem markSentS_ix (K g n cv : Nat) (es : List Sn) (rest : List Value) (w : World) (hn : n = es.length) (hK : K ≤ 100000000) (h8 : n ≤ 100000000) (hr : Row w g 142 (rowSn es ++ rest)) :
    Calls Tryz.prog 70 #[.slice (some ⟨g, 0, none⟩) n cv, .int .i64 K] w fun e w' => e = .returned (.int .i64 ((K : Int) + 2 * (n : Int))) ∧ Row w' g 142 (rowSn (mksSn K n) ++ rest) ∧ Below g w w' ∧ ∀ b t l, b ≠ g → Row w b t l → Row w' b t l := by
  have HN : Hid (n = es.length) := hn
  have hr0 : Row w g 142 (rowSn (mksSn K 0 ++ es.drop 0) ++ rest) := hr
  clear hn hr
  go_enter Tryz.func70, Tryz.ntmps70
  go_wp2_with fail
  go_loopw [5, 1] (fun i m wr => ∃ k : Nat, k ≤ n ∧ i = .int .i64 k ∧ m = .int .i64 ((K : Int) + 2 * (k : Int)) ∧ Row wr g 142 (rowSn (mksSn K k ++ es.drop k) ++ rest) ∧ Below g w wr ∧ ∀ b t l, b ≠ g → Row w b t l → Row wr b t l) (fun i _ _ => n - (intOf i).toNat)
  case atStart => exact ⟨0, Nat.zero_le _, rfl, by go_num, hr0, Below.refl _ _, fun _ _ _ _ h => h⟩
  case round =>
    obtain ⟨k, hk, rfl, rfl, hr, hb, hoth⟩ := hrel
    have HOT : Hid (∀ b t l, b ≠ g → Row w b t l → Row wr b t l) := hoth
    clear hr0 hoth
    by_cases hlt : k < n
    · have hlen : (mksSn K k ++ es.drop k).length = n := by rw [List.length_append, mksSn_length, List.length_drop, ← HN.out]; omega
      have hlr : k * 2 + 1 < (rowSn (mksSn K k ++ es.drop k) ++ rest).length := by rw [List.length_append, rowSn_length, hlen]; omega
      obtain ⟨z0, c0⟩ := Row.someSn hr (k * 2) (by omega)
      have f0 := hr.frozen (k * 2)
      have hg := hr.lt
      have HP : Hid (Row (wr.setCell ⟨g, k * 2, none⟩ (.int .i64 ((K : Int) + 2 * (k : Int)))) g 142 ((rowSn (mksSn K k ++ es.drop k) ++ rest).set (k * 2) (.int .i64 ((K : Int) + 2 * (k : Int)))) ∧ Below g w (wr.setCell ⟨g, k * 2, none⟩ (.int .i64 ((K : Int) + 2 * (k : Int)))) ∧ ∀ b t l, b ≠ g → Row w b t l → Row (wr.setCell ⟨g, k * 2, none⟩ (.int .i64 ((K : Int) + 2 * (k : Int)))) b t l) := ⟨hr.set (k * 2) (.int .i64 ((K : Int) + 2 * (k : Int))), hb.setCell (p := ⟨g, k * 2, none⟩) (Nat.le_refl _) (.int .i64 ((K : Int) + 2 * (k : Int))), fun b t l hne h => (HOT.out b t l hne h).other (k * 2) (.int .i64 ((K : Int) + 2 * (k : Int))) hne⟩
      have HTX : Hid (∀ W, Calls Tryz.prog 69 #[.int .i64 ((K : Int) + 2 * (k : Int) + 1)] W fun e w' => e = .returned (.string (mTxt (K + 2 * k + 1))) ∧ Below W.heap.size W w') := fun W => by
        have := markText_pos (K + 2 * k + 1) W (by omega) (by omega)
        rw [show ((K + 2 * k + 1 : Nat) : Int) = (K : Int) + 2 * (k : Int) + 1 by omega] at this
        exact this
      clear hr hb HOT
      go_wp2_with fail
      clear c0 f0
      generalize (wr.setCell ⟨g, k * 2, none⟩ (.int .i64 ((K : Int) + 2 * (k : Int)))) = W1 at *
      refine (HTX.out _).mono ?_
      rintro e w2 ⟨rfl, hbt⟩
      have hr1 := HP.out.1.below hbt HP.out.1.lt
      have hb1 := HP.out.2.1.trans (hbt.mono (by have := HP.out.1.lt; omega))
      obtain ⟨z1, c1⟩ := Row.someSn hr1 (k * 2 + 1) (by rw [List.length_set]; omega)
      have f1 := hr1.frozen (k * 2 + 1)
      have hr2 := hr1.set (k * 2 + 1) (.string (mTxt (K + 2 * k + 1)))
      rw [mksSn_set K es rest k (by rw [← HN.out]; exact hlt)] at hr2
      have HH : Hid _ := And.intro hr2 (And.intro (hb1.setCell (p := ⟨g, k * 2 + 1, none⟩) (Nat.le_refl _) (.string (mTxt (K + 2 * k + 1)))) (fun b t l (hne : b ≠ g) (h : Row w b t l) => ((HP.out.2.2 b t l hne h).below hbt (HP.out.2.2 b t l hne h).lt).other (k * 2 + 1) (.string (mTxt (K + 2 * k + 1))) hne))
      clear hr1 hb1 hr2 hbt HP HTX hlen hlr hg
      go_wp2_with fail
      rw [show (K : Int) + 2 * (k : Int) + 1 + 1 = (K : Int) + 2 * ((k + 1 : Nat) : Int) by omega]
      refine ⟨⟨k + 1, hlt, by go_num, rfl, HH.out.1, HH.out.2.1, HH.out.2.2⟩, ?_⟩
      simp [intOf]
      omega
    · obtain rfl : k = n := by omega
      have hre : mksSn K k ++ es.drop k = mksSn K k := by rw [HN.out, List.drop_length, List.append_nil]
      rw [hre] at hr
      clear hlt hk hre
      go_wp2
      go_ret
      exact ⟨rfl, hr, hb, HOT.out⟩
set_option maxRecDepth 100000 in
set_option maxHeartbeats 4000000 in
theorem markSentS_0 (K : Nat) (p : Option Addr) (cv : Nat) (w : World) : Calls Tryz.prog 70 #[.slice p 0 cv, .int .i64 K] w fun e w' => e = .returned (.int .i64 K) ∧ w = w' := by
  go_enter Tryz.func70, Tryz.ntmps70
  go_wp2_with fail
  go_loop [5, 1] (fun i k => i = .int .i64 0 ∧ k = .int .i64 K) (fun _ _ => 0)
  case atStart => exact ⟨rfl, rfl⟩
  case round =>
    obtain ⟨rfl, rfl⟩ := hrel
    go_wp2
    go_ret
    exact ⟨rfl, rfl⟩
theorem markSentS_own (K : Nat) (p : Option Addr) (n cv base : Nat) (es : List Sn) (w : World) (hn : n = es.length) (hK : K ≤ 100000000) (h8 : n ≤ 100000000) (h : w.ownsRow base 142 2 (.slice p n cv) n (rowSn es)) :
    Calls Tryz.prog 70 #[.slice p n cv, .int .i64 K] w fun e w' => e = .returned (.int .i64 ((K : Int) + 2 * (n : Int))) ∧ w'.ownsRow base 142 2 (.slice p n cv) n (rowSn (mksSn K n)) ∧ Below base w w' ∧ ∀ b t l, p ≠ some ⟨b, 0, none⟩ → Row w b t l → Row w' b t l := by
  rcases owns_opened h with h0 | ⟨g, rest, rfl, hb, h1, h2, hr, hl⟩
  · have hq : es = [] := List.length_eq_zero_iff.1 (by omega)
    subst hq
    subst h0
    exact (markSentS_0 K p cv w).mono fun e w' ⟨he, hw⟩ => ⟨by rw [he]; simp, hw ▸ h, hw ▸ Below.refl _ _, fun _ _ _ _ h => hw ▸ h⟩
  · refine (markSentS_ix K g n cv es rest w hn hK h8 hr).mono fun e w' ⟨he, hr', hb', ho'⟩ => ⟨he, owns_shut (by rw [rowSn_length, mksSn_length]; omega) hb h1 h2 hr' ?_, hb'.mono hb, fun b t l hp h => ho' b t l (fun e => hp (by rw [e])) h⟩
    rw [List.length_append, rowSn_length, mksSn_length]
    rw [List.length_append, rowSn_length, ← hn] at hl
    exact hl
set_option maxRecDepth 100000 in
set_option maxHeartbeats 4000000 in
theorem heldSentS_ix (K : Nat) (p : Option Addr) (n cv : Nat) (w : World) (hK : K ≤ 100000000) (h8 : n ≤ 100000000) (hE : SnsIn w p (mksSn K n)) :
    Calls Tryz.prog 74 #[.slice p n cv, .int .i64 K] w fun e w' => e = .returned (.int .i64 ((K : Int) + 2 * (n : Int))) ∧ Below w.heap.size w w' := by
  have HX : Hid (SnsIn w p (mksSn K n)) := hE
  clear hE
  go_enter Tryz.func74, Tryz.ntmps74
  go_wp2_with fail
  go_loopw [5, 1] (fun i m wr => ∃ k : Nat, k ≤ n ∧ i = .int .i64 k ∧ m = .int .i64 ((K : Int) + 2 * (k : Int)) ∧ Below w.heap.size w wr) (fun i _ _ => n - (intOf i).toNat)
  case atStart => exact ⟨0, Nat.zero_le _, rfl, by go_num, Below.refl _ _⟩
  case round =>
    obtain ⟨k, hk, rfl, rfl, hB⟩ := hrel
    by_cases hlt : k < n
    · have dk : decide ((k : Int) < (n : Int)) = true := by simpa using hlt
      obtain ⟨g, m0, m1, rfl, hg, hek, c0, c1⟩ := (HX.out.below hB).at k (by rw [mksSn_length]; exact hlt)
      have hm : (mksSn K n)[k]'(by rw [mksSn_length]; exact hlt) = mkSn K k := by simp [mksSn]
      rw [hm] at hek
      simp only [mkSn, Sn.mk.injEq] at hek
      obtain ⟨rfl, rfl⟩ := hek
      have d0 : ((K : Int) + 2 * (k : Int) != (K : Int) + 2 * (k : Int)) = false := by simp
      have HTX : Hid (∀ d os, Calls Tryz.prog 69 #[.int .i64 ((K : Int) + 2 * (k : Int) + 1)] (grow (redrawn wr d) os) fun e w'' => e = .returned (.string (mTxt (K + 2 * k + 1))) ∧ ∃ p : Regrown, w'' = grow (redrawn wr p.d) p.os) := fun d os => Calls.regrown_of (by
        have := markText_pos (K + 2 * k + 1) (grow (redrawn wr d) os) (by omega) (by omega)
        rw [show ((K + 2 * k + 1 : Nat) : Int) = (K : Int) + 2 * (k : Int) + 1 by omega] at this
        exact this)
      have HB : Hid _ := hB
      generalize mTxt (K + 2 * k + 1) = MT at *
      have dT : (MT.toList != MT.toList) = false := by simp
      have dT2 : (MT.toList == MT.toList) = true := by simp
      clear hm HX hB
      go_wp2_with fail
      replace c1 := cell_regrown c1
      refine wp_region_quiet_below (by kernel_rfl) (by kernel_rfl) ?_
      repeat (go_big_quiet_step (first | (go_at_call 69; exact HTX.out _ _)))
      refine wpQuiet_nil ?_
      intro w3 hw'
      obtain ⟨⟨dq, osq⟩, hw''⟩ := hw'
      have hbq := below_regrown wr dq osq
      rw [← hw''] at hbq
      have hB := HB.out.trans (hbq.mono HB.out.size)
      clear hbq hw'' HB HTX c0 c1 hg
      go_wp2_with fail
      go_roundw
      case rel => exact ⟨k + 1, hlt, by go_num, by rw [show (K : Int) + 2 * (k : Int) + 1 + 1 = (K : Int) + 2 * ((k + 1 : Nat) : Int) by omega], hB⟩
      case measure => simp [intOf]; omega
    · obtain rfl : k = n := by omega
      have dk : decide ((k : Int) < (k : Int)) = false := by simp
      clear hlt hk HX
      go_wp2
      go_ret
      exact ⟨rfl, hB⟩
end Go.Proofs.YtialedffpaoacaaGreatDoor
/- Marks in Tenants, in plain lists. (By hand.) -/
namespace Go.Proofs.YtialedffpaoacaaGreatDoor
open Go.RowKit Go.Sort

def szTn (t : Tn) : Nat := 5 * t.is.length + 9 * t.rs.length + 2 * t.ss.length + 2 * t.es.length + 4
/-- The number with which the j-th Tenant begins. -/
def kN (K : Nat) (ts : List Tn) : Nat → Nat
  | 0 => K
  | j + 1 => kN K ts j + szTn ts[j]!
theorem kN_mono (K : Nat) (ts : List Tn) {i j : Nat} (h : i ≤ j) : kN K ts i ≤ kN K ts j := by
  induction j with
  | zero => obtain rfl : i = 0 := by omega
            exact Nat.le_refl _
  | succ j ih =>
    rcases Nat.lt_or_ge i (j + 1) with h1 | h1
    · exact Nat.le_trans (ih (by omega)) (Nat.le_add_right _ _)
    · obtain rfl : i = j + 1 := by omega
      exact Nat.le_refl _
/-- The numbers within one. -/
def kq2 (K : Nat) (t : Tn) : Nat := K + 5 * t.is.length + 9 * t.rs.length
def kq6 (K : Nat) (t : Tn) : Nat := kq2 K t + 3 + 2 * t.ss.length
def kq7 (K : Nat) (t : Tn) : Nat := kq6 K t + 2 * t.es.length
def mrkT (K : Nat) (t : Tn) : Tn := ⟨marksI K t.is.length, marksR (K + 5 * t.is.length) t.rs.length, ((kq2 K t : Nat) : Int), mTxt (kq2 K t + 1), ((kq2 K t + 2 : Nat) : Int), mksSn (kq2 K t + 3) t.ss.length, mksSe (kq6 K t) t.es.length, ((kq7 K t : Nat) : Int)⟩
theorem kq7_sz (K : Nat) (t : Tn) : kq7 K t + 1 = K + szTn t := by unfold kq7 kq6 kq2 szTn; omega
/-- The first k are marked. -/
def MixT (K : Nat) (qs : List TnP) (k : Nat) (qs' : List TnP) : Prop := qs'.length = qs.length ∧ ∀ j (hj : j < qs.length) (hj' : j < qs'.length), qs'[j] = (qs[j].1, if j < k then mrkT (kN K (qs.map (·.2)) j) qs[j].2 else qs[j].2)
theorem MixT.zero (K : Nat) (qs : List TnP) : MixT K qs 0 qs := ⟨rfl, fun j hj hj' => by rw [if_neg (Nat.not_lt_zero j)]⟩
theorem MixT.step {K : Nat} {qs qs' : List TnP} {k : Nat} (h : MixT K qs k qs') (hk : k < qs.length) {a : Tp} {t : Tn} (hq : qs[k] = (a, t)) : MixT K qs (k + 1) (qs'.set k (a, mrkT (kN K (qs.map (·.2)) k) t)) := by
  refine ⟨by rw [List.length_set]; exact h.1, fun j hj hj' => ?_⟩
  rw [List.getElem_set]
  by_cases e : k = j
  · subst e
    rw [if_pos rfl, if_pos (Nat.lt_succ_self k), hq]
  · rw [if_neg e, h.2 j hj (by rw [h.1]; exact hj)]
    by_cases hlt : j < k
    · rw [if_pos hlt, if_pos (by omega)]
    · rw [if_neg hlt, if_neg (by omega)]
theorem map_atT {qs : List TnP} {j : Nat} (hj : j < qs.length) : (qs.map (·.2))[j]! = qs[j].2 := by rw [getElem!_pos _ j (by simpa using hj), List.getElem_map]
theorem kN_step {K : Nat} {qs : List TnP} {k : Nat} (hk : k < qs.length) {a : Tp} {t : Tn} (hq : qs[k] = (a, t)) : kN K (qs.map (·.2)) (k + 1) = kN K (qs.map (·.2)) k + szTn t := by
  show _ + szTn (qs.map (·.2))[k]! = _
  rw [map_atT hk, hq]
theorem MixT.fst {K : Nat} {qs qs' : List TnP} {k : Nat} (h : MixT K qs k qs') {j : Nat} (hj' : j < qs'.length) : qs'[j].1 = (qs[j]'(by rw [← h.1]; exact hj')).1 := by rw [h.2 j (by rw [← h.1]; exact hj') hj']
end Go.Proofs.YtialedffpaoacaaGreatDoor
/- The laws' own marks in lists of Tenants: written, and looked for. (Written by gen_markten.py.) -/
namespace Go.Proofs.YtialedffpaoacaaGreatDoor
open Go.RowKit Go.Sort

set_option maxRecDepth 100000 in
set_option maxHeartbeats 4000000 in
theorem markTenantS_in (K g cv base : Nat) (qs : List TnP) (w : World) (h8 : qs.length ≤ 100000000) (hK : kN K (qs.map (·.2)) qs.length ≤ 100000000) (hbs : base ≤ w.heap.size) (h : OwnTs w base (some ⟨g, 0, none⟩) qs.length cv qs) :
    Calls Tryz.prog 33 #[.slice (some ⟨g, 0, none⟩) qs.length cv, .int .i64 K] w fun e w' => e = .returned (.int .i64 ((kN K (qs.map (·.2)) qs.length : Nat) : Int)) ∧ (∃ qs', MixT K qs qs.length qs' ∧ OwnTs w' base (some ⟨g, 0, none⟩) qs.length cv qs') ∧ Below base w w' ∧ ∀ b t l, b ≠ g → (∀ j (hj : j < qs.length), ¬ qs[j].1.has b) → Row w b t l → Row w' b t l := by
  have HK : Hid (kN K (qs.map (·.2)) qs.length ≤ 100000000) := hK
  have HBS : Hid (base ≤ w.heap.size) := hbs
  have HS0 : Hid (OwnTs w base (some ⟨g, 0, none⟩) qs.length cv qs) := h
  clear h hK hbs
  go_enter Tryz.func33, Tryz.ntmps33
  go_wp2_with fail
  go_loopw [5, 1] (fun i m wr => ∃ (k : Nat) (qs' : List TnP), k ≤ qs.length ∧ i = .int .i64 k ∧ m = .int .i64 ((kN K (qs.map (·.2)) k : Nat) : Int) ∧ MixT K qs k qs' ∧ OwnTs wr base (some ⟨g, 0, none⟩) qs.length cv qs' ∧ Below base w wr ∧ ∀ b t l, b ≠ g → (∀ j (hj : j < qs.length), ¬ qs[j].1.has b) → Row w b t l → Row wr b t l) (fun i _ _ => qs.length - (intOf i).toNat)
  case atStart => exact ⟨0, qs, Nat.zero_le _, rfl, rfl, MixT.zero K qs, HS0.out, Below.refl _ _, fun _ _ _ _ _ h => h⟩
  case round =>
    clear HS0
    obtain ⟨k, qs', hk, rfl, rfl, hx, hO, hB, hoth⟩ := hrel
    by_cases hlt : k < qs.length
    · have dk : decide ((k : Int) < (qs.length : Int)) = true := by simpa using hlt
      have hkb : kN K (qs.map (·.2)) (k + 1) ≤ 100000000 := Nat.le_trans (kN_mono K _ hlt) HK.out
      obtain ⟨⟨⟨ax, a1, ay, a2, ap, a3, aq, a4⟩, ⟨is, rs, now, key, qu, ss, es, dr⟩⟩, hqk⟩ : ∃ e, qs[k] = e := ⟨_, rfl⟩
      have hst := kN_step (K := K) hlt hqk
      have hmx := hx.step hlt hqk
      have HNK : Hid (∀ b, (∀ j (hj : j < qs.length), ¬ qs[j].1.has b) → ¬ Tp.has ⟨ax, a1, ay, a2, ap, a3, aq, a4⟩ b) := fun b h => by have := h k hlt; rw [hqk] at this; exact this
      have HL : Hid (qs'.length = qs.length) := hx.1
      have HLT : Hid (k < qs'.length) := by show _ < _; rw [hx.1]; exact hlt
      have HGL : Hid (base ≤ wr.heap.size) := by show _ ≤ _; have := hB.size; exact Nat.le_trans HBS.out this
      have hq' : qs'[k]'(by rw [hx.1]; exact hlt) = (⟨ax, a1, ay, a2, ap, a3, aq, a4⟩, ⟨is, rs, now, key, qu, ss, es, dr⟩) := by rw [hx.2 k hlt (by rw [hx.1]; exact hlt), if_neg (Nat.lt_irrefl k), hqk]
      have hlt' : k < qs'.length := by rw [hx.1]; exact hlt
      have hset : qs'.set k (⟨ax, a1, ay, a2, ap, a3, aq, a4⟩, ⟨is, rs, now, key, qu, ss, es, dr⟩) = qs' := by rw [← hq']; exact List.set_getElem_self _
      rw [← hset] at hO
      have HS0 : Hid (OwnTs wr base (some ⟨g, 0, none⟩) qs.length cv (qs'.set k (⟨ax, a1, ay, a2, ap, a3, aq, a4⟩, ⟨is, rs, now, key, qu, ss, es, dr⟩)) ∧ Below base w wr ∧ ∀ b t l, b ≠ g → (∀ j (hj : j < qs.length), ¬ qs[j].1.has b) → Row w b t l → Row wr b t l) := ⟨hO, hB, hoth⟩
      generalize hkk : kN K (qs.map (·.2)) k = kk at *
      simp only [mrkT, kq2, kq6, kq7] at hmx
      rw [hst] at hkb
      have HKE : Hid (((kN K (qs.map (·.2)) (k + 1) : Nat) : Int) = ((kk + 5 * is.length + 9 * rs.length + 3 + 2 * ss.length + 2 * es.length : Nat) : Int) + 1) := by show _ = _; rw [hst]; simp only [szTn]; omega
      simp only [szTn] at hkb
      clear hst
      obtain ⟨I1, hI1⟩ : ∃ l, l = marksI kk is.length := ⟨_, rfl⟩
      obtain ⟨R1, hR1⟩ : ∃ l, l = marksR (kk + 5 * is.length) rs.length := ⟨_, rfl⟩
      obtain ⟨N2, hN2⟩ : ∃ n : Nat, n = kk + 5 * is.length + 9 * rs.length := ⟨_, rfl⟩
      rw [← hN2] at hmx HKE
      obtain ⟨TX, hTX⟩ : ∃ t, t = mTxt (N2 + 1) := ⟨_, rfl⟩
      obtain ⟨S1, hS1⟩ : ∃ l, l = mksSn (N2 + 3) ss.length := ⟨_, rfl⟩
      obtain ⟨N6, hN6⟩ : ∃ n : Nat, n = N2 + 3 + 2 * ss.length := ⟨_, rfl⟩
      rw [← hN6] at hmx HKE
      obtain ⟨E1, hE1⟩ : ∃ l, l = mksSe N6 es.length := ⟨_, rfl⟩
      obtain ⟨N7, hN7⟩ : ∃ n : Nat, n = N6 + 2 * es.length := ⟨_, rfl⟩
      rw [← hN7] at hmx HKE
      rw [← hI1, ← hR1, ← hTX, ← hS1, ← hE1] at hmx
      have HMX : Hid _ := hmx
      have HLL : Hid (I1.length = is.length ∧ R1.length = rs.length ∧ S1.length = ss.length ∧ E1.length = es.length) := ⟨by rw [hI1]; exact marksI_length _ _, by rw [hR1]; exact marksR_length _ _, by rw [hS1]; exact mksSn_length _ _, by rw [hE1]; exact mksSe_length _ _⟩
      have HNN : Hid (N2 = kk + 5 * is.length + 9 * rs.length ∧ N6 = N2 + 3 + 2 * ss.length ∧ N7 = N6 + 2 * es.length ∧ kk + (5 * is.length + 9 * rs.length + 2 * ss.length + 2 * es.length + 4) ≤ 100000000) := ⟨hN2, hN6, hN7, hkb⟩
      have HII : Hid (I1 = marksI kk is.length ∧ R1 = marksR (kk + 5 * is.length) rs.length ∧ TX = mTxt (N2 + 1) ∧ S1 = mksSn (N2 + 3) ss.length ∧ E1 = mksSe N6 es.length) := ⟨hI1, hR1, hTX, hS1, hE1⟩
      have hb2 : N2 + 3 ≤ 100000000 := by omega
      have hb7 : N7 + 1 ≤ 100000000 := by omega
      clear hmx hI1 hR1 hTX hS1 hE1 hN2 hN6 hN7 hkb hkk
      clear hO hB hoth
      obtain ⟨rest, hbg, hg, hcv, hrw, hc, hf, how⟩ := HS0.out.1.cells (by rw [List.length_set]; exact HL.out.symm) (show k < (qs'.set k (⟨ax, a1, ay, a2, ap, a3, aq, a4⟩, ⟨is, rs, now, key, qu, ss, es, dr⟩)).length by rw [List.length_set]; exact HLT.out) (List.getElem_set_self (by rw [List.length_set]; exact HLT.out))
      have c0 : wr.cell? ⟨g, k * 8, none⟩ = some (.slice ax is.length a1) := hc 0 _ rfl
      clear hrw hc rest hcv hg
      have HM : Hid (Calls Tryz.prog 67 #[.slice ax is.length a1, .int .i64 ((kk : Nat) : Int)] wr fun e w'' => e = .returned (.int .i64 (((kk : Nat) : Int) + 5 * (is.length : Int))) ∧ w''.ownsRow base 72 5 (.slice ax is.length a1) is.length (rowI I1) ∧ Below base wr w'' ∧ ∀ b t l, ax ≠ some ⟨b, 0, none⟩ → Row wr b t l → Row w'' b t l) := by rw [HII.out.1]; exact markIfaceS_any kk ax is.length a1 base is wr rfl (by have := HNN.out; omega) (by have := HNN.out; omega) how.1
      go_wp2_with fail
      refine (HM.out).mono ?_
      rintro e w1 ⟨rfl, hi, hb2, hk2⟩
      have HS1 : Hid (OwnTs w1 base (some ⟨g, 0, none⟩) qs.length cv (qs'.set k (⟨ax, a1, ay, a2, ap, a3, aq, a4⟩, ⟨I1, rs, now, key, qu, ss, es, dr⟩)) ∧ Below base w w1 ∧ ∀ b t l, b ≠ g → (∀ j (hj : j < qs.length), ¬ qs[j].1.has b) → Row w b t l → Row w1 b t l) := by
        have h1 := HS0.out.1.list (W' := w1) (by rw [List.length_set]; exact HLT.out) (List.getElem_set_self (by rw [List.length_set]; exact HLT.out)) (t' := ⟨I1, rs, now, key, qu, ss, es, dr⟩) (by simp only [tnL, HLL.out.1]) ax (fun b e => .inl e) (fun b tt l hne hr => hk2 b tt l hne hr) (how.i1 (by exact HLL.out.1) hi hk2)
        rw [List.set_set] at h1
        exact ⟨h1, HS0.out.2.1.trans hb2, fun b tt l hne hh hr => hk2 b tt l (fun e => HNK.out b hh (.inl e)) (HS0.out.2.2 b tt l hne hh hr)⟩
      clear HS0 hi hb2 hk2 how
      clear c0 HM
      obtain ⟨rest, hbg, hg, hcv, hrw, hc, hf, how⟩ := HS1.out.1.cells (by rw [List.length_set]; exact HL.out.symm) (show k < (qs'.set k (⟨ax, a1, ay, a2, ap, a3, aq, a4⟩, ⟨I1, rs, now, key, qu, ss, es, dr⟩)).length by rw [List.length_set]; exact HLT.out) (List.getElem_set_self (by rw [List.length_set]; exact HLT.out))
      have c1 : w1.cell? ⟨g, k * 8 + 1, none⟩ = some (.slice ay rs.length a2) := hc 1 _ rfl
      clear hrw hc rest hcv hg
      have HM : Hid (Calls Tryz.prog 68 #[.slice ay rs.length a2, .int .i64 (((kk : Nat) : Int) + 5 * (is.length : Int))] w1 fun e w'' => e = .returned (.int .i64 (N2 : Int)) ∧ w''.ownsRow base 144 9 (.slice ay rs.length a2) rs.length (rowR R1) ∧ Below base w1 w'' ∧ ∀ b t l, ay ≠ some ⟨b, 0, none⟩ → Row w1 b t l → Row w'' b t l) := by
        have hN := HNN.out
        have := markRouteS_any (kk + 5 * is.length) ay rs.length a2 base rs w1 rfl (by omega) (by omega) how.2.1
        rw [← HII.out.2.1] at this
        rw [show (((kk + 5 * is.length : Nat) : Int) + 9 * (rs.length : Int)) = (N2 : Int) by omega, show ((kk + 5 * is.length : Nat) : Int) = ((kk : Nat) : Int) + 5 * (is.length : Int) by omega] at this
        exact this
      go_wp2_with fail
      refine (HM.out).mono ?_
      rintro e w2 ⟨rfl, hi, hb2, hk2⟩
      have HS2 : Hid (OwnTs w2 base (some ⟨g, 0, none⟩) qs.length cv (qs'.set k (⟨ax, a1, ay, a2, ap, a3, aq, a4⟩, ⟨I1, R1, now, key, qu, ss, es, dr⟩)) ∧ Below base w w2 ∧ ∀ b t l, b ≠ g → (∀ j (hj : j < qs.length), ¬ qs[j].1.has b) → Row w b t l → Row w2 b t l) := by
        have h1 := HS1.out.1.list (W' := w2) (by rw [List.length_set]; exact HLT.out) (List.getElem_set_self (by rw [List.length_set]; exact HLT.out)) (t' := ⟨I1, R1, now, key, qu, ss, es, dr⟩) (by simp only [tnL, HLL.out.2.1]) ay (fun b e => .inr (.inl e)) (fun b tt l hne hr => hk2 b tt l hne hr) (how.i2 (by exact HLL.out.2.1) hi hk2)
        rw [List.set_set] at h1
        exact ⟨h1, HS1.out.2.1.trans hb2, fun b tt l hne hh hr => hk2 b tt l (fun e => HNK.out b hh (.inr (.inl e))) (HS1.out.2.2 b tt l hne hh hr)⟩
      clear HS1 hi hb2 hk2 how
      clear c1 HM
      obtain ⟨rest, hbg, hg, hcv, hrw, hc, hf, how⟩ := HS2.out.1.cells (by rw [List.length_set]; exact HL.out.symm) (show k < (qs'.set k (⟨ax, a1, ay, a2, ap, a3, aq, a4⟩, ⟨I1, R1, now, key, qu, ss, es, dr⟩)).length by rw [List.length_set]; exact HLT.out) (List.getElem_set_self (by rw [List.length_set]; exact HLT.out))
      have c2 : w2.cell? ⟨g, k * 8 + 2, none⟩ = some (.int .i64 now) := hc 2 _ rfl
      clear hrw hc rest hcv hg
      have f2 := hf 2
      clear hf how
      have HS3 : Hid (OwnTs (w2.setCell ⟨g, k * 8 + 2, none⟩ (.int .i64 (N2 : Int))) base (some ⟨g, 0, none⟩) qs.length cv (qs'.set k (⟨ax, a1, ay, a2, ap, a3, aq, a4⟩, ⟨I1, R1, (N2 : Int), key, qu, ss, es, dr⟩)) ∧ Below base w (w2.setCell ⟨g, k * 8 + 2, none⟩ (.int .i64 (N2 : Int))) ∧ ∀ b t l, b ≠ g → (∀ j (hj : j < qs.length), ¬ qs[j].1.has b) → Row w b t l → Row (w2.setCell ⟨g, k * 8 + 2, none⟩ (.int .i64 (N2 : Int))) b t l) := by
        have h1 := HS2.out.1.cell (by rw [List.length_set]; exact HL.out.symm) (by rw [List.length_set]; exact HLT.out) (List.getElem_set_self (by rw [List.length_set]; exact HLT.out)) 2 (by omega) (.int .i64 (N2 : Int)) (t' := ⟨I1, R1, (N2 : Int), key, qu, ss, es, dr⟩) rfl ⟨rfl, rfl, rfl, rfl⟩
        rw [List.set_set] at h1
        exact ⟨h1.1, HS2.out.2.1.setCell (p := ⟨g, k * 8 + 2, none⟩) h1.2 _, fun b tt l hne hh hr => (HS2.out.2.2 b tt l hne hh hr).other _ _ hne⟩
      have HTX : Hid (∀ W, Calls Tryz.prog 69 #[.int .i64 ((N2 : Int) + 1)] W fun e w' => e = .returned (.string TX) ∧ Below W.heap.size W w') := fun W => by
        have hN := HNN.out
        have := markText_pos (N2 + 1) W (by omega) (by omega)
        rw [← HII.out.2.2.1] at this
        rw [show ((N2 + 1 : Nat) : Int) = (N2 : Int) + 1 by omega] at this
        exact this
      clear HS2
      go_wp2_with fail
      clear c2 f2
      generalize (w2.setCell ⟨g, k * 8 + 2, none⟩ (.int .i64 (N2 : Int))) = w3 at *
      refine (HTX.out w3).mono ?_
      rintro e w4 ⟨rfl, hbt⟩
      have HS3' : Hid (OwnTs w4 base (some ⟨g, 0, none⟩) qs.length cv (qs'.set k (⟨ax, a1, ay, a2, ap, a3, aq, a4⟩, ⟨I1, R1, (N2 : Int), key, qu, ss, es, dr⟩)) ∧ Below base w w4 ∧ ∀ b t l, b ≠ g → (∀ j (hj : j < qs.length), ¬ qs[j].1.has b) → Row w b t l → Row w4 b t l) := ⟨HS3.out.1.below hbt, HS3.out.2.1.trans (hbt.mono (Nat.le_trans HBS.out HS3.out.2.1.size)), fun b tt l hne hh hr => (HS3.out.2.2 b tt l hne hh hr).below hbt (HS3.out.2.2 b tt l hne hh hr).lt⟩
      clear HS3 HTX hbt hbg
      have HS3 : Hid _ := HS3'.out
      clear HS3'
      obtain ⟨rest, hbg, hg, hcv, hrw, hc, hf, how⟩ := HS3.out.1.cells (by rw [List.length_set]; exact HL.out.symm) (show k < (qs'.set k (⟨ax, a1, ay, a2, ap, a3, aq, a4⟩, ⟨I1, R1, (N2 : Int), key, qu, ss, es, dr⟩)).length by rw [List.length_set]; exact HLT.out) (List.getElem_set_self (by rw [List.length_set]; exact HLT.out))
      have c3 : w4.cell? ⟨g, k * 8 + 3, none⟩ = some (.string key) := hc 3 _ rfl
      have c4 : w4.cell? ⟨g, k * 8 + 4, none⟩ = some (.int .i64 qu) := hc 4 _ rfl
      have c5 : w4.cell? ⟨g, k * 8 + 5, none⟩ = some (.slice ap ss.length a3) := hc 5 _ rfl
      clear hrw hc rest hcv hg
      have f3 := hf 3
      have f4 := hf 4
      clear hf
      have HS4 : Hid (OwnTs (w4.setCell ⟨g, k * 8 + 3, none⟩ (.string TX)) base (some ⟨g, 0, none⟩) qs.length cv (qs'.set k (⟨ax, a1, ay, a2, ap, a3, aq, a4⟩, ⟨I1, R1, (N2 : Int), TX, qu, ss, es, dr⟩)) ∧ Below base w (w4.setCell ⟨g, k * 8 + 3, none⟩ (.string TX)) ∧ ∀ b t l, b ≠ g → (∀ j (hj : j < qs.length), ¬ qs[j].1.has b) → Row w b t l → Row (w4.setCell ⟨g, k * 8 + 3, none⟩ (.string TX)) b t l) := by
        have h1 := HS3.out.1.cell (by rw [List.length_set]; exact HL.out.symm) (by rw [List.length_set]; exact HLT.out) (List.getElem_set_self (by rw [List.length_set]; exact HLT.out)) 3 (by omega) (.string TX) (t' := ⟨I1, R1, (N2 : Int), TX, qu, ss, es, dr⟩) rfl ⟨rfl, rfl, rfl, rfl⟩
        rw [List.set_set] at h1
        exact ⟨h1.1, HS3.out.2.1.setCell (p := ⟨g, k * 8 + 3, none⟩) h1.2 _, fun b tt l hne hh hr => (HS3.out.2.2 b tt l hne hh hr).other _ _ hne⟩
      have HS5 : Hid (OwnTs ((w4.setCell ⟨g, k * 8 + 3, none⟩ (.string TX)).setCell ⟨g, k * 8 + 4, none⟩ (.int .i64 ((N2 + 2 : Nat) : Int))) base (some ⟨g, 0, none⟩) qs.length cv (qs'.set k (⟨ax, a1, ay, a2, ap, a3, aq, a4⟩, ⟨I1, R1, (N2 : Int), TX, ((N2 + 2 : Nat) : Int), ss, es, dr⟩)) ∧ Below base w ((w4.setCell ⟨g, k * 8 + 3, none⟩ (.string TX)).setCell ⟨g, k * 8 + 4, none⟩ (.int .i64 ((N2 + 2 : Nat) : Int))) ∧ ∀ b t l, b ≠ g → (∀ j (hj : j < qs.length), ¬ qs[j].1.has b) → Row w b t l → Row ((w4.setCell ⟨g, k * 8 + 3, none⟩ (.string TX)).setCell ⟨g, k * 8 + 4, none⟩ (.int .i64 ((N2 + 2 : Nat) : Int))) b t l) := by
        have h1 := HS4.out.1.cell (by rw [List.length_set]; exact HL.out.symm) (by rw [List.length_set]; exact HLT.out) (List.getElem_set_self (by rw [List.length_set]; exact HLT.out)) 4 (by omega) (.int .i64 ((N2 + 2 : Nat) : Int)) (t' := ⟨I1, R1, (N2 : Int), TX, ((N2 + 2 : Nat) : Int), ss, es, dr⟩) rfl ⟨rfl, rfl, rfl, rfl⟩
        rw [List.set_set] at h1
        exact ⟨h1.1, HS4.out.2.1.setCell (p := ⟨g, k * 8 + 4, none⟩) h1.2 _, fun b tt l hne hh hr => (HS4.out.2.2 b tt l hne hh hr).other _ _ hne⟩
      have x5 : ((w4.setCell ⟨g, k * 8 + 3, none⟩ (.string TX)).setCell ⟨g, k * 8 + 4, none⟩ (.int .i64 ((N2 + 2 : Nat) : Int))).cell? ⟨g, k * 8 + 5, none⟩ = some (.slice ap ss.length a3) := (HS5.out.1.cells (by rw [List.length_set]; exact HL.out.symm) (show k < (qs'.set k (⟨ax, a1, ay, a2, ap, a3, aq, a4⟩, ⟨I1, R1, (N2 : Int), TX, ((N2 + 2 : Nat) : Int), ss, es, dr⟩)).length by rw [List.length_set]; exact HLT.out) (List.getElem_set_self (by rw [List.length_set]; exact HLT.out))).choose_spec.2.2.2.2.1 5 _ rfl
      rw [show ((N2 + 2 : Nat) : Int) = (N2 : Int) + 1 + 1 by omega] at x5
      have HS5b : Hid _ := HS5.out
      clear how c5
      go_wp2_with fail
      clear c3 c4 f3 f4 x5 HS3 HS4
      rw [show (N2 : Int) + 1 + 1 = ((N2 + 2 : Nat) : Int) by omega]
      generalize ((w4.setCell ⟨g, k * 8 + 3, none⟩ (.string TX)).setCell ⟨g, k * 8 + 4, none⟩ (.int .i64 ((N2 + 2 : Nat) : Int))) = w5 at *
      clear HS5b hbg
      obtain ⟨rest, hbg, hg, hcv, hrw, hc, hf, how⟩ := HS5.out.1.cells (by rw [List.length_set]; exact HL.out.symm) (show k < (qs'.set k (⟨ax, a1, ay, a2, ap, a3, aq, a4⟩, ⟨I1, R1, (N2 : Int), TX, ((N2 + 2 : Nat) : Int), ss, es, dr⟩)).length by rw [List.length_set]; exact HLT.out) (List.getElem_set_self (by rw [List.length_set]; exact HLT.out))
      clear hrw hc rest hcv hg
      clear hf
      have HM : Hid (Calls Tryz.prog 70 #[.slice ap ss.length a3, .int .i64 (((N2 + 2 : Nat) : Int) + 1)] w5 fun e w'' => e = .returned (.int .i64 (N6 : Int)) ∧ w''.ownsRow base 142 2 (.slice ap ss.length a3) ss.length (rowSn S1) ∧ Below base w5 w'' ∧ ∀ b t l, ap ≠ some ⟨b, 0, none⟩ → Row w5 b t l → Row w'' b t l) := by
        have hN := HNN.out
        have := markSentS_own (N2 + 3) ap ss.length a3 base ss w5 rfl (by omega) (by omega) how.2.2.1
        rw [← HII.out.2.2.2.1] at this
        rw [show (((N2 + 3 : Nat) : Int) + 2 * (ss.length : Int)) = (N6 : Int) by omega, show ((N2 + 3 : Nat) : Int) = ((N2 + 2 : Nat) : Int) + 1 by omega] at this
        exact this
      refine (HM.out).mono ?_
      rintro e w6 ⟨rfl, hi, hb2, hk2⟩
      have HS6 : Hid (OwnTs w6 base (some ⟨g, 0, none⟩) qs.length cv (qs'.set k (⟨ax, a1, ay, a2, ap, a3, aq, a4⟩, ⟨I1, R1, (N2 : Int), TX, ((N2 + 2 : Nat) : Int), S1, es, dr⟩)) ∧ Below base w w6 ∧ ∀ b t l, b ≠ g → (∀ j (hj : j < qs.length), ¬ qs[j].1.has b) → Row w b t l → Row w6 b t l) := by
        have h1 := HS5.out.1.list (W' := w6) (by rw [List.length_set]; exact HLT.out) (List.getElem_set_self (by rw [List.length_set]; exact HLT.out)) (t' := ⟨I1, R1, (N2 : Int), TX, ((N2 + 2 : Nat) : Int), S1, es, dr⟩) (by simp only [tnL, HLL.out.2.2.1]) ap (fun b e => .inr (.inr (.inl e))) (fun b tt l hne hr => hk2 b tt l hne hr) (how.i3 (by exact HLL.out.2.2.1) hi hk2)
        rw [List.set_set] at h1
        exact ⟨h1, HS5.out.2.1.trans hb2, fun b tt l hne hh hr => hk2 b tt l (fun e => HNK.out b hh (.inr (.inr (.inl e)))) (HS5.out.2.2 b tt l hne hh hr)⟩
      clear HS5 hi hb2 hk2 how
      clear HM
      obtain ⟨rest, hbg, hg, hcv, hrw, hc, hf, how⟩ := HS6.out.1.cells (by rw [List.length_set]; exact HL.out.symm) (show k < (qs'.set k (⟨ax, a1, ay, a2, ap, a3, aq, a4⟩, ⟨I1, R1, (N2 : Int), TX, ((N2 + 2 : Nat) : Int), S1, es, dr⟩)).length by rw [List.length_set]; exact HLT.out) (List.getElem_set_self (by rw [List.length_set]; exact HLT.out))
      have c6 : w6.cell? ⟨g, k * 8 + 6, none⟩ = some (.slice aq es.length a4) := hc 6 _ rfl
      clear hrw hc rest hcv hg
      clear hf
      have HM : Hid (Calls Tryz.prog 71 #[.slice aq es.length a4, .int .i64 (N6 : Int)] w6 fun e w'' => e = .returned (.int .i64 (N7 : Int)) ∧ w''.ownsRow base 182 2 (.slice aq es.length a4) es.length (rowSe E1) ∧ Below base w6 w'' ∧ ∀ b t l, aq ≠ some ⟨b, 0, none⟩ → Row w6 b t l → Row w'' b t l) := by
        have hN := HNN.out
        have := markSeenS_own N6 aq es.length a4 base es w6 rfl (by omega) (by omega) how.2.2.2
        rw [← HII.out.2.2.2.2] at this
        rw [show (((N6 : Nat) : Int) + 2 * (es.length : Int)) = (N7 : Int) by omega] at this
        exact this
      go_wp2_with fail
      refine (HM.out).mono ?_
      rintro e w7 ⟨rfl, hi, hb2, hk2⟩
      have HS7 : Hid (OwnTs w7 base (some ⟨g, 0, none⟩) qs.length cv (qs'.set k (⟨ax, a1, ay, a2, ap, a3, aq, a4⟩, ⟨I1, R1, (N2 : Int), TX, ((N2 + 2 : Nat) : Int), S1, E1, dr⟩)) ∧ Below base w w7 ∧ ∀ b t l, b ≠ g → (∀ j (hj : j < qs.length), ¬ qs[j].1.has b) → Row w b t l → Row w7 b t l) := by
        have h1 := HS6.out.1.list (W' := w7) (by rw [List.length_set]; exact HLT.out) (List.getElem_set_self (by rw [List.length_set]; exact HLT.out)) (t' := ⟨I1, R1, (N2 : Int), TX, ((N2 + 2 : Nat) : Int), S1, E1, dr⟩) (by simp only [tnL, HLL.out.2.2.2]) aq (fun b e => .inr (.inr (.inr e))) (fun b tt l hne hr => hk2 b tt l hne hr) (how.i4 (by exact HLL.out.2.2.2) hi hk2)
        rw [List.set_set] at h1
        exact ⟨h1, HS6.out.2.1.trans hb2, fun b tt l hne hh hr => hk2 b tt l (fun e => HNK.out b hh (.inr (.inr (.inr e)))) (HS6.out.2.2 b tt l hne hh hr)⟩
      clear HS6 hi hb2 hk2 how
      clear HM c6
      obtain ⟨rest, hbg, hg, hcv, hrw, hc, hf, how⟩ := HS7.out.1.cells (by rw [List.length_set]; exact HL.out.symm) (show k < (qs'.set k (⟨ax, a1, ay, a2, ap, a3, aq, a4⟩, ⟨I1, R1, (N2 : Int), TX, ((N2 + 2 : Nat) : Int), S1, E1, dr⟩)).length by rw [List.length_set]; exact HLT.out) (List.getElem_set_self (by rw [List.length_set]; exact HLT.out))
      have c7 : w7.cell? ⟨g, k * 8 + 7, none⟩ = some (.int .i64 dr) := hc 7 _ rfl
      clear hrw hc rest hcv hg
      have f7 := hf 7
      clear hf how
      have HS8 : Hid (OwnTs (w7.setCell ⟨g, k * 8 + 7, none⟩ (.int .i64 (N7 : Int))) base (some ⟨g, 0, none⟩) qs.length cv (qs'.set k (⟨ax, a1, ay, a2, ap, a3, aq, a4⟩, ⟨I1, R1, (N2 : Int), TX, ((N2 + 2 : Nat) : Int), S1, E1, (N7 : Int)⟩)) ∧ Below base w (w7.setCell ⟨g, k * 8 + 7, none⟩ (.int .i64 (N7 : Int))) ∧ ∀ b t l, b ≠ g → (∀ j (hj : j < qs.length), ¬ qs[j].1.has b) → Row w b t l → Row (w7.setCell ⟨g, k * 8 + 7, none⟩ (.int .i64 (N7 : Int))) b t l) := by
        have h1 := HS7.out.1.cell (by rw [List.length_set]; exact HL.out.symm) (by rw [List.length_set]; exact HLT.out) (List.getElem_set_self (by rw [List.length_set]; exact HLT.out)) 7 (by omega) (.int .i64 (N7 : Int)) (t' := ⟨I1, R1, (N2 : Int), TX, ((N2 + 2 : Nat) : Int), S1, E1, (N7 : Int)⟩) rfl ⟨rfl, rfl, rfl, rfl⟩
        rw [List.set_set] at h1
        exact ⟨h1.1, HS7.out.2.1.setCell (p := ⟨g, k * 8 + 7, none⟩) h1.2 _, fun b tt l hne hh hr => (HS7.out.2.2 b tt l hne hh hr).other _ _ hne⟩
      have HX8 : Hid (MixT K qs (k + 1) (qs'.set k (⟨ax, a1, ay, a2, ap, a3, aq, a4⟩, ⟨I1, R1, (N2 : Int), TX, ((N2 + 2 : Nat) : Int), S1, E1, (N7 : Int)⟩))) := HMX.out
      clear HS7 hbg
      go_wp2_with fail
      refine ⟨⟨k + 1, (qs'.set k (⟨ax, a1, ay, a2, ap, a3, aq, a4⟩, ⟨I1, R1, (N2 : Int), TX, ((N2 + 2 : Nat) : Int), S1, E1, (N7 : Int)⟩)), hlt, by go_num, by rw [HKE.out], HX8.out, HS8.out.1, HS8.out.2.1, HS8.out.2.2⟩, ?_⟩
      simp [intOf] <;> omega
    · obtain rfl : k = qs.length := by omega
      have dk : decide ((qs.length : Int) < (qs.length : Int)) = false := by simp
      clear hlt hk
      go_wp2
      go_ret
      exact ⟨rfl, ⟨qs', hx, hO⟩, hB, hoth⟩
set_option maxRecDepth 100000 in
set_option maxHeartbeats 4000000 in
theorem markTenantS_0 (K : Nat) (p : Option Addr) (cv : Nat) (w : World) : Calls Tryz.prog 33 #[.slice p 0 cv, .int .i64 K] w fun e w' => e = .returned (.int .i64 K) ∧ w = w' := by
  go_enter Tryz.func33, Tryz.ntmps33
  go_wp2_with fail
  go_loop [5, 1] (fun i k => i = .int .i64 0 ∧ k = .int .i64 K) (fun _ _ => 0)
  case atStart => exact ⟨rfl, rfl⟩
  case round =>
    obtain ⟨rfl, rfl⟩ := hrel
    go_wp2
    go_ret
    exact ⟨rfl, rfl⟩
theorem markTenantS_any (K : Nat) (p : Option Addr) (n cv base : Nat) (qs : List TnP) (w : World) (hn : n = qs.length) (h8 : n ≤ 100000000) (hK : kN K (qs.map (·.2)) n ≤ 100000000) (hbs : base ≤ w.heap.size) (h : OwnTs w base p n cv qs) :
    Calls Tryz.prog 33 #[.slice p n cv, .int .i64 K] w fun e w' => e = .returned (.int .i64 ((kN K (qs.map (·.2)) n : Nat) : Int)) ∧ (∃ qs', MixT K qs n qs' ∧ OwnTs w' base p n cv qs') ∧ Below base w w' ∧ ∀ b t l, p ≠ some ⟨b, 0, none⟩ → (∀ j (hj : j < qs.length), ¬ qs[j].1.has b) → Row w b t l → Row w' b t l := by
  subst hn
  rcases owns_opened h.1 with h0 | ⟨g, rest, rfl, hb, h1, h2, hr, hl⟩
  · have hq : qs = [] := List.length_eq_zero_iff.1 h0
    subst hq
    exact (markTenantS_0 K p cv w).mono fun e w' ⟨he, hw⟩ => ⟨he, ⟨[], MixT.zero K [], hw ▸ h⟩, hw ▸ Below.refl _ _, fun _ _ _ _ _ h => hw ▸ h⟩
  · exact (markTenantS_in K g cv base qs w h8 hK hbs h).mono fun e w' ⟨he, hx, hb', hk⟩ => ⟨he, hx, hb', fun b t l hp hh hr => hk b t l (fun e => hp (by rw [e])) hh hr⟩
set_option maxRecDepth 100000 in
set_option maxHeartbeats 4000000 in
theorem heldTenantS_any (K : Nat) (p : Option Addr) (n cv : Nat) (ts : List Tn) (ps : List TnP) (w : World) (hn : n = ps.length) (h8 : n ≤ 100000000) (hK : kN K ts n ≤ 100000000) (hI : TensIn w p ps) (hM : ∀ j (hj : j < ps.length), ps[j].2 = mrkT (kN K ts j) ts[j]!) :
    Calls Tryz.prog 36 #[.slice p n cv, .int .i64 K] w fun e w' => e = .returned (.int .i64 ((kN K ts n : Nat) : Int)) ∧ Below w.heap.size w w' := by
  obtain rfl := hn
  have HX : Hid (TensIn w p ps) := hI
  have HMM : Hid (∀ j (hj : j < ps.length), ps[j].2 = mrkT (kN K ts j) ts[j]!) := hM
  have HKK : Hid (kN K ts ps.length ≤ 100000000) := hK
  clear hI hM hK
  go_enter Tryz.func36, Tryz.ntmps36
  go_wp2_with fail
  go_loopw [5, 1] (fun i m wr => ∃ k : Nat, k ≤ ps.length ∧ i = .int .i64 k ∧ m = .int .i64 ((kN K ts k : Nat) : Int) ∧ Below w.heap.size w wr) (fun i _ _ => ps.length - (intOf i).toNat)
  case atStart => exact ⟨0, Nat.zero_le _, rfl, rfl, Below.refl _ _⟩
  case round =>
    obtain ⟨k, hk, rfl, rfl, hB⟩ := hrel
    by_cases hlt : k < ps.length
    · have dk : decide ((k : Int) < (ps.length : Int)) = true := by simpa using hlt
      obtain ⟨g, a, t, rfl, hg, hek, hI, c0, c1, c2, c3, c4, c5, c6, c7⟩ := (HX.out.below hB).at k hlt
      have ht := HMM.out k hlt
      rw [hek] at ht
      simp only at ht
      subst ht
      have hkb : kN K ts (k + 1) ≤ 100000000 := Nat.le_trans (kN_mono K ts hlt) HKK.out
      have hk1 : kN K ts (k + 1) = kN K ts k + szTn ts[k]! := rfl
      unfold szTn at hk1
      unfold InT at hI
      simp only [mrkT, kq2, kq6, kq7, marksI_length, marksR_length, mksSn_length, mksSe_length] at c0 c1 c2 c3 c4 c5 c6 c7 hI
      clear hek
      generalize hkk : kN K ts k = kk at *
      generalize (ts[k]!).is.length = m1 at *
      generalize (ts[k]!).rs.length = m2 at *
      generalize (ts[k]!).ss.length = m3 at *
      generalize (ts[k]!).es.length = m4 at *
      have HKE : Hid (((kN K ts (k + 1) : Nat) : Int) = ((kk + 5 * m1 + 9 * m2 + 3 + 2 * m3 + 2 * m4 : Nat) : Int) + 1) := by show _ = _; rw [hk1]; omega
      have hm : kk + 5 * m1 + 9 * m2 + 4 + 2 * m3 + 2 * m4 ≤ 100000000 := by omega
      clear hkb hk1 hkk
      obtain ⟨N2, hN2⟩ : ∃ n : Nat, n = kk + 5 * m1 + 9 * m2 := ⟨_, rfl⟩
      rw [← hN2] at c2 c3 c4 c7 hI HKE
      obtain ⟨N6, hN6⟩ : ∃ n : Nat, n = N2 + 3 + 2 * m3 := ⟨_, rfl⟩
      rw [← hN6] at c7 hI HKE
      obtain ⟨N7, hN7⟩ : ∃ n : Nat, n = N6 + 2 * m4 := ⟨_, rfl⟩
      rw [← hN7] at c7 HKE
      have HI : Hid (Calls Tryz.prog 72 #[.slice a.x m1 a.c1, .int .i64 ((kk : Nat) : Int)] wr fun e w' => e = .returned (.int .i64 (((kk : Nat) : Int) + 5 * (m1 : Int))) ∧ wr = w') := heldIfaceS_in kk a.x m1 a.c1 wr (by omega) (by omega) hI.1
      have HR : Hid (Calls Tryz.prog 73 #[.slice a.y m2 a.c2, .int .i64 (((kk : Nat) : Int) + 5 * (m1 : Int))] wr fun e w' => e = .returned (.int .i64 (N2 : Int)) ∧ wr = w') := by
        have := heldRouteS_in (kk + 5 * m1) a.y m2 a.c2 wr (by omega) (by omega) hI.2.1
        rw [show (((kk + 5 * m1 : Nat) : Int) + 9 * (m2 : Int)) = (N2 : Int) by omega, show ((kk + 5 * m1 : Nat) : Int) = ((kk : Nat) : Int) + 5 * (m1 : Int) by omega] at this
        exact this
      have HSN : Hid (∀ W, Below wr.heap.size wr W → Calls Tryz.prog 74 #[.slice a.p m3 a.c3, .int .i64 (((N2 + 2 : Nat) : Int) + 1)] W fun e w' => e = .returned (.int .i64 (N6 : Int)) ∧ Below W.heap.size W w') := fun W hb => by
        have := heldSentS_ix (N2 + 3) a.p m3 a.c3 W (by omega) (by omega) (hI.2.2.1.below hb)
        rw [show (((N2 + 3 : Nat) : Int) + 2 * (m3 : Int)) = (N6 : Int) by omega, show ((N2 + 3 : Nat) : Int) = ((N2 + 2 : Nat) : Int) + 1 by omega] at this
        exact this
      have HSE : Hid (∀ W, Below wr.heap.size wr W → Calls Tryz.prog 75 #[.slice a.q m4 a.c4, .int .i64 (N6 : Int)] W fun e w' => e = .returned (.int .i64 (N7 : Int)) ∧ W = w') := fun W hb => by
        have := heldSeenS_ix N6 a.q m4 a.c4 W (by omega) (by omega) (hI.2.2.2.below hb)
        rw [show (((N6 : Nat) : Int) + 2 * (m4 : Int)) = (N7 : Int) by omega] at this
        exact this
      have HTX : Hid (∀ d os, Calls Tryz.prog 69 #[.int .i64 ((N2 : Int) + 1)] (grow (redrawn wr d) os) fun e w'' => e = .returned (.string (mTxt (N2 + 1))) ∧ ∃ p : Regrown, w'' = grow (redrawn wr p.d) p.os) := fun d os => Calls.regrown_of (by
        have := markText_pos (N2 + 1) (grow (redrawn wr d) os) (by omega) (by omega)
        rw [show ((N2 + 1 : Nat) : Int) = (N2 : Int) + 1 by omega] at this
        exact this)
      have hb2 : N2 + 3 ≤ 100000000 := by omega
      have hb6 : N6 ≤ 100000000 := by omega
      have hb7 : N7 + 1 ≤ 100000000 := by omega
      have hb1 : kk + 5 * m1 ≤ 100000000 := by omega
      have d1 : decide (((kk : Nat) : Int) + 5 * (m1 : Int) < 0) = false := by simp; omega
      have d2 : decide ((N2 : Int) < 0) = false := by simp
      have d3 : ((N2 : Int) != (N2 : Int)) = false := by simp
      have d5 : (((N2 + 2 : Nat) : Int) != (N2 : Int) + 1 + 1) = false := by simp; omega
      have d6 : decide ((N6 : Int) < 0) = false := by simp
      have d7 : decide ((N7 : Int) < 0) = false := by simp
      have d8 : ((N7 : Int) != (N7 : Int)) = false := by simp
      have HB : Hid _ := And.intro hB hg
      have HC : Hid _ := And.intro c3 (And.intro c4 (And.intro c5 (And.intro c6 c7)))
      generalize mTxt (N2 + 1) = TX at *
      have dT : (TX.toList != TX.toList) = false := by simp
      have dT2 : (TX.toList == TX.toList) = true := by simp
      clear hI HX HMM HKK hB hN2 hN6 hN7 hm hg c3 c4 c5 c6 c7
      generalize a.x = ax at *
      generalize a.y = ay at *
      generalize a.p = ap at *
      generalize a.q = aq at *
      generalize a.c1 = ac1 at *
      generalize a.c2 = ac2 at *
      generalize a.c3 = ac3 at *
      generalize a.c4 = ac4 at *
      go_wp2_with fail
      refine (HI.out).mono ?_
      rintro e w1 ⟨rfl, rfl⟩
      go_wp2_with fail
      refine (HR.out).mono ?_
      rintro e w1 ⟨rfl, rfl⟩
      go_wp2_with fail
      clear HI HR c0 c1 c2
      have x3 := cell_regrown HC.out.1
      refine wp_region_quiet_below (by kernel_rfl) (by kernel_rfl) ?_
      repeat (go_big_quiet_step (first | (go_at_call 69; exact HTX.out _ _)))
      refine wpQuiet_nil ?_
      intro w3 hw'
      obtain ⟨⟨dq, osq⟩, hw''⟩ := hw'
      have hbq := below_regrown wr dq osq
      rw [← hw''] at hbq
      clear hw'' x3 HTX
      obtain ⟨-, c4, c5, c6, c7⟩ := HC.out
      obtain ⟨hB, hg⟩ := HB.out
      replace c4 : w3.cell? ⟨g, k * 8 + 4, none⟩ = _ := (hbq.cell (p := ⟨g, k * 8 + 4, none⟩) hg).trans c4
      replace c5 : w3.cell? ⟨g, k * 8 + 5, none⟩ = _ := (hbq.cell (p := ⟨g, k * 8 + 5, none⟩) hg).trans c5
      replace c6 : w3.cell? ⟨g, k * 8 + 6, none⟩ = _ := (hbq.cell (p := ⟨g, k * 8 + 6, none⟩) hg).trans c6
      replace c7 : w3.cell? ⟨g, k * 8 + 7, none⟩ = _ := (hbq.cell (p := ⟨g, k * 8 + 7, none⟩) hg).trans c7
      have HC2 : Hid _ := And.intro c6 c7
      have hg3 : g < w3.heap.size := by have := hbq.size; omega
      clear HC HB c6 c7
      have hB3 := hB.trans (hbq.mono hB.size)
      have HP : Hid _ := And.intro hbq (And.intro hB3 hg3)
      clear hbq hB3 hg3 hB hg
      go_wp2_with fail
      rw [show (N2 : Int) + 1 + 1 + 1 = ((N2 + 2 : Nat) : Int) + 1 by omega]
      clear c4 c5 d5 dT dT2
      refine (HSN.out _ HP.out.1).mono ?_
      rintro e w4 ⟨rfl, hb4⟩
      obtain ⟨c6, c7⟩ := HC2.out
      have hg3 := HP.out.2.2
      replace c6 : w4.cell? ⟨g, k * 8 + 6, none⟩ = _ := (hb4.cell (p := ⟨g, k * 8 + 6, none⟩) hg3).trans c6
      replace c7 : w4.cell? ⟨g, k * 8 + 7, none⟩ = _ := (hb4.cell (p := ⟨g, k * 8 + 7, none⟩) hg3).trans c7
      have HP4 : Hid _ := And.intro (HP.out.1.trans (hb4.mono HP.out.1.size)) (HP.out.2.1.trans (hb4.mono HP.out.2.1.size))
      clear hb4 HP HC2 HSN hg3
      go_wp2_with fail
      refine (HSE.out _ HP4.out.1).mono ?_
      rintro e w5 ⟨rfl, rfl⟩
      clear HSE c6
      go_wp2_with fail
      go_roundw
      case rel => exact ⟨k + 1, hlt, by go_num, by rw [HKE.out], HP4.out.2⟩
      case measure => simp [intOf]; omega
    · obtain rfl : k = ps.length := by omega
      have dk : decide ((ps.length : Int) < (ps.length : Int)) = false := by simp
      clear hlt hk HX HMM
      go_wp2
      go_ret
      exact ⟨rfl, hB⟩
end Go.Proofs.YtialedffpaoacaaGreatDoor
/- A Box that is one's own; the laws' own marks in a Box: written, and looked for. (Written by gen_markbx.py.) -/
namespace Go.Proofs.YtialedffpaoacaaGreatDoor
open Go.RowKit Go.Sort

/-- Is this block one of the Box's lists'? -/
def BoxHas (p pb pl : Option Addr) (qs : List TnP) (b : Nat) : Prop := p = some ⟨b, 0, none⟩ ∨ pb = some ⟨b, 0, none⟩ ∨ pl = some ⟨b, 0, none⟩ ∨ ∃ j, ∃ hj : j < qs.length, qs[j].1.has b
/-- A Box that is one's own. -/
def OwnBx (W : World) (base : Nat) (p : Option Addr) (n c : Nat) (pb : Option Addr) (nb cb : Nat) (pl : Option Addr) (nl cl : Nat) (qs : List TnP) (bs : List Bd) (ls : List Lk) : Prop := OwnTs W base p n c qs ∧ W.ownsRow base 77 4 (.slice pb nb cb) nb (rowBd bs) ∧ W.ownsRow base 113 6 (.slice pl nl cl) nl (rowL ls)
section
variable {W W' : World} {base base' : Nat} {p : Option Addr} {n c : Nat} {pb : Option Addr} {nb cb : Nat} {pl : Option Addr} {nl cl : Nat} {qs : List TnP} {bs : List Bd} {ls : List Lk}
theorem OwnBx.below (h : OwnBx W base p n c pb nb cb pl nl cl qs bs ls) (hb : Below W.heap.size W W') : OwnBx W' base p n c pb nb cb pl nl cl qs bs ls := ⟨h.1.below hb, owns_below h.2.1 hb, owns_below h.2.2 hb⟩
theorem OwnBx.mono (h : OwnBx W base p n c pb nb cb pl nl cl qs bs ls) (hb : base' ≤ base) : OwnBx W base' p n c pb nb cb pl nl cl qs bs ls := ⟨h.1.mono hb, owns_mono h.2.1 hb, owns_mono h.2.2 hb⟩
theorem OwnBx.kept (h : OwnBx W base p n c pb nb cb pl nl cl qs bs ls) (hk : ∀ b t l, BoxHas p pb pl qs b → Row W b t l → Row W' b t l) : OwnBx W' base p n c pb nb cb pl nl cl qs bs ls :=
  ⟨h.1.kept fun b t l hb r => hk b t l (by rcases hb with e | e; exact .inl e; exact .inr (.inr (.inr e))) r, owns_kept h.2.1 fun b t l e r => hk b t l (.inr (.inl e)) r, owns_kept h.2.2 fun b t l e r => hk b t l (.inr (.inr (.inl e))) r⟩
theorem OwnBx.ge (h : OwnBx W base p n c pb nb cb pl nl cl qs bs ls) {b : Nat} (hb : BoxHas p pb pl qs b) : base ≤ b := by
  rcases hb with e | e | e | ⟨j, hj, e⟩
  · exact owns_ge h.1.1 b e
  · exact owns_ge h.2.1 b e
  · exact owns_ge h.2.2 b e
  · exact (h.1.2.1 j hj).ge e
theorem OwnBx.lt (h : OwnBx W base p n c pb nb cb pl nl cl qs bs ls) {b : Nat} (hb : BoxHas p pb pl qs b) : b < W.heap.size := by
  rcases hb with e | e | e | ⟨j, hj, e⟩
  · exact owns_lt h.1.1 b e
  · exact owns_lt h.2.1 b e
  · exact owns_lt h.2.2 b e
  · exact (h.1.2.1 j hj).lt e
theorem bdsIn_own {p : Option Addr} {n cv : Nat} {es : List Bd} (hn : n = es.length) (h : W.ownsRow base 77 4 (.slice p n cv) n (rowBd es)) : BdsIn W p es := by
  rcases owns_opened h with h0 | ⟨g, rest, rfl, -, -, -, hr, -⟩
  · exact .inl (List.length_eq_zero_iff.1 (by omega))
  · exact bdsIn_rest hr
theorem lksIn_own {p : Option Addr} {n cv : Nat} {es : List Lk} (hn : n = es.length) (h : W.ownsRow base 113 6 (.slice p n cv) n (rowL es)) : LksIn W p es := by
  rcases owns_opened h with h0 | ⟨g, rest, rfl, -, -, -, hr, -⟩
  · exact .inl (List.length_eq_zero_iff.1 (by omega))
  · refine .inr ⟨g, rfl, hr.lt, fun j u hj => ?_⟩
    rw [hr.cell, List.getElem?_append_left (List.getElem?_eq_some_iff.1 hj).1]
    exact hj
theorem OwnBx.lens (h : OwnBx W base p n c pb nb cb pl nl cl qs bs ls) : n = qs.length ∧ nb = bs.length ∧ nl = ls.length := by
  refine ⟨h.1.len, ?_, ?_⟩
  · have := h.2.1.1
    rw [rowBd_length] at this
    omega
  · have := h.2.2.1
    rw [rowL_length] at this
    omega
theorem OwnBx.ins (h : OwnBx W base p n c pb nb cb pl nl cl qs bs ls) : TensIn W p qs ∧ BdsIn W pb bs ∧ LksIn W pl ls := ⟨h.1.ins h.lens.1, bdsIn_own h.lens.2.1 h.2.1, lksIn_own h.lens.2.2 h.2.2⟩
theorem boxHas_fst {qs' : List TnP} {K k : Nat} (hx : MixT K qs k qs') {b : Nat} (h : BoxHas p pb pl qs' b) : BoxHas p pb pl qs b := by
  rcases h with e | e | e | ⟨j, hj, e⟩
  · exact .inl e
  · exact .inr (.inl e)
  · exact .inr (.inr (.inl e))
  · exact .inr (.inr (.inr ⟨j, by rw [← hx.1]; exact hj, by rw [hx.fst hj] at e; exact e⟩))
end
set_option maxRecDepth 100000 in
set_option maxHeartbeats 4000000 in
theorem markBox_any (K : Nat) (p : Option Addr) (n c : Nat) (pb : Option Addr) (nb cb : Nat) (pl : Option Addr) (nl cl : Nat) (lost : Int) (base : Nat) (qs : List TnP) (bs : List Bd) (ls : List Lk) (w : World) (h8 : n ≤ 100000000 ∧ nb ≤ 100000000 ∧ nl ≤ 100000000) (hK : kN K (qs.map (·.2)) n + 4 * nb + 6 * nl ≤ 100000000) (hbs : base ≤ w.heap.size) (h : OwnBx w base p n c pb nb cb pl nl cl qs bs ls) :
    Calls Tryz.prog 12 #[.agg #[.slice p n c, .slice pb nb cb, .slice pl nl cl, .int .i64 lost], .int .i64 K] w fun e w' => e = .returned (.int .i64 ((kN K (qs.map (·.2)) n + 4 * nb + 6 * nl : Nat) : Int)) ∧ (∃ qs', MixT K qs n qs' ∧ OwnBx w' base p n c pb nb cb pl nl cl qs' (mksBd (kN K (qs.map (·.2)) n) nb) (mksLk (kN K (qs.map (·.2)) n + 4 * nb) nl)) ∧ Below base w w' ∧ ∀ b t l, ¬ BoxHas p pb pl qs b → Row w b t l → Row w' b t l := by
  have hl := h.lens
  have r0 := Row.new w 33 [.slice p n c, .slice pb nb cb, .slice pl nl cl, .int .i64 lost]
  have hB0 := (Below.refl base w).alloc hbs (.cells #[.slice p n c, .slice pb nb cb, .slice pl nl cl, .int .i64 lost] 33)
  have h0 := h.below (ent_new0 w (.cells #[.slice p n c, .slice pb nb cb, .slice pl nl cl, .int .i64 lost] 33))
  have HKp : Hid (∀ b t l, Row w b t l → Row (w.alloc (.cells #[.slice p n c, .slice pb nb cb, .slice pl nl cl, .int .i64 lost] 33)) b t l) := fun b t l h => h.alloc _
  have hsz : base ≤ (w.alloc (.cells #[.slice p n c, .slice pb nb cb, .slice pl nl cl, .int .i64 lost] 33)).heap.size := Nat.le_trans hbs (by simp)
  generalize hW : w.alloc (.cells #[.slice p n c, .slice pb nb cb, .slice pl nl cl, .int .i64 lost] 33) = W at *
  have HW : Hid _ := hW
  have HM : Hid (Calls Tryz.prog 33 #[.slice p n c, .int .i64 K] W fun e w' => e = .returned (.int .i64 ((kN K (qs.map (·.2)) n : Nat) : Int)) ∧ (∃ qs', MixT K qs n qs' ∧ OwnTs w' base p n c qs') ∧ Below base W w' ∧ ∀ b t l, p ≠ some ⟨b, 0, none⟩ → (∀ j (hj : j < qs.length), ¬ qs[j].1.has b) → Row W b t l → Row w' b t l) := markTenantS_any K p n c base qs W hl.1 (by omega) (by omega) hsz h0.1
  have HBd : Hid (∀ k w, k ≤ 100000000 → w.ownsRow base 77 4 (.slice pb nb cb) nb (rowBd bs) → Calls Tryz.prog 34 #[.slice pb nb cb, .int .i64 (k : Nat)] w fun e w' => e = .returned (.int .i64 ((k : Int) + 4 * (nb : Int))) ∧ w'.ownsRow base 77 4 (.slice pb nb cb) nb (rowBd (mksBd k nb)) ∧ Below base w w' ∧ ∀ b t l, pb ≠ some ⟨b, 0, none⟩ → Row w b t l → Row w' b t l) := fun k w a b => markBindS_own k pb nb cb base bs w hl.2.1 a (by omega) b
  have HLk : Hid (∀ k w, k ≤ 100000000 → w.ownsRow base 113 6 (.slice pl nl cl) nl (rowL ls) → Calls Tryz.prog 35 #[.slice pl nl cl, .int .i64 (k : Nat)] w fun e w' => e = .returned (.int .i64 ((k : Int) + 6 * (nl : Int))) ∧ w'.ownsRow base 113 6 (.slice pl nl cl) nl (rowL (mksLk k nl)) ∧ Below base w w' ∧ ∀ b t l, pl ≠ some ⟨b, 0, none⟩ → Row w b t l → Row w' b t l) := fun k w a b => markLeakS_own k pl nl cl base ls w hl.2.2 a (by omega) b
  have HH : Hid _ := And.intro h0 (And.intro r0 hB0)
  have HKK : Hid (kN K (qs.map (·.2)) n + 4 * nb + 6 * nl ≤ 100000000) := hK
  clear h hl h0 r0 hB0 hbs hsz hK hW
  go_enter Tryz.func12, Tryz.ntmps12
  go_wp2_with fail
  rw [HW.out]
  obtain ⟨h0, r0, hB⟩ := HH.out
  refine (HM.out).mono ?_
  rintro e w1 ⟨rfl, ⟨qs', hx, ot⟩, hb1, hk1⟩
  have r1 := hk1 _ _ _ (owns_ne h0.1.1 r0 (by decide)) (fun j hj => (h0.1.2.1 j hj).ne r0 (by decide)) r0
  have ob : w1.ownsRow base 77 4 (.slice pb nb cb) nb (rowBd bs) := owns_kept h0.2.1 fun b t l e r => hk1 b t l (owns_apart' h0.2.1 h0.1.1 (by decide) e) (fun j hj => by
    have o := h0.1.2.1 j hj
    rintro (e2 | e2 | e2 | e2)
    · exact owns_apart' h0.2.1 o.1 (by decide) e e2
    · exact owns_apart' h0.2.1 o.2.1 (by decide) e e2
    · exact owns_apart' h0.2.1 o.2.2.1 (by decide) e e2
    · exact owns_apart' h0.2.1 o.2.2.2 (by decide) e e2) r
  have ol : w1.ownsRow base 113 6 (.slice pl nl cl) nl (rowL ls) := owns_kept h0.2.2 fun b t l e r => hk1 b t l (owns_apart' h0.2.2 h0.1.1 (by decide) e) (fun j hj => by
    have o := h0.1.2.1 j hj
    rintro (e2 | e2 | e2 | e2)
    · exact owns_apart' h0.2.2 o.1 (by decide) e e2
    · exact owns_apart' h0.2.2 o.2.1 (by decide) e e2
    · exact owns_apart' h0.2.2 o.2.2.1 (by decide) e e2
    · exact owns_apart' h0.2.2 o.2.2.2 (by decide) e e2) r
  have HK1 : Hid (∀ b t l, ¬ BoxHas p pb pl qs b → Row w b t l → Row w1 b t l) := fun b t l hn h => hk1 b t l (fun e => hn (.inl e)) (fun j hj e => hn (.inr (.inr (.inr ⟨j, hj, e⟩)))) (HKp.out b t l h)
  replace hB := hB.trans hb1
  have HX : Hid _ := hx
  clear hb1 hk1 HM h0 r0 HKp HW HH hx
  have y1 : w1.cell? ⟨w.heap.size, 1, none⟩ = some (.slice pb nb cb) := r1.cell 1
  have y2 : w1.cell? ⟨w.heap.size, 2, none⟩ = some (.slice pl nl cl) := r1.cell 2
  go_wp2_with fail
  refine (HBd.out _ _ (by have := HKK.out; omega) ob).mono ?_
  rintro e w2 ⟨rfl, ob2, hb2, hk2⟩
  have ot2 := ot.kept (w' := w2) fun b t l hb r => hk2 b t l (fun e => by
      rcases hb with e2 | ⟨j, hj, e2⟩
      · exact owns_apart' ob ot.1 (by decide) e e2
      · have o := ot.2.1 j hj
        rcases e2 with e2 | e2 | e2 | e2
        · exact owns_apart' ob o.1 (by decide) e e2
        · exact owns_apart' ob o.2.1 (by decide) e e2
        · exact owns_apart' ob o.2.2.1 (by decide) e e2
        · exact owns_apart' ob o.2.2.2 (by decide) e e2) r
  have ol2 := owns_kept (w' := w2) ol fun b t l e r => hk2 b t l (owns_apart' ol ob (by decide) e) r
  have r2 := hk2 _ _ _ (owns_ne ob r1 (by decide)) r1
  have HK2 : Hid (∀ b t l, ¬ BoxHas p pb pl qs b → Row w b t l → Row w2 b t l) := fun b t l hn h => hk2 b t l (fun e => hn (.inr (.inl e))) (HK1.out b t l hn h)
  replace hB := hB.trans hb2
  clear hb2 hk2 HBd ob ot ol r1 y1 y2 HK1
  have y2 : w2.cell? ⟨w.heap.size, 2, none⟩ = some (.slice pl nl cl) := r2.cell 2
  have e1 : ((kN K (qs.map (·.2)) n : Nat) : Int) + 4 * (nb : Int) = ((kN K (qs.map (·.2)) n + 4 * nb : Nat) : Int) := by omega
  rw [e1]
  have HE1 : Hid _ := e1
  clear e1
  go_wp2_with fail
  refine (HLk.out (kN K (qs.map (·.2)) n + 4 * nb) _ (by have := HKK.out; omega) ol2).mono ?_
  rintro e w3 ⟨rfl, ol3, hb3, hk3⟩
  have ot3 := ot2.kept (w' := w3) fun b t l hb r => hk3 b t l (fun e => by
      rcases hb with e2 | ⟨j, hj, e2⟩
      · exact owns_apart' ol2 ot2.1 (by decide) e e2
      · have o := ot2.2.1 j hj
        rcases e2 with e2 | e2 | e2 | e2
        · exact owns_apart' ol2 o.1 (by decide) e e2
        · exact owns_apart' ol2 o.2.1 (by decide) e e2
        · exact owns_apart' ol2 o.2.2.1 (by decide) e e2
        · exact owns_apart' ol2 o.2.2.2 (by decide) e e2) r
  have ob3 := owns_kept (w' := w3) ob2 fun b t l e r => hk3 b t l (owns_apart' ob2 ol2 (by decide) e) r
  have HK3 : Hid (∀ b t l, ¬ BoxHas p pb pl qs b → Row w b t l → Row w3 b t l) := fun b t l hn h => hk3 b t l (fun e => hn (.inr (.inr (.inl e)))) (HK2.out b t l hn h)
  replace hB := hB.trans hb3
  clear hb3 hk3 HLk ob2 ot2 ol2 r2 y2 HK2
  have e2 : ((kN K (qs.map (·.2)) n + 4 * nb : Nat) : Int) + 6 * (nl : Int) = ((kN K (qs.map (·.2)) n + 4 * nb + 6 * nl : Nat) : Int) := by omega
  rw [e2]
  have HE2 : Hid _ := e2
  clear e2
  go_wp2
  go_ret
  exact ⟨rfl, ⟨qs', HX.out, ot3, ob3, ol3⟩, hB, HK3.out⟩
set_option maxRecDepth 100000 in
set_option maxHeartbeats 4000000 in
theorem heldBox_any (K : Nat) (p : Option Addr) (n c : Nat) (pb : Option Addr) (nb cb : Nat) (pl : Option Addr) (nl cl : Nat) (lost : Int) (ts : List Tn) (ps : List TnP) (w : World) (h8 : n ≤ 100000000 ∧ nb ≤ 100000000 ∧ nl ≤ 100000000) (hK : kN K ts n + 4 * nb + 6 * nl ≤ 100000000) (hn : n = ps.length) (hI : TensIn w p ps) (hM : ∀ j (hj : j < ps.length), ps[j].2 = mrkT (kN K ts j) ts[j]!) (hBd : BdsIn w pb (mksBd (kN K ts n) nb)) (hLk : LksIn w pl (mksLk (kN K ts n + 4 * nb) nl)) :
    Calls Tryz.prog 13 #[.agg #[.slice p n c, .slice pb nb cb, .slice pl nl cl, .int .i64 lost], .int .i64 K] w fun e w' => e = .returned (.int .i64 ((kN K ts n + 4 * nb + 6 * nl : Nat) : Int)) ∧ Below w.heap.size w w' := by
  have HM : Hid (Calls Tryz.prog 36 #[.slice p n c, .int .i64 K] (w.alloc (.cells #[.slice p n c, .slice pb nb cb, .slice pl nl cl, .int .i64 lost] 33)) fun e w' => e = .returned (.int .i64 ((kN K ts n : Nat) : Int)) ∧ Below (w.alloc (.cells #[.slice p n c, .slice pb nb cb, .slice pl nl cl, .int .i64 lost] 33)).heap.size (w.alloc (.cells #[.slice p n c, .slice pb nb cb, .slice pl nl cl, .int .i64 lost] 33)) w') := heldTenantS_any K p n c ts ps _ hn (by omega) (by omega) (hI.below (ent_new0 w (.cells #[.slice p n c, .slice pb nb cb, .slice pl nl cl, .int .i64 lost] 33))) hM
  have HBd : Hid (∀ W, Below w.heap.size w W → Calls Tryz.prog 37 #[.slice pb nb cb, .int .i64 ((kN K ts n : Nat) : Int)] W fun e w' => e = .returned (.int .i64 (((kN K ts n + 4 * nb : Nat) : Int))) ∧ W = w') := fun W hb => by
    have := heldBindS_ix (kN K ts n) pb nb cb W (by omega) (by omega) (hBd.below hb)
    rw [show ((kN K ts n : Nat) : Int) + 4 * (nb : Int) = ((kN K ts n + 4 * nb : Nat) : Int) by omega] at this
    exact this
  have HLk : Hid (∀ W, Below w.heap.size w W → Calls Tryz.prog 38 #[.slice pl nl cl, .int .i64 ((kN K ts n + 4 * nb : Nat) : Int)] W fun e w' => e = .returned (.int .i64 (((kN K ts n + 4 * nb + 6 * nl : Nat) : Int))) ∧ W = w') := fun W hb => by
    have := heldLeakS_ix (kN K ts n + 4 * nb) pl nl cl W (by omega) (by omega) (hLk.below hb)
    rw [show ((kN K ts n + 4 * nb : Nat) : Int) + 6 * (nl : Int) = ((kN K ts n + 4 * nb + 6 * nl : Nat) : Int) by omega] at this
    exact this
  have r0 := Row.new w 33 [.slice p n c, .slice pb nb cb, .slice pl nl cl, .int .i64 lost]
  have hB := ent_new0 w (.cells #[.slice p n c, .slice pb nb cb, .slice pl nl cl, .int .i64 lost] 33)
  have HQ : Hid _ := And.intro r0 hB
  have d1 : decide (((kN K ts n : Nat) : Int) < 0) = false := by simp
  have d2 : decide (((kN K ts n + 4 * nb : Nat) : Int) < 0) = false := by simp; omega
  have d3 : decide (((kN K ts n + 4 * nb + 6 * nl : Nat) : Int) < 0) = false := by simp; omega
  clear hn hI hM hBd hLk hK h8 r0 hB
  generalize ((kN K ts n + 4 * nb + 6 * nl : Nat) : Int) = K3 at *
  generalize ((kN K ts n + 4 * nb : Nat) : Int) = K2 at *
  generalize ((kN K ts n : Nat) : Int) = K1 at *
  go_enter Tryz.func13, Tryz.ntmps13
  go_wp2_with fail
  obtain ⟨r0, hB⟩ := HQ.out
  generalize w.alloc (.cells #[.slice p n c, .slice pb nb cb, .slice pl nl cl, .int .i64 lost] 33) = W at *
  refine (HM.out).mono ?_
  rintro e w1 ⟨rfl, hb1⟩
  replace r0 := r0.below hb1 r0.lt
  replace hB := hB.trans (hb1.mono hB.size)
  clear hb1 HM HQ
  have y1 : w1.cell? ⟨w.heap.size, 1, none⟩ = some (.slice pb nb cb) := r0.cell 1
  have y2 : w1.cell? ⟨w.heap.size, 2, none⟩ = some (.slice pl nl cl) := r0.cell 2
  go_wp2_with fail
  refine (HBd.out _ hB).mono ?_
  rintro e w2 ⟨rfl, rfl⟩
  go_wp2_with fail
  refine (HLk.out _ hB).mono ?_
  rintro e w2 ⟨rfl, rfl⟩
  clear HBd HLk y1 y2
  go_wp2
  go_ret
  exact ⟨rfl, hB⟩
end Go.Proofs.YtialedffpaoacaaGreatDoor
/- Boxes in a law's walk: answered, marked, each by the blocks it lies in. (By hand.) -/
namespace Go.Proofs.YtialedffpaoacaaGreatDoor
open Go.RowKit Go.Sort

/-- The lists of an answer stay small. -/
def SmX (TS : List Tn) (BS : List Bd) (LS : List Lk) : Prop := TS.length ≤ 1048576 ∧ BS.length ≤ 1048576 ∧ LS.length ≤ 1048576 ∧ (∀ e ∈ TS, TnS e) ∧ kN 1 TS TS.length + 4 * BS.length + 6 * LS.length ≤ 100000000
/-- An answer's Box: its blocks lie from lo on, below hi. -/
def AnsX (TS : List Tn) (BS : List Bd) (LS : List Lk) (lo hi : Nat) (W : World) (p : Option Addr) (c : Nat) (pb : Option Addr) (cb : Nat) (pl : Option Addr) (cl : Nat) : Prop := ∃ qs : List TnP, qs.map (·.2) = TS ∧ OwnBx W lo p TS.length c pb BS.length cb pl LS.length cl qs BS LS ∧ ∀ b, BoxHas p pb pl qs b → b < hi
/-- The same, marked. -/
def MrkX (TS : List Tn) (BS : List Bd) (LS : List Lk) (lo hi : Nat) (W : World) (p : Option Addr) (c : Nat) (pb : Option Addr) (cb : Nat) (pl : Option Addr) (cl : Nat) : Prop := ∃ qs qs' : List TnP, qs.map (·.2) = TS ∧ MixT 1 qs TS.length qs' ∧ OwnBx W lo p TS.length c pb BS.length cb pl LS.length cl qs' (mksBd (kN 1 TS TS.length) BS.length) (mksLk (kN 1 TS TS.length + 4 * BS.length) LS.length) ∧ ∀ b, BoxHas p pb pl qs b → b < hi
section
variable {TS : List Tn} {BS : List Bd} {LS : List Lk} {lo hi : Nat} {W W' : World} {p : Option Addr} {c : Nat} {pb : Option Addr} {cb : Nat} {pl : Option Addr} {cl : Nat}
theorem AnsX.keep (h : AnsX TS BS LS lo hi W p c pb cb pl cl) (hk : ∀ b t l, lo ≤ b → b < hi → Row W b t l → Row W' b t l) : AnsX TS BS LS lo hi W' p c pb cb pl cl := by
  obtain ⟨qs, e, ho, hh⟩ := h
  exact ⟨qs, e, ho.kept fun b t l hb r => hk b t l (ho.ge hb) (hh b hb) r, hh⟩
theorem MrkX.keep (h : MrkX TS BS LS lo hi W p c pb cb pl cl) (hk : ∀ b t l, lo ≤ b → b < hi → Row W b t l → Row W' b t l) : MrkX TS BS LS lo hi W' p c pb cb pl cl := by
  obtain ⟨qs, qs', e, hx, ho, hh⟩ := h
  exact ⟨qs, qs', e, hx, ho.kept fun b t l hb r => hk b t l (ho.ge hb) (hh b (boxHas_fst hx hb)) r, hh⟩
theorem AnsX.below (h : AnsX TS BS LS lo hi W p c pb cb pl cl) (hb : Below W.heap.size W W') : AnsX TS BS LS lo hi W' p c pb cb pl cl := h.keep fun _ _ _ _ _ r => r.below hb r.lt
theorem MrkX.below (h : MrkX TS BS LS lo hi W p c pb cb pl cl) (hb : Below W.heap.size W W') : MrkX TS BS LS lo hi W' p c pb cb pl cl := h.keep fun _ _ _ _ _ r => r.below hb r.lt
theorem AnsX.chg {a b : Nat} (h : AnsX TS BS LS lo hi W p c pb cb pl cl) (hc : Chg a b W W') (hd : hi ≤ a ∨ b ≤ lo) : AnsX TS BS LS lo hi W' p c pb cb pl cl := h.keep fun _ _ _ h1 h2 r => hc.row r (by omega)
theorem ansX_of {qs : List TnP} (e : qs.map (·.2) = TS) (h : OwnBx W lo p TS.length c pb BS.length cb pl LS.length cl qs BS LS) : AnsX TS BS LS lo W.heap.size W p c pb cb pl cl := ⟨qs, e, h, fun _ hb => h.lt hb⟩
theorem eqBoxA_any {lo' hi' : Nat} {p' : Option Addr} {c' : Nat} {pb' : Option Addr} {cb' : Nat} {pl' : Option Addr} {cl' : Nat} {lost : Int} (hn : SmX TS BS LS) (a : AnsX TS BS LS lo hi W p c pb cb pl cl) (b : AnsX TS BS LS lo' hi' W p' c' pb' cb' pl' cl') :
    Calls Tryz.prog 9 #[.agg #[.slice p TS.length c, .slice pb BS.length cb, .slice pl LS.length cl, .int .i64 lost], .agg #[.slice p' TS.length c', .slice pb' BS.length cb', .slice pl' LS.length cl', .int .i64 lost]] W fun e w' => e = .returned (.bool true) ∧ Below W.heap.size W w' := by
  obtain ⟨qs, e, ho, -⟩ := a
  obtain ⟨rs, e', ho', -⟩ := b
  have hl : TS.length = qs.length := by rw [← e, List.length_map]
  have hS : ∀ x ∈ qs, TnS x.2 := fun x hx => hn.2.2.2.1 _ (by rw [← e]; exact List.mem_map_of_mem hx)
  have := eqBox_any p c pb cb pl cl p' c' pb' cb' pl' cl' qs rs BS LS lost W ⟨ho.ins, ho'.ins⟩ (e.trans e'.symm) ⟨by rw [← hl]; exact hn.1, hn.2.1, hn.2.2.1, hS⟩
  rw [← hl] at this
  exact this
theorem markBoxA_any {lost : Int} (hn : SmX TS BS LS) (a : AnsX TS BS LS lo hi W p c pb cb pl cl) (hlo : lo ≤ W.heap.size) :
    Calls Tryz.prog 12 #[.agg #[.slice p TS.length c, .slice pb BS.length cb, .slice pl LS.length cl, .int .i64 lost], .int .i64 1] W fun e w' => e = .returned (.int .i64 ((kN 1 TS TS.length + 4 * BS.length + 6 * LS.length : Nat) : Int)) ∧ MrkX TS BS LS lo hi w' p c pb cb pl cl ∧ Chg lo hi W w' := by
  obtain ⟨qs, e, ho, hh⟩ := a
  have n1 := hn.1
  have n2 := hn.2.1
  have n3 := hn.2.2.1
  have := markBox_any 1 p TS.length c pb BS.length cb pl LS.length cl lost lo qs BS LS W (by omega) (by rw [e]; exact hn.2.2.2.2) hlo ho
  rw [e] at this
  refine this.mono ?_
  rintro e2 w' ⟨rfl, ⟨qs', hx, om⟩, hb, hk⟩
  exact ⟨rfl, ⟨qs, qs', e, hx, om, hh⟩, hb, fun b t l hb2 hr => hk b t l (fun h => by have := hh b h; omega) hr⟩
theorem heldBoxA_any {lost : Int} (hn : SmX TS BS LS) (a : MrkX TS BS LS lo hi W p c pb cb pl cl) :
    Calls Tryz.prog 13 #[.agg #[.slice p TS.length c, .slice pb BS.length cb, .slice pl LS.length cl, .int .i64 lost], .int .i64 1] W fun e w' => e = .returned (.int .i64 ((kN 1 TS TS.length + 4 * BS.length + 6 * LS.length : Nat) : Int)) ∧ Below W.heap.size W w' := by
  obtain ⟨qs, qs', e, hx, ho, hh⟩ := a
  have hl : TS.length = qs.length := by rw [← e, List.length_map]
  have n1 := hn.1
  have n2 := hn.2.1
  have n3 := hn.2.2.1
  have hin := ho.ins
  refine heldBox_any 1 p TS.length c pb BS.length cb pl LS.length cl lost TS qs' W (by omega) hn.2.2.2.2 (by rw [hx.1]; exact hl) hin.1 (fun j hj => ?_) hin.2.1 hin.2.2
  have hj' : j < qs.length := by rw [← hx.1]; exact hj
  rw [hx.2 j hj' hj, if_pos (by omega), e]
  show mrkT _ qs[j].2 = _
  congr 1
  rw [← e, map_atT hj']
end
end Go.Proofs.YtialedffpaoacaaGreatDoor
