/- Texts that stand on each other, in one file: RipOf, RipOfA, PlainI, RipReadI, WordS, FourS. -/
import Derived.Test.YtehiipddbgoajaaDoorPack1
import Derived.Test.YtehiipddbgoajaaDoorPack2
import Derived.Test.YtehiipddbgoajaaDoorTail
import Derived.Laws.ShiftsVarLaws
/- What routers say, read by the program: the loop of goto. (Written by gen_ripof.py.) -/
namespace Go.Proofs.YtehiipddbgoajaaDoor
open Go.RowKit Go.Sort

theorem stab_ent (n : Nat) (l : List Value) : ∀ (x : Value) (w1 w2 : World), (∃ g, x = .slice (some ⟨g, 0, none⟩) n n ∧ Row w1 g 44 l) → Below w1.heap.size w1 w2 → ∃ g, x = .slice (some ⟨g, 0, none⟩) n n ∧ Row w2 g 44 l := by
  rintro x w1 w2 ⟨g, e, h⟩ hb
  exact ⟨g, e, h.below hb h.lt⟩
def slLen : Value → Nat
  | .slice _ n _ => n
  | _ => 0
def ofMu (l : Nat) (a : Act) (_ : World) : Nat := if l = 1 then slLen (a.tmps.getD 7 undef) + 1 else 0
/-- The state of the loop: k entries have been read, the rest (n bytes) lies from 'off' on. -/
def OfSt (b : List UInt8) (g : Nat) (w : World) (k off n : Nat) (p : Option Addr) (cv : Nat) (C : Int) (W : World) : Prop :=
  n = ((b.drop 4).drop (20 * k)).length ∧ EntsTo (b.drop 4) k ∧ BytesIn W g off ((b.drop 4).drop (20 * k)) ∧ Row W w.heap.size 24 [.int .i64 0, .slice none 0 0] ∧ Row W (w.heap.size + 1) 24 [.int .i64 C, .slice p k cv] ∧ OwnE W (w.heap.size + 2) (.slice p k cv) (readEs (b.drop 4) k) ∧ Below w.heap.size w W
theorem OfSt.below {b : List UInt8} {g : Nat} {w : World} {k off n : Nat} {p : Option Addr} {cv : Nat} {C : Int} {W W' : World} (h : OfSt b g w k off n p cv C W) (hg : g < w.heap.size) (hb : Below W.heap.size W W') : OfSt b g w k off n p cv C W' := by
  obtain ⟨h1, h2, h3, h4, h5, h6, h7⟩ := h
  exact ⟨h1, h2, h3.below hb (by have := h7.size; omega), h4.below hb h4.lt, h5.below hb h5.lt, h6.below hb, h7.trans (hb.mono h7.size)⟩
theorem OfSt.grown {b : List UInt8} {g : Nat} {w : World} {k off n : Nat} {p : Option Addr} {cv : Nat} {C : Int} {W W' : World} (h : OfSt b g w k off n p cv C W) (hg : g < w.heap.size) (hb : Below (w.heap.size + 2) W W') :
    BytesIn W' g off ((b.drop 4).drop (20 * k)) ∧ Row W' w.heap.size 24 [.int .i64 0, .slice none 0 0] ∧ Row W' (w.heap.size + 1) 24 [.int .i64 C, .slice p k cv] ∧ Below w.heap.size w W' := by
  obtain ⟨h1, h2, h3, h4, h5, h6, h7⟩ := h
  exact ⟨h3.below hb (by omega), h4.below hb (by omega), h5.below hb (by omega), h7.trans (hb.mono (by omega))⟩
theorem ofSt_next {b : List UInt8} {g : Nat} {w : World} {k off n : Nat} {p : Option Addr} {cv : Nat} {C : Int} {W : World} {p4 : Option Addr} {cv4 : Nat} (hn : n = ((b.drop 4).drop (20 * k)).length) (h20 : 20 ≤ n) (hg : g < w.heap.size)
    (hto : EntsTo (b.drop 4) (k + 1)) (hBy : BytesIn W g off ((b.drop 4).drop (20 * k))) (hr0 : Row W w.heap.size 24 [.int .i64 0, .slice none 0 0]) (hr1 : Row W (w.heap.size + 1) 24 [.int .i64 C, .slice p k cv]) (how : OwnE W (w.heap.size + 2) (.slice p4 (k + 1) cv4) (readEs (b.drop 4) (k + 1))) (hbl : Below w.heap.size w W) :
    OfSt b g w (k + 1) (if n = 20 then off else off + 20) (n - 20) p4 cv4 C (W.setCell ⟨w.heap.size + 1, 1, none⟩ (.slice p4 (k + 1) cv4)) := by
  have hd : ((b.drop 4).drop (20 * k)).drop 20 = (b.drop 4).drop (20 * (k + 1)) := by rw [List.drop_drop]; congr 1
  have hB := (Below.refl (w.heap.size + 1) W).setCell (p := ⟨w.heap.size + 1, 1, none⟩) (Nat.le_refl _) (.slice p4 (k + 1) cv4)
  have hP := hBy.piece 20 n (by omega) h20
  rw [List.take_of_length_le (by omega), hd] at hP
  refine ⟨by rw [← hd, List.length_drop]; omega, hto, hP.below hB (by omega), hr0.other 1 _ (by omega), hr1.set 1 _, how.set _ (by show w.heap.size + 1 < w.heap.size + 2; omega) _, hbl.setCell (p := ⟨w.heap.size + 1, 1, none⟩) (by show w.heap.size ≤ w.heap.size + 1; omega) _⟩
/-- At a label: 0 is 'mark', 1 'more', 2 'end'. -/
def OfAt (b : List UInt8) (g cap : Nat) (w : World) (C : Int) (l : Nat) (a : Act) (W : World) : Prop :=
  ∃ (x8 x9 x10 x11 x12 x13 x14 x15 x16 x17 x18 x19 x20 x21 x22 x23 x24 x25 x26 x27 x28 x29 x30 x31 x32 x33 x34 x35 x36 x37 x38 x39 x40 x41 x42 x43 x44 x45 x46 x47 x48 x49 x50 x51 x52 x53 x54 x55 x56 x57 x58 x59 x60 x61 x62 x63 x64 x65 x66 : Value) (k off n : Nat) (p : Option Addr) (cv : Nat), a = ⟨#[.slice (some ⟨g, 0, none⟩) b.length cap, undef, .pointer (some ⟨w.heap.size, 0, none⟩), .int .i64 0, .nilIface, .pointer (some ⟨w.heap.size + 1, 0, none⟩), .int .i64 0, .slice (some ⟨g, off, none⟩) n n, x8, x9, x10, x11, x12, x13, x14, x15, x16, x17, x18, x19, x20, x21, x22, x23, x24, x25, x26, x27, x28, x29, x30, x31, x32, x33, x34, x35, x36, x37, x38, x39, x40, x41, x42, x43, x44, x45, x46, x47, x48, x49, x50, x51, x52, x53, x54, x55, x56, x57, x58, x59, x60, x61, x62, x63, x64, x65, x66], []⟩ ∧
    OfSt b g w k off n p cv C W ∧ (l = 0 → isMark ((b.drop 4).drop (20 * k))) ∧ (l = 2 → ¬ isMark ((b.drop 4).drop (20 * k))) ∧ (l ≠ 1 → ¬ isEnt ((b.drop 4).drop (20 * k))) ∧ l ≤ 2
/-- What the loop hands back. -/
def OfOut (b : List UInt8) (A : Nat → Addr) (w w' : World) (e : Ending) : Prop :=
  match ripOfR b with
  | none => e = .returned (.tuple #[.agg #[.int .i64 0, .slice none 0 0], .int .i64 0, errV (A 4)]) ∧ Below w.heap.size w w'
  | some (c, es, q) => ∃ v, e = .returned (.tuple #[.agg #[.int .i64 c, v], .int .i64 q, .nilIface]) ∧ OwnE w' w.heap.size v es ∧ Below w.heap.size w w'
theorem OfOut.no {b : List UInt8} {A : Nat → Addr} {w w' : World} {e : Ending} (h : ripOfR b = none) (he : e = .returned (.tuple #[.agg #[.int .i64 0, .slice none 0 0], .int .i64 0, errV (A 4)])) (hb : Below w.heap.size w w') : OfOut b A w w' e := by
  unfold OfOut; rw [h]; exact ⟨he, hb⟩
theorem OfOut.yes {b : List UInt8} {A : Nat → Addr} {w w' : World} {e : Ending} {c q : Int} {es : List Ent} (h : ripOfR b = some (c, es, q)) (v : Value) (he : e = .returned (.tuple #[.agg #[.int .i64 c, v], .int .i64 q, .nilIface])) (ho : OwnE w' w.heap.size v es) (hb : Below w.heap.size w w') : OfOut b A w w' e := by
  unfold OfOut; rw [h]; exact ⟨v, he, ho, hb⟩
theorem readE_cut (l : List UInt8) : readE (cutL l 0 20) = readE l := by
  have e : ∀ a b, b ≤ 20 → cutL (cutL l 0 20) a b = cutL l a b := fun a b hb => by
    simp only [cutL, List.drop_zero, List.take_take]
    rw [Nat.min_eq_left hb]
  unfold readE
  rw [e 4 8 (by omega), e 8 12 (by omega), e 12 16 (by omega), e 16 20 (by omega), e 2 4 (by omega)]
theorem entsTo_next {l : List UInt8} {k : Nat} (h : EntsTo l k) (he : isEnt (l.drop (20 * k))) : EntsTo l (k + 1) := by
  have h1 := he.1
  rw [List.length_drop] at h1
  refine ⟨by omega, fun j hj => ?_⟩
  rcases Nat.lt_or_ge j k with h2 | h2
  · exact h.2 j h2
  · obtain rfl : j = k := by omega
    exact he
theorem bel_two {w W : World} (h : Below w.heap.size w W) {x y : Value} : Below w.heap.size w (((W.setCell ⟨w.heap.size, 0, none⟩ x).setCell ⟨w.heap.size, 1, none⟩ y).drew) :=
  ((h.setCell (p := ⟨w.heap.size, 0, none⟩) (Nat.le_refl _) _).setCell (p := ⟨w.heap.size, 1, none⟩) (Nat.le_refl _) _).drew
theorem ofSt_first {b : List UInt8} {g : Nat} {w : World} (h4 : 4 ≤ b.length) (hB : BytesIn w g 0 b) (hg : g < w.heap.size) (C : Int) :
    OfSt b g w 0 (if b.length = 4 then 0 else 0 + 4) (b.length - 4) none 0 C ((w.alloc (.cells #[.int .i64 0, .slice none 0 0] 24)).alloc (.cells #[.int .i64 C, .slice none 0 0] 24)) := by
  have hb : Below w.heap.size w ((w.alloc (.cells #[.int .i64 0, .slice none 0 0] 24)).alloc (.cells #[.int .i64 C, .slice none 0 0] 24)) := (ent_new0 w _).alloc (by simp) _
  have hP := (hB.below hb hg).piece 4 b.length (Nat.le_refl _) h4
  rw [List.take_length] at hP
  have q0 := (Row.new w 24 [.int .i64 0, .slice none 0 0]).alloc (.cells #[.int .i64 C, .slice none 0 0] 24)
  have q1 := Row.new (w.alloc (.cells #[.int .i64 0, .slice none 0 0] 24)) 24 [.int .i64 C, .slice none 0 0]
  rw [show (w.alloc (.cells #[.int .i64 0, .slice none 0 0] 24)).heap.size = w.heap.size + 1 by simp] at q1
  exact ⟨by simp, ⟨by omega, fun j hj => absurd hj (by omega)⟩, hP, q0, q1, OwnE.nil _ _, hb⟩
set_option maxRecDepth 100000 in
set_option maxHeartbeats 4000000 in
theorem ripOf_in (b : List UInt8) (g cap : Nat) (w : World) (A : Nat → Addr) (h4 : 4 ≤ b.length) (hh : numL (cutL b 1 4) = 131072) (hz : b.length ≤ 8000) (hc : b.length ≤ cap) (hB : BytesIn w g 0 b) (hg : g < w.heap.size) (hE : ErrsIn w A) :
    Calls Tryd.prog 35 #[.slice (some ⟨g, 0, none⟩) b.length cap] w fun e w' => OfOut b A w w' e := by
  have HP1 : Hid (∀ w, Calls Tryd.prog 51 #[.slice (some ⟨g, 0, none⟩) b.length cap, .int .i64 1, .int .i64 4] w fun e w' => e = .returned (.slice (some ⟨g, 1, none⟩) 3 3) ∧ w = w') := piece_off g 0 b.length cap 1 4 1 4 rfl rfl (by omega) (by omega) _ _ rfl rfl
  have HN1 : Hid (∀ w, BytesIn w g 1 (cutL b 1 4) → Calls Tryd.prog 50 #[.slice (some ⟨g, 1, none⟩) 3 3] w fun e w' => e = .returned (.int .i64 131072) ∧ w = w') := fun w h => by
    have := number_off b g 1 1 4 3 rfl (by omega) (by omega) w h
    rw [hh] at this
    exact this
  have HP2 : Hid (∀ w, Calls Tryd.prog 51 #[.slice (some ⟨g, 0, none⟩) b.length cap, .int .i64 0, .int .i64 1] w fun e w' => e = .returned (.slice (some ⟨g, 0, none⟩) 1 1) ∧ w = w') := piece_off g 0 b.length cap 0 1 0 1 rfl rfl (by omega) (by omega) _ _ rfl rfl
  have HN2 : Hid (∀ w, BytesIn w g 0 (cutL b 0 1) → Calls Tryd.prog 50 #[.slice (some ⟨g, 0, none⟩) 1 1] w fun e w' => e = .returned (.int .i64 (numL (cutL b 0 1) : Nat)) ∧ w = w') := number_off b g 0 0 1 1 rfl (by omega) (by omega)
  have HB : Hid (∀ (W : World) x y p, Below w.heap.size w W → y ≤ b.length → x < y → p = 0 + x → BytesIn W g p (cutL b x y)) := fun W x y p hW hy hxy hp => (hB.below hW hg).off x y hy hxy p hp
  have HP3 : Hid (∀ w, Calls Tryd.prog 51 #[.slice (some ⟨g, 0, none⟩) b.length cap, .int .i64 4, .int .i64 (b.length : Int)] w fun e w' => e = .returned (.slice (some ⟨g, if b.length = 4 then 0 else 0 + 4, none⟩) (b.length - 4) (b.length - 4)) ∧ w = w') := fun w => piece_any g 0 b.length cap 4 b.length w (by omega) hc
  have HBG : Hid (∀ off n k (W : World) gm, n = ((b.drop 4).drop (20 * k)).length → BytesIn W g off ((b.drop 4).drop (20 * k)) → g < W.heap.size → Row W gm 2 [.int .i64 65535, .int .i64 3] → Calls Tryd.prog 52 #[.slice (some ⟨g, off, none⟩) n n, .int .i64 8, .slice (some ⟨gm, 0, none⟩) 2 2] W fun e w' => e = .returned (.bool (decide (isMark ((b.drop 4).drop (20 * k))))) ∧ Below W.heap.size W w') := fun off n k W gm hn h1 h2 h3 => by
    subst hn
    exact begins_any g off _ ((b.drop 4).drop (20 * k)) 8 gm [65535, 3] W h1 h2 (Nat.le_refl _) h3 (by simp) (by simp) (by intro x hx; simp only [List.mem_cons, List.not_mem_nil, or_false] at hx; omega)
  have HBE : Hid (∀ off n k (W : World) gm, n = ((b.drop 4).drop (20 * k)).length → BytesIn W g off ((b.drop 4).drop (20 * k)) → g < W.heap.size → Row W gm 2 [.int .i64 2] → Calls Tryd.prog 52 #[.slice (some ⟨g, off, none⟩) n n, .int .i64 20, .slice (some ⟨gm, 0, none⟩) 1 1] W fun e w' => e = .returned (.bool (decide (isEnt ((b.drop 4).drop (20 * k))))) ∧ Below W.heap.size W w') := fun off n k W gm hn h1 h2 h3 => by
    subst hn
    exact begins_any g off _ ((b.drop 4).drop (20 * k)) 20 gm [2] W h1 h2 (Nat.le_refl _) h3 (by simp) (by simp) (by intro x hx; simp only [List.mem_cons, List.not_mem_nil, or_false] at hx; omega)
  have HRR : Hid (∀ (C : Int) p cv (es : List Ent) (k : Nat) (W : World), es.length = k → k ≤ 8000 → EntsIn W p es → Calls Tryd.prog 54 #[.agg #[.int .i64 C, .slice p k cv]] W fun e w' => e = .returned (.bool (ripB C es)) ∧ Below W.heap.size W w') := fun C p cv es k W hk h8 h => by
    subst hk
    exact implRipRight_any C p cv es W h (by omega)
  have HRM : Hid (∀ k, EntsTo (b.drop 4) k → ¬ isEnt ((b.drop 4).drop (20 * k)) → isMark ((b.drop 4).drop (20 * k)) → ripOfR b = if inSeq (markN ((b.drop 4).drop (20 * k))) = true ∧ ((b.drop 4).drop (20 * k)).length = 8 ∧ ripB (numL (cutL b 0 1) : Nat) (readEs (b.drop 4) k) = true then some (((numL (cutL b 0 1) : Nat) : Int), readEs (b.drop 4) k, markN ((b.drop 4).drop (20 * k))) else none) := fun k h1 h2 h3 => ripOfR_mark h4 hh k h1 h2 h3
  have HRE : Hid (∀ k, EntsTo (b.drop 4) k → ¬ isEnt ((b.drop 4).drop (20 * k)) → ¬ isMark ((b.drop 4).drop (20 * k)) → ripOfR b = if ((b.drop 4).drop (20 * k)).length = 0 ∧ ripB (numL (cutL b 0 1) : Nat) (readEs (b.drop 4) k) = true then some (((numL (cutL b 0 1) : Nat) : Int), readEs (b.drop 4) k, (0 : Int)) else none) := fun k h1 h2 h3 => ripOfR_end h4 hh k h1 h2 h3
  have d4 : decide ((b.length : Int) < 4) = false := by simp; omega
  generalize ((numL (cutL b 0 1) : Nat) : Int) = C at *
  go_enter Tryd.func35, Tryd.ntmps35
  go_wp2_with fail
  refine wp_scope_labels (OfAt b g cap w C) ofMu ?_ ?_
  · go_wp2_with fail
    refine (HP1.out _).mono ?_
    rintro e w1 ⟨rfl, rfl⟩
    go_wp2_with fail
    refine (HN1.out _ (HB.out _ 1 4 _ (ent_new0 w _) (by omega) (by omega) rfl)).mono ?_
    rintro e w1 ⟨rfl, rfl⟩
    go_wp2_with fail
    refine (HP2.out _).mono ?_
    rintro e w1 ⟨rfl, rfl⟩
    go_wp2_with fail
    refine (HN2.out _ (HB.out _ 0 1 _ (ent_new0 w _) (by omega) (by omega) rfl)).mono ?_
    rintro e w1 ⟨rfl, rfl⟩
    go_wp2_with fail
    refine (HP3.out _).mono ?_
    rintro e w1 ⟨rfl, rfl⟩
    have HST : Hid (OfSt b g w 0 (if b.length = 4 then 0 else 0 + 4) (b.length - 4) none 0 C ((w.alloc (.cells #[.int .i64 0, .slice none 0 0] 24)).alloc (.cells #[.int .i64 C, .slice none 0 0] 24))) := ofSt_first h4 hB hg C
    generalize hWW : ((w.alloc (.cells #[.int .i64 0, .slice none 0 0] 24)).alloc (.cells #[.int .i64 C, .slice none 0 0] 24)) = W at *
    clear hWW
    generalize (if b.length = 4 then 0 else 0 + 4) = off at *
    generalize b.length - 4 = n at *
    clear HP1 HN1 HP2 HN2 HP3 HB d4
    obtain ⟨k, p, cv, hST2⟩ : ∃ k p cv, OfSt b g w k off n p cv C W := ⟨0, none, 0, HST.out⟩
    have HST : Hid (OfSt b g w k off n p cv C W) := hST2
    clear hST2
    go_wp2_with fail
    go_step3
    obtain ⟨hnl, hto, hBy, hr0, hr1, how, hbl⟩ := HST.out
    have HNL : Hid (n = ((b.drop 4).drop (20 * k)).length) := hnl
    have hgl : g < W.heap.size := by have := hbl.size; omega
    have hl0 := hr0.lt
    have hl1 := hr1.lt
    clear hnl
    go_wp2_with fail
    refine (HBG.out off n k _ _ HNL.out (hBy.below (ent_new0 W _) hgl) (by simp; omega) (Row.new W 2 [.int .i64 65535, .int .i64 3])).mono ?_
    rintro e w1 ⟨rfl, hb1⟩
    have hB1 : Below W.heap.size W w1 := (ent_new0 W _).trans (hb1.mono (by simp))
    have HS1 : Hid (OfSt b g w k off n p cv C w1) := HST.out.below hg hB1
    clear hb1 hBy hr0 hr1 how
    by_cases hm : isMark ((b.drop 4).drop (20 * k))
    · rw [decide_eq_true hm]
      go_wp2_with fail
      go_step3
      exact ⟨_, _, _, _, _, _, _, _, _, _, _, _, _, _, _, _, _, _, _, _, _, _, _, _, _, _, _, _, _, _, _, _, _, _, _, _, _, _, _, _, _, _, _, _, _, _, _, _, _, _, _, _, _, _, _, _, _, _, _, k, off, n, p, cv, rfl, HS1.out, fun _ => hm, fun h => absurd h (by omega), fun _ h => ent_mark h hm, by omega⟩
    · rw [decide_eq_false hm]
      have hgl1 : g < w1.heap.size := by have := hB1.size; omega
      have hBy1 := HS1.out.2.2.1
      go_wp2_with fail
      refine (HBE.out off n k _ _ HNL.out (hBy1.below (ent_new0 w1 _) hgl1) (by simp; omega) (Row.new w1 2 [.int .i64 2])).mono ?_
      rintro e w2 ⟨rfl, hb2⟩
      have hB2 : Below w1.heap.size w1 w2 := (ent_new0 w1 _).trans (hb2.mono (by simp))
      have HS2 : Hid (OfSt b g w k off n p cv C w2) := HS1.out.below hg hB2
      clear hb2 hBy1 hgl1 HS1
      by_cases he : isEnt ((b.drop 4).drop (20 * k))
      · rw [decide_eq_true he]
        have h20 : 20 ≤ n := by rw [HNL.out]; exact he.1
        obtain ⟨-, hto1, hBy2, hr02, hr12, how2, hbl2⟩ := HS2.out
        have hs1 := hB1.size
        have hs2 := hB2.size
        have hgl2 : g < w2.heap.size := by omega
        have HR : Hid (Row w2 (w.heap.size + 1) 24 [.int .i64 C, .slice p k cv]) := hr12
        have HY : Hid (BytesIn w2 g off ((b.drop 4).drop (20 * k))) := hBy2
        have HO : Hid (OwnE w2 (w.heap.size + 2) (.slice p k cv) (readEs (b.drop 4) k)) := how2
        have HPC : Hid (∀ w', Calls Tryd.prog 51 #[.slice (some ⟨g, off, none⟩) n n, .int .i64 0, .int .i64 20] w' fun e w'' => e = .returned (.slice (some ⟨g, off, none⟩) 20 20) ∧ w' = w'') := piece_off g off _ _ 0 20 0 20 rfl rfl (by omega) h20 _ _ rfl rfl
        have HEO : Hid (∀ w', BytesIn w' g off (cutL ((b.drop 4).drop (20 * k)) 0 20) → g < w'.heap.size → Calls Tryd.prog 53 #[.slice (some ⟨g, off, none⟩) 20 20] w' fun e w'' => e = .returned (entV (readE (cutL ((b.drop 4).drop (20 * k)) 0 20))) ∧ Below w'.heap.size w' w'') := fun w' h1 h2 => entryOf_any _ g off w' (by rw [cutL_length _ _ _ he.1]) h1 h2
        have HCUT : Hid (∀ w', Below w2.heap.size w2 w' → BytesIn w' g off (cutL ((b.drop 4).drop (20 * k)) 0 20)) := fun w' h => (HY.out.below h hgl2).off 0 20 he.1 (by omega) _ rfl
        have hre : readE (cutL ((b.drop 4).drop (20 * k)) 0 20) = readE ((b.drop 4).drop (20 * k)) := readE_cut _
        rw [hre] at HEO
        have HNX : Hid (readEs (b.drop 4) (k + 1) = readEs (b.drop 4) k ++ [readE ((b.drop 4).drop (20 * k))]) := rfl
        have hto2 : EntsTo (b.drop 4) (k + 1) := entsTo_next hto1 he
        have HTO : Hid (EntsTo (b.drop 4) (k + 1)) := hto2
        have hkk : (readEs (b.drop 4) k).length ≤ 1000000 := by have h0 := hto2.1; rw [List.length_drop] at h0; rw [readEs_length]; omega
        have HPR : Hid (∀ w', Calls Tryd.prog 51 #[.slice (some ⟨g, off, none⟩) n n, .int .i64 20, .int .i64 (n : Int)] w' fun e w'' => e = .returned (.slice (some ⟨g, if n = 20 then off else off + 20, none⟩) (n - 20) (n - 20)) ∧ w' = w'') := fun w' => piece_any g off _ _ 20 _ w' h20 (Nat.le_refl _)
        have HEV : Hid (∃ E, readE ((b.drop 4).drop (20 * k)) = E) := ⟨_, rfl⟩
        obtain ⟨⟨ea, el, en, em, et⟩, hEV⟩ := HEV.out
        rw [hEV] at HEO HNX
        unfold entV at HEO
        simp only at HEO
        clear HEV hEV hre hr02 hr12 how2 hBy2 hto2 hto1
        go_wp2_with fail
        have hGN : (([(34, Is (.pointer (some ⟨w.heap.size + 1, 1, none⟩))), (35, Is (.slice p k cv)), (36, Is (.slice (some ⟨g, off, none⟩) n n)), (37, Is (.slice (some ⟨g, off, none⟩) 20 20)), (38, Is (.agg #[.int .i64 ea, .int .i64 el, .int .i64 en, .int .i64 em, .int .i64 et])), (39, fun x W' => ∃ gx, x = .slice (some ⟨gx, 0, none⟩) 1 1 ∧ Row W' gx 44 (entL ⟨ea, el, en, em, et⟩))] : List (Nat × (Value → World → Prop))).map (·.1)).Nodup := by simp
        refine wp_region_steady 6 (SlotG [(34, Is (.pointer (some ⟨w.heap.size + 1, 1, none⟩))), (35, Is (.slice p k cv)), (36, Is (.slice (some ⟨g, off, none⟩) n n)), (37, Is (.slice (some ⟨g, off, none⟩) 20 20)), (38, Is (.agg #[.int .i64 ea, .int .i64 el, .int .i64 en, .int .i64 em, .int .i64 et])), (39, fun x W' => ∃ gx, x = .slice (some ⟨gx, 0, none⟩) 1 1 ∧ Row W' gx 44 (entL ⟨ea, el, en, em, et⟩))]) (by kernel_rfl) (by kernel_rfl) (Stabs.all ⟨stab_is _, stab_is _, stab_is _, stab_is _, stab_is _, stab_ent _ _, trivial⟩) ?_ ?_
        · intro o ho
          simp only [List.take_succ_cons, List.take_zero, List.mem_cons, List.not_mem_nil, or_false] at ho
          rcases ho with rfl | rfl | rfl | rfl | rfl | rfl
          · intro a' w' hb ha hdep
            have d5 : a'.tmps.getD 5 undef = .pointer (some ⟨w.heap.size + 1, 0, none⟩) := ha.at 5 (by kernel_rfl)
            have hmk := fun (x : Value) (W : World) => SlotG.mk (x := x) (w := W) 0 rfl hGN
            clear hGN ha hdep
            go_simp
            exact ⟨_, rfl, Below.refl _ _, hmk _ _ rfl⟩
          · intro a' w' hb ha hdep
            have d34 : a'.tmps.getD 34 undef = .pointer (some ⟨w.heap.size + 1, 1, none⟩) := (hdep 34 (of_decide_eq_true (by kernel_rfl))).is 0 rfl
            have hmk := fun (x : Value) (W : World) => SlotG.mk (x := x) (w := W) 1 rfl hGN
            clear hGN ha hdep
            have c1 : w'.cell? ⟨w.heap.size + 1, 1, none⟩ = some (.slice p k cv) := (HR.out.below hb HR.out.lt).cell 1
            go_simp
            exact ⟨_, rfl, Below.refl _ _, hmk _ _ rfl⟩
          · intro a' w' hb ha hdep
            have d7 : a'.tmps.getD 7 undef = .slice (some ⟨g, off, none⟩) n n := ha.at 7 (by kernel_rfl)
            have hmk := fun (x : Value) (W : World) => SlotG.mk (x := x) (w := W) 2 rfl hGN
            clear hGN ha hdep
            go_simp
            exact ⟨_, rfl, Below.refl _ _, hmk _ _ rfl⟩
          · intro a' w' hb ha hdep
            have d36 : a'.tmps.getD 36 undef = .slice (some ⟨g, off, none⟩) n n := (hdep 36 (of_decide_eq_true (by kernel_rfl))).is 2 rfl
            have hmk := fun (x : Value) (W : World) => SlotG.mk (x := x) (w := W) 3 rfl hGN
            clear hGN ha hdep
            go_simp
            refine (HPC.out _).mono ?_
            rintro e w2 ⟨rfl, rfl⟩
            exact ⟨_, rfl, Below.refl _ _, hmk _ _ rfl⟩
          · intro a' w' hb ha hdep
            have d37 : a'.tmps.getD 37 undef = .slice (some ⟨g, off, none⟩) 20 20 := (hdep 37 (of_decide_eq_true (by kernel_rfl))).is 3 rfl
            have hmk := fun (x : Value) (W : World) => SlotG.mk (x := x) (w := W) 4 rfl hGN
            clear hGN ha hdep
            go_simp
            refine (HEO.out _ (HCUT.out _ hb) (by have := hb.size; omega)).mono ?_
            rintro e w2 ⟨rfl, hb2⟩
            exact ⟨_, rfl, hb2, hmk _ _ rfl⟩
          · intro a' w' hb ha hdep
            have d38 : a'.tmps.getD 38 undef = .agg #[.int .i64 ea, .int .i64 el, .int .i64 en, .int .i64 em, .int .i64 et] := (hdep 38 (of_decide_eq_true (by kernel_rfl))).is 4 rfl
            have hmk := fun (x : Value) (W : World) => SlotG.mk (x := x) (w := W) 5 rfl hGN
            clear hGN ha hdep
            rw [Array.getD_eq_getD_getElem?] at d38
            go_simp
            exact ⟨_, rfl, ent_new0 _ _, hmk _ _ ⟨_, rfl, Row.new w' 44 _⟩⟩
        · intro a' w' hb ha hG
          clear hGN
          have d35 : a'.tmps.getD 35 undef = .slice p k cv := (hG _ (List.mem_of_getElem? (i := 1) rfl) 35 rfl).is 1 rfl
          have D39 := (hG _ (List.mem_of_getElem? (i := 5) rfl) 39 rfl).get 5 rfl
          have d0 : a'.tmps.getD 0 undef = .slice (some ⟨g, 0, none⟩) b.length cap := ha.at 0 (by kernel_rfl)
          have d1 : a'.tmps.getD 1 undef = undef := ha.at 1 (by kernel_rfl)
          have d2 : a'.tmps.getD 2 undef = .pointer (some ⟨w.heap.size, 0, none⟩) := ha.at 2 (by kernel_rfl)
          have d3 : a'.tmps.getD 3 undef = .int .i64 0 := ha.at 3 (by kernel_rfl)
          have d4 : a'.tmps.getD 4 undef = .nilIface := ha.at 4 (by kernel_rfl)
          have d5 : a'.tmps.getD 5 undef = .pointer (some ⟨w.heap.size + 1, 0, none⟩) := ha.at 5 (by kernel_rfl)
          have d6 : a'.tmps.getD 6 undef = .int .i64 0 := ha.at 6 (by kernel_rfl)
          have d7 : a'.tmps.getD 7 undef = .slice (some ⟨g, off, none⟩) n n := ha.at 7 (by kernel_rfl)
          have e2 : a' = ⟨#[a'.tmps.getD 0 undef, a'.tmps.getD 1 undef, a'.tmps.getD 2 undef, a'.tmps.getD 3 undef, a'.tmps.getD 4 undef, a'.tmps.getD 5 undef, a'.tmps.getD 6 undef, a'.tmps.getD 7 undef, a'.tmps.getD 8 undef, a'.tmps.getD 9 undef, a'.tmps.getD 10 undef, a'.tmps.getD 11 undef, a'.tmps.getD 12 undef, a'.tmps.getD 13 undef, a'.tmps.getD 14 undef, a'.tmps.getD 15 undef, a'.tmps.getD 16 undef, a'.tmps.getD 17 undef, a'.tmps.getD 18 undef, a'.tmps.getD 19 undef, a'.tmps.getD 20 undef, a'.tmps.getD 21 undef, a'.tmps.getD 22 undef, a'.tmps.getD 23 undef, a'.tmps.getD 24 undef, a'.tmps.getD 25 undef, a'.tmps.getD 26 undef, a'.tmps.getD 27 undef, a'.tmps.getD 28 undef, a'.tmps.getD 29 undef, a'.tmps.getD 30 undef, a'.tmps.getD 31 undef, a'.tmps.getD 32 undef, a'.tmps.getD 33 undef, a'.tmps.getD 34 undef, a'.tmps.getD 35 undef, a'.tmps.getD 36 undef, a'.tmps.getD 37 undef, a'.tmps.getD 38 undef, a'.tmps.getD 39 undef, a'.tmps.getD 40 undef, a'.tmps.getD 41 undef, a'.tmps.getD 42 undef, a'.tmps.getD 43 undef, a'.tmps.getD 44 undef, a'.tmps.getD 45 undef, a'.tmps.getD 46 undef, a'.tmps.getD 47 undef, a'.tmps.getD 48 undef, a'.tmps.getD 49 undef, a'.tmps.getD 50 undef, a'.tmps.getD 51 undef, a'.tmps.getD 52 undef, a'.tmps.getD 53 undef, a'.tmps.getD 54 undef, a'.tmps.getD 55 undef, a'.tmps.getD 56 undef, a'.tmps.getD 57 undef, a'.tmps.getD 58 undef, a'.tmps.getD 59 undef, a'.tmps.getD 60 undef, a'.tmps.getD 61 undef, a'.tmps.getD 62 undef, a'.tmps.getD 63 undef, a'.tmps.getD 64 undef, a'.tmps.getD 65 undef, a'.tmps.getD 66 undef], []⟩ := by rw [← (show a'.defers = [] from ha.2.1)]; exact act_eq a' 67 ha.1
          rw [d35, d0, d1, d2, d3, d4, d5, d6, d7] at e2
          clear hG ha d35 d0 d1 d2 d3 d4 d5 d6 d7
          generalize a'.tmps.getD 8 undef = x8 at *
          generalize a'.tmps.getD 9 undef = x9 at *
          generalize a'.tmps.getD 10 undef = x10 at *
          generalize a'.tmps.getD 11 undef = x11 at *
          generalize a'.tmps.getD 12 undef = x12 at *
          generalize a'.tmps.getD 13 undef = x13 at *
          generalize a'.tmps.getD 14 undef = x14 at *
          generalize a'.tmps.getD 15 undef = x15 at *
          generalize a'.tmps.getD 16 undef = x16 at *
          generalize a'.tmps.getD 17 undef = x17 at *
          generalize a'.tmps.getD 18 undef = x18 at *
          generalize a'.tmps.getD 19 undef = x19 at *
          generalize a'.tmps.getD 20 undef = x20 at *
          generalize a'.tmps.getD 21 undef = x21 at *
          generalize a'.tmps.getD 22 undef = x22 at *
          generalize a'.tmps.getD 23 undef = x23 at *
          generalize a'.tmps.getD 24 undef = x24 at *
          generalize a'.tmps.getD 25 undef = x25 at *
          generalize a'.tmps.getD 26 undef = x26 at *
          generalize a'.tmps.getD 27 undef = x27 at *
          generalize a'.tmps.getD 28 undef = x28 at *
          generalize a'.tmps.getD 29 undef = x29 at *
          generalize a'.tmps.getD 30 undef = x30 at *
          generalize a'.tmps.getD 31 undef = x31 at *
          generalize a'.tmps.getD 32 undef = x32 at *
          generalize a'.tmps.getD 33 undef = x33 at *
          generalize a'.tmps.getD 34 undef = x34 at *
          generalize a'.tmps.getD 36 undef = x36 at *
          generalize a'.tmps.getD 37 undef = x37 at *
          generalize a'.tmps.getD 38 undef = x38 at *
          generalize a'.tmps.getD 39 undef = x39 at *
          generalize a'.tmps.getD 40 undef = x40 at *
          generalize a'.tmps.getD 41 undef = x41 at *
          generalize a'.tmps.getD 42 undef = x42 at *
          generalize a'.tmps.getD 43 undef = x43 at *
          generalize a'.tmps.getD 44 undef = x44 at *
          generalize a'.tmps.getD 45 undef = x45 at *
          generalize a'.tmps.getD 46 undef = x46 at *
          generalize a'.tmps.getD 47 undef = x47 at *
          generalize a'.tmps.getD 48 undef = x48 at *
          generalize a'.tmps.getD 49 undef = x49 at *
          generalize a'.tmps.getD 50 undef = x50 at *
          generalize a'.tmps.getD 51 undef = x51 at *
          generalize a'.tmps.getD 52 undef = x52 at *
          generalize a'.tmps.getD 53 undef = x53 at *
          generalize a'.tmps.getD 54 undef = x54 at *
          generalize a'.tmps.getD 55 undef = x55 at *
          generalize a'.tmps.getD 56 undef = x56 at *
          generalize a'.tmps.getD 57 undef = x57 at *
          generalize a'.tmps.getD 58 undef = x58 at *
          generalize a'.tmps.getD 59 undef = x59 at *
          generalize a'.tmps.getD 60 undef = x60 at *
          generalize a'.tmps.getD 61 undef = x61 at *
          generalize a'.tmps.getD 62 undef = x62 at *
          generalize a'.tmps.getD 63 undef = x63 at *
          generalize a'.tmps.getD 64 undef = x64 at *
          generalize a'.tmps.getD 65 undef = x65 at *
          generalize a'.tmps.getD 66 undef = x66 at *
          subst e2
          simp only [List.drop_succ_cons, List.drop_zero]
          obtain ⟨gx, rfl, hgx⟩ := D39
          have hs3 := hb.size
          have how3 := HO.out.below hb
          refine wpList_append_ent rfl (.tmp 35) (.tmp 39) rfl (w.heap.size + 2) _ (readEs (b.drop 4) k) rfl how3 gx 1 ⟨ea, el, en, em, et⟩ rfl hgx hkk (by omega) ?_
          intro v4 w4 hown4 hb4
          rw [← HNX.out] at hown4
          obtain ⟨p4, cv4, hv4, -⟩ := hown4.form
          rw [readEs_length] at hv4
          subst hv4
          obtain ⟨hBy4, hr04, hr14, hbl4⟩ := (HS2.out.below hg hb).grown hg hb4
          have c0 : w4.cell? ⟨w.heap.size + 1, 0, none⟩ = some (.int .i64 C) := hr14.cell 0
          have c1 : w4.cell? ⟨w.heap.size + 1, 1, none⟩ = some (.slice p k cv) := hr14.cell 1
          have f1 := hr14.frozen 1
          have HX : Hid _ := ofSt_next HNL.out h20 hg HTO.out hBy4 hr04 hr14 hown4 hbl4
          have HN4 : Hid (n - 20 < n) := by show _ < _; omega
          generalize (if n = 20 then off else off + 20) = off4 at *
          generalize n - 20 = n4 at *
          clear hBy4 hr04 hr14 hown4 hbl4 hgx how3 hb4 HO HY HR HEO HPC HS2 HCUT
          go_wp2_with fail
          refine (HPR.out _).mono ?_
          rintro e w5 ⟨rfl, rfl⟩
          go_wp2_with fail
          go_step3
          exact ⟨_, _, _, _, _, _, _, _, _, _, _, _, _, _, _, _, _, _, _, _, _, _, _, _, _, _, _, _, _, _, _, _, _, _, _, _, _, _, _, _, _, _, _, _, _, _, _, _, _, _, _, _, _, _, _, _, _, _, _, k + 1, off4, n4, p4, cv4, rfl, HX.out, fun h => absurd h (by omega), fun h => absurd h (by omega), fun h => absurd rfl h, by omega⟩
      · rw [decide_eq_false he]
        go_wp2_with fail
        go_step3
        exact ⟨_, _, _, _, _, _, _, _, _, _, _, _, _, _, _, _, _, _, _, _, _, _, _, _, _, _, _, _, _, _, _, _, _, _, _, _, _, _, _, _, _, _, _, _, _, _, _, _, _, _, _, _, _, _, _, _, _, _, _, k, off, n, p, cv, rfl, HS2.out, fun h => absurd h (by omega), fun _ => hm, fun _ => he, by omega⟩
  · rintro l a' W ⟨x8, x9, x10, x11, x12, x13, x14, x15, x16, x17, x18, x19, x20, x21, x22, x23, x24, x25, x26, x27, x28, x29, x30, x31, x32, x33, x34, x35, x36, x37, x38, x39, x40, x41, x42, x43, x44, x45, x46, x47, x48, x49, x50, x51, x52, x53, x54, x55, x56, x57, x58, x59, x60, x61, x62, x63, x64, x65, x66, k, off, n, p, cv, rfl, hST, hm0, hm2, hne, hl2⟩
    have HST : Hid (OfSt b g w k off n p cv C W) := hST
    have HEW : Hid (ErrsIn W A) := hE.below hST.2.2.2.2.2.2
    clear hST d4 HP1 HN1 HP2 HN2 HP3 HB
    obtain rfl | rfl | rfl : l = 0 ∨ l = 1 ∨ l = 2 := by omega
    · refine ⟨_, rfl, ?_⟩
      have hmk := hm0 rfl
      have h8 : 8 ≤ n := by rw [HST.out.1]; exact hmk.1
      have HPM : Hid (∀ w', Calls Tryd.prog 51 #[.slice (some ⟨g, off, none⟩) n n, .int .i64 4, .int .i64 8] w' fun e w'' => e = .returned (.slice (some ⟨g, off + 4, none⟩) 4 4) ∧ w' = w'') := piece_off g off _ _ 4 8 4 8 rfl rfl (by omega) h8 _ _ rfl rfl
      have HNM : Hid (Calls Tryd.prog 50 #[.slice (some ⟨g, off + 4, none⟩) 4 4] W fun e w'' => e = .returned (.int .i64 (markN ((b.drop 4).drop (20 * k)))) ∧ W = w'') := number_off ((b.drop 4).drop (20 * k)) g (off + 4) 4 8 4 rfl hmk.1 (by omega) W (HST.out.2.2.1.off 4 8 hmk.1 (by omega) _ rfl)
      have HSQ : Hid (∀ w', Calls Tryd.prog 45 #[.int .i64 (markN ((b.drop 4).drop (20 * k)))] w' fun e w'' => e = .returned (.bool (inSeq (markN ((b.drop 4).drop (20 * k))))) ∧ w' = w'') := seqRight_any _
      have HP8 : Hid (∀ w', Calls Tryd.prog 51 #[.slice (some ⟨g, off, none⟩) n n, .int .i64 8, .int .i64 (n : Int)] w' fun e w'' => e = .returned (.slice (some ⟨g, if n = 8 then off else off + 8, none⟩) (n - 8) (n - 8)) ∧ w' = w'') := fun w' => piece_any g off _ _ 8 _ w' h8 (Nat.le_refl _)
      generalize hQ : markN ((b.drop 4).drop (20 * k)) = Q at *
      have HQ : Hid _ := hQ
      clear hQ
      go_wp2_with fail
      refine (HPM.out _).mono ?_
      rintro e w1 ⟨rfl, rfl⟩
      go_wp2_with fail
      refine (HNM.out).mono ?_
      rintro e w1 ⟨rfl, rfl⟩
      go_wp2_with fail
      refine (HSQ.out _).mono ?_
      rintro e w1 ⟨rfl, rfl⟩
      clear HPM HNM HSQ
      by_cases hsq : inSeq Q = true
      · rw [hsq]
        go_wp2_with fail
        refine (HP8.out _).mono ?_
        rintro e w1 ⟨rfl, rfl⟩
        obtain ⟨n8, hn8⟩ : ∃ n8, n - 8 = n8 := ⟨_, rfl⟩
        have HN8 : Hid (n - 8 = n8) := hn8
        rw [hn8]
        clear hn8 HP8
        generalize (if n = 8 then off else off + 8) = off8 at *
        go_wp2_with fail
        go_step3
        have hgE : 1 < w.heap.size := World.block_lt_of_cell? w _ (hE.1 4 (by omega))
        have hgE2 : ¬ 1 = w.heap.size := by omega
        have hgE3 : ¬ w.heap.size = 1 := by omega
        obtain ⟨-, hto, -, hr0, hr1, how, hbl⟩ := HST.out
        have c0 : W.cell? ⟨w.heap.size, 0, none⟩ = some (.int .i64 0) := hr0.cell 0
        have c1 : W.cell? ⟨w.heap.size, 1, none⟩ = some (.slice none 0 0) := hr0.cell 1
        have f0 := hr0.frozen 0
        have f1 := hr0.frozen 1
        have e0 : W.cell? ⟨w.heap.size + 1, 0, none⟩ = some (.int .i64 C) := hr1.cell 0
        have e1 : W.cell? ⟨w.heap.size + 1, 1, none⟩ = some (.slice p k cv) := hr1.cell 1
        have cE : W.cell? ⟨1, 0, none⟩ = some (.iface 120 (.pointer (some (A 4)))) := HEW.out.1 4 (by omega)
        have hkk : k ≤ 8000 := by have h0 := hto.1; rw [List.length_drop] at h0; omega
        have HNo : Hid (¬ (n8 = 0 ∧ ripB C (readEs (b.drop 4) k) = true) → ripOfR b = none) := fun hr => by rw [HRM.out k hto (hne (by omega)) hmk, HQ.out, ← HST.out.1, if_neg (fun h => hr ⟨by have := HN8.out; omega, h.2.2⟩)]
        have HYes : Hid (n8 = 0 ∧ ripB C (readEs (b.drop 4) k) = true → ripOfR b = some (C, readEs (b.drop 4) k, Q)) := fun hr => by rw [HRM.out k hto (hne (by omega)) hmk, HQ.out, ← HST.out.1, if_pos ⟨hsq, by have := HN8.out; have := hr.1; omega, hr.2⟩]
        obtain ⟨p2, cv2, hv2, hEn⟩ := how.form
        rw [readEs_length] at hv2
        obtain ⟨rfl, -, rfl⟩ : p = p2 ∧ k = k ∧ cv = cv2 := by simpa using hv2
        have HRk : Hid (Calls Tryd.prog 54 #[.agg #[.int .i64 C, .slice p k cv]] W fun e w' => e = .returned (.bool (ripB C (readEs (b.drop 4) k))) ∧ Below W.heap.size W w') := HRR.out C p cv _ k W (readEs_length _ _) hkk hEn
        have HOW : Hid (OwnE W (w.heap.size + 2) (.slice p k cv) (readEs (b.drop 4) k)) := how
        have HRows : Hid (Row W w.heap.size 24 [.int .i64 0, .slice none 0 0] ∧ Row W (w.heap.size + 1) 24 [.int .i64 C, .slice p k cv]) := ⟨hr0, hr1⟩
        clear HST how hr0 hr1 hto hEn hv2 HRM HRE HRR HBG HBE hh hB hE
        generalize readEs (b.drop 4) k = es at *
        by_cases h0 : n8 = 0
        · subst h0
          by_cases hrb : ripB C es = true
          · rw [hrb] at HRk
            have HY0 : Hid (ripOfR b = some (C, es, Q)) := HYes.out ⟨rfl, hrb⟩
            clear HNo HYes hrb
            go_wp2_with fail
            refine (HRk.out).mono ?_
            rintro e w1 ⟨rfl, hb1⟩
            have q0 := HRows.out.1.below hb1 HRows.out.1.lt
            have q1 := HRows.out.2.below hb1 HRows.out.2.lt
            have ho1 := HOW.out.below hb1
            have hB1 : Below w.heap.size w w1 := hbl.trans (hb1.mono hbl.size)
            clear c0 c1 f0 f1 e0 e1 cE
            have c0 : w1.cell? ⟨w.heap.size, 0, none⟩ = some (.int .i64 0) := q0.cell 0
            have c1 : w1.cell? ⟨w.heap.size, 1, none⟩ = some (.slice none 0 0) := q0.cell 1
            have f0 := q0.frozen 0
            have f1 := q0.frozen 1
            have e0 : w1.cell? ⟨w.heap.size + 1, 0, none⟩ = some (.int .i64 C) := q1.cell 0
            have e1 : w1.cell? ⟨w.heap.size + 1, 1, none⟩ = some (.slice p k cv) := q1.cell 1
            have hres : Row ((w1.setCell ⟨w.heap.size, 0, none⟩ (.int .i64 C)).setCell ⟨w.heap.size, 1, none⟩ (.slice p k cv)) w.heap.size 24 [.int .i64 C, .slice p k cv] := (q0.set 0 _).set 1 _
            have hos : OwnE ((w1.setCell ⟨w.heap.size, 0, none⟩ (.int .i64 C)).setCell ⟨w.heap.size, 1, none⟩ (.slice p k cv)) w.heap.size (.slice p k cv) es := ((ho1.set ⟨w.heap.size, 0, none⟩ (by show w.heap.size < w.heap.size + 2; omega) _).set ⟨w.heap.size, 1, none⟩ (by show w.heap.size < w.heap.size + 2; omega) _).mono (by omega)
            have hbs : Below w.heap.size w ((w1.setCell ⟨w.heap.size, 0, none⟩ (.int .i64 C)).setCell ⟨w.heap.size, 1, none⟩ (.slice p k cv)) := (hB1.setCell (p := ⟨w.heap.size, 0, none⟩) (Nat.le_refl _) _).setCell (p := ⟨w.heap.size, 1, none⟩) (Nat.le_refl _) _
            have HZ : Hid _ := And.intro hres (And.intro hos hbs)
            clear hres hos hbs q0 q1 ho1 hB1 hb1 HOW HRows HRk
            go_wp2_with fail
            have HZ2 := HZ.out
            clear HZ c0 c1 f0 f1 e0 e1
            generalize ((w1.setCell ⟨w.heap.size, 0, none⟩ (.int .i64 C)).setCell ⟨w.heap.size, 1, none⟩ (.slice p k cv)) = Z at *
            obtain ⟨h1, h2, h3⟩ := HZ2
            have r0 : Z.cell? ⟨w.heap.size, 0, none⟩ = some (.int .i64 C) := h1.cell 0
            have r1 : Z.cell? ⟨w.heap.size, 1, none⟩ = some (.slice p k cv) := h1.cell 1
            simp only [Exit.jumps]
            refine bodyPost_ret (v := .tuple #[.agg #[.int .i64 C, .slice p k cv], .int .i64 Q, .nilIface]) (by simp [results, Tryd.results35, go_sem, r0, r1]) rfl (OfOut.yes HY0.out (.slice p k cv) rfl h2 h3)
          · rw [show ripB C es = false by simpa using hrb] at HRk
            have HN0 : Hid (ripOfR b = none) := HNo.out (fun h => hrb h.2)
            clear HNo HYes hrb
            go_wp2_with fail
            refine (HRk.out).mono ?_
            rintro e w1 ⟨rfl, hb1⟩
            have q0 := HRows.out.1.below hb1 HRows.out.1.lt
            have hB1 : Below w.heap.size w w1 := hbl.trans (hb1.mono hbl.size)
            have HE1 := HEW.out.below hb1
            clear c0 c1 f0 f1 e0 e1 cE
            have c0 : w1.cell? ⟨w.heap.size, 0, none⟩ = some (.int .i64 0) := q0.cell 0
            have c1 : w1.cell? ⟨w.heap.size, 1, none⟩ = some (.slice none 0 0) := q0.cell 1
            have f0 := q0.frozen 0
            have f1 := q0.frozen 1
            have cE : w1.cell? ⟨1, 0, none⟩ = some (.iface 120 (.pointer (some (A 4)))) := HE1.1 4 (by omega)
            have HQ0 : Hid (Row w1 w.heap.size 24 [.int .i64 0, .slice none 0 0]) := q0
            clear q0 hb1 HE1 HRows HOW HRk
            go_wp2_with fail
            go_region
            all_goals have g0 : (w1.setCell ⟨w.heap.size, 0, none⟩ (.int .i64 0)).cell? ⟨w.heap.size, 0, none⟩ = some (.int .i64 0) := (HQ0.out.set 0 _).cell 0
            all_goals have g1 : ((w1.setCell ⟨w.heap.size, 0, none⟩ (.int .i64 0)).setCell ⟨w.heap.size, 1, none⟩ (.slice none 0 0)).cell? ⟨w.heap.size, 1, none⟩ = some (.slice none 0 0) := ((HQ0.out.set 0 _).set 1 _).cell 1
            all_goals (try go_wp2)
            all_goals (simp only [Exit.jumps])
            all_goals (refine bodyPost_ret (v := .tuple #[.agg #[.int .i64 0, .slice none 0 0], .int .i64 0, .iface 120 (.pointer (some (A 4)))]) (by simp [results, Tryd.results35, go_sem, g0, g1]) rfl (OfOut.no HN0.out rfl ?_))
            all_goals exact bel_two hB1
        · have hpos : 0 < n8 := by omega
          have HN0 : Hid (ripOfR b = none) := HNo.out (fun h => h0 h.1)
          have HQ0 : Hid (Row W w.heap.size 24 [.int .i64 0, .slice none 0 0]) := HRows.out.1
          clear HNo HYes h0 HRk HOW HRows
          go_wp2_with fail
          go_region
          all_goals have g0 : (W.setCell ⟨w.heap.size, 0, none⟩ (.int .i64 0)).cell? ⟨w.heap.size, 0, none⟩ = some (.int .i64 0) := (HQ0.out.set 0 _).cell 0
          all_goals have g1 : ((W.setCell ⟨w.heap.size, 0, none⟩ (.int .i64 0)).setCell ⟨w.heap.size, 1, none⟩ (.slice none 0 0)).cell? ⟨w.heap.size, 1, none⟩ = some (.slice none 0 0) := ((HQ0.out.set 0 _).set 1 _).cell 1
          all_goals (try go_wp2)
          all_goals (simp only [Exit.jumps])
          all_goals (refine bodyPost_ret (v := .tuple #[.agg #[.int .i64 0, .slice none 0 0], .int .i64 0, .iface 120 (.pointer (some (A 4)))]) (by simp [results, Tryd.results35, go_sem, g0, g1]) rfl (OfOut.no HN0.out rfl ?_))
          all_goals exact bel_two hbl
      · rw [show inSeq Q = false by simpa using hsq]
        go_wp2_with fail
        go_step3
        have hgE : 1 < w.heap.size := World.block_lt_of_cell? w _ (hE.1 4 (by omega))
        have hgE2 : ¬ 1 = w.heap.size := by omega
        have hgE3 : ¬ w.heap.size = 1 := by omega
        obtain ⟨-, hto, -, hr0, hr1, how, hbl⟩ := HST.out
        have c0 : W.cell? ⟨w.heap.size, 0, none⟩ = some (.int .i64 0) := hr0.cell 0
        have c1 : W.cell? ⟨w.heap.size, 1, none⟩ = some (.slice none 0 0) := hr0.cell 1
        have f0 := hr0.frozen 0
        have f1 := hr0.frozen 1
        have e0 : W.cell? ⟨w.heap.size + 1, 0, none⟩ = some (.int .i64 C) := hr1.cell 0
        have e1 : W.cell? ⟨w.heap.size + 1, 1, none⟩ = some (.slice p k cv) := hr1.cell 1
        have cE : W.cell? ⟨1, 0, none⟩ = some (.iface 120 (.pointer (some (A 4)))) := HEW.out.1 4 (by omega)
        have hkk : k ≤ 8000 := by have h0 := hto.1; rw [List.length_drop] at h0; omega
        have HNo : Hid (¬ (n = 0 ∧ ripB C (readEs (b.drop 4) k) = true) → ripOfR b = none) := fun hr => by rw [HRM.out k hto (hne (by omega)) hmk, HQ.out, ← HST.out.1, if_neg (fun h => hsq h.1)]
        have HYes : Hid (n = 0 ∧ ripB C (readEs (b.drop 4) k) = true → ripOfR b = some (C, readEs (b.drop 4) k, Q)) := fun hr => absurd hr.1 (by omega)
        obtain ⟨p2, cv2, hv2, hEn⟩ := how.form
        rw [readEs_length] at hv2
        obtain ⟨rfl, -, rfl⟩ : p = p2 ∧ k = k ∧ cv = cv2 := by simpa using hv2
        have HRk : Hid (Calls Tryd.prog 54 #[.agg #[.int .i64 C, .slice p k cv]] W fun e w' => e = .returned (.bool (ripB C (readEs (b.drop 4) k))) ∧ Below W.heap.size W w') := HRR.out C p cv _ k W (readEs_length _ _) hkk hEn
        have HOW : Hid (OwnE W (w.heap.size + 2) (.slice p k cv) (readEs (b.drop 4) k)) := how
        have HRows : Hid (Row W w.heap.size 24 [.int .i64 0, .slice none 0 0] ∧ Row W (w.heap.size + 1) 24 [.int .i64 C, .slice p k cv]) := ⟨hr0, hr1⟩
        clear HST how hr0 hr1 hto hEn hv2 HRM HRE HRR HBG HBE hh hB hE
        generalize readEs (b.drop 4) k = es at *
        have h0 : ¬ n = 0 := by omega
        have hpos : 0 < n := by omega
        have HN0 : Hid (ripOfR b = none) := HNo.out (fun h => h0 h.1)
        have HQ0 : Hid (Row W w.heap.size 24 [.int .i64 0, .slice none 0 0]) := HRows.out.1
        clear HNo HYes h0 HRk HOW HRows
        go_wp2_with fail
        go_region
        all_goals have g0 : (W.setCell ⟨w.heap.size, 0, none⟩ (.int .i64 0)).cell? ⟨w.heap.size, 0, none⟩ = some (.int .i64 0) := (HQ0.out.set 0 _).cell 0
        all_goals have g1 : ((W.setCell ⟨w.heap.size, 0, none⟩ (.int .i64 0)).setCell ⟨w.heap.size, 1, none⟩ (.slice none 0 0)).cell? ⟨w.heap.size, 1, none⟩ = some (.slice none 0 0) := ((HQ0.out.set 0 _).set 1 _).cell 1
        all_goals (try go_wp2)
        all_goals (simp only [Exit.jumps])
        all_goals (refine bodyPost_ret (v := .tuple #[.agg #[.int .i64 0, .slice none 0 0], .int .i64 0, .iface 120 (.pointer (some (A 4)))]) (by simp [results, Tryd.results35, go_sem, g0, g1]) rfl (OfOut.no HN0.out rfl ?_))
        all_goals exact bel_two hbl
    · refine ⟨_, rfl, ?_⟩
      clear hm0 hm2 hne hl2
      obtain ⟨hnl, hto, hBy, hr0, hr1, how, hbl⟩ := HST.out
      have HNL : Hid (n = ((b.drop 4).drop (20 * k)).length) := hnl
      have hgl : g < W.heap.size := by have := hbl.size; omega
      have hl0 := hr0.lt
      have hl1 := hr1.lt
      clear hnl
      go_wp2_with fail
      refine (HBG.out off n k _ _ HNL.out (hBy.below (ent_new0 W _) hgl) (by simp; omega) (Row.new W 2 [.int .i64 65535, .int .i64 3])).mono ?_
      rintro e w1 ⟨rfl, hb1⟩
      have hB1 : Below W.heap.size W w1 := (ent_new0 W _).trans (hb1.mono (by simp))
      have HS1 : Hid (OfSt b g w k off n p cv C w1) := HST.out.below hg hB1
      clear hb1 hBy hr0 hr1 how
      by_cases hm : isMark ((b.drop 4).drop (20 * k))
      · rw [decide_eq_true hm]
        go_wp2_with fail
        go_step3
        refine ⟨⟨_, _, _, _, _, _, _, _, _, _, _, _, _, _, _, _, _, _, _, _, _, _, _, _, _, _, _, _, _, _, _, _, _, _, _, _, _, _, _, _, _, _, _, _, _, _, _, _, _, _, _, _, _, _, _, _, _, _, _, k, off, n, p, cv, rfl, HS1.out, fun _ => hm, fun h => absurd h (by omega), fun _ h => ent_mark h hm, by omega⟩, ?_⟩
        show _ < _
        simp only [ofMu]
        have hx4 : 0 < n + 1 := by omega
        exact hx4
      · rw [decide_eq_false hm]
        have hgl1 : g < w1.heap.size := by have := hB1.size; omega
        have hBy1 := HS1.out.2.2.1
        go_wp2_with fail
        refine (HBE.out off n k _ _ HNL.out (hBy1.below (ent_new0 w1 _) hgl1) (by simp; omega) (Row.new w1 2 [.int .i64 2])).mono ?_
        rintro e w2 ⟨rfl, hb2⟩
        have hB2 : Below w1.heap.size w1 w2 := (ent_new0 w1 _).trans (hb2.mono (by simp))
        have HS2 : Hid (OfSt b g w k off n p cv C w2) := HS1.out.below hg hB2
        clear hb2 hBy1 hgl1 HS1
        by_cases he : isEnt ((b.drop 4).drop (20 * k))
        · rw [decide_eq_true he]
          have h20 : 20 ≤ n := by rw [HNL.out]; exact he.1
          obtain ⟨-, hto1, hBy2, hr02, hr12, how2, hbl2⟩ := HS2.out
          have hs1 := hB1.size
          have hs2 := hB2.size
          have hgl2 : g < w2.heap.size := by omega
          have HR : Hid (Row w2 (w.heap.size + 1) 24 [.int .i64 C, .slice p k cv]) := hr12
          have HY : Hid (BytesIn w2 g off ((b.drop 4).drop (20 * k))) := hBy2
          have HO : Hid (OwnE w2 (w.heap.size + 2) (.slice p k cv) (readEs (b.drop 4) k)) := how2
          have HPC : Hid (∀ w', Calls Tryd.prog 51 #[.slice (some ⟨g, off, none⟩) n n, .int .i64 0, .int .i64 20] w' fun e w'' => e = .returned (.slice (some ⟨g, off, none⟩) 20 20) ∧ w' = w'') := piece_off g off _ _ 0 20 0 20 rfl rfl (by omega) h20 _ _ rfl rfl
          have HEO : Hid (∀ w', BytesIn w' g off (cutL ((b.drop 4).drop (20 * k)) 0 20) → g < w'.heap.size → Calls Tryd.prog 53 #[.slice (some ⟨g, off, none⟩) 20 20] w' fun e w'' => e = .returned (entV (readE (cutL ((b.drop 4).drop (20 * k)) 0 20))) ∧ Below w'.heap.size w' w'') := fun w' h1 h2 => entryOf_any _ g off w' (by rw [cutL_length _ _ _ he.1]) h1 h2
          have HCUT : Hid (∀ w', Below w2.heap.size w2 w' → BytesIn w' g off (cutL ((b.drop 4).drop (20 * k)) 0 20)) := fun w' h => (HY.out.below h hgl2).off 0 20 he.1 (by omega) _ rfl
          have hre : readE (cutL ((b.drop 4).drop (20 * k)) 0 20) = readE ((b.drop 4).drop (20 * k)) := readE_cut _
          rw [hre] at HEO
          have HNX : Hid (readEs (b.drop 4) (k + 1) = readEs (b.drop 4) k ++ [readE ((b.drop 4).drop (20 * k))]) := rfl
          have hto2 : EntsTo (b.drop 4) (k + 1) := entsTo_next hto1 he
          have HTO : Hid (EntsTo (b.drop 4) (k + 1)) := hto2
          have hkk : (readEs (b.drop 4) k).length ≤ 1000000 := by have h0 := hto2.1; rw [List.length_drop] at h0; rw [readEs_length]; omega
          have HPR : Hid (∀ w', Calls Tryd.prog 51 #[.slice (some ⟨g, off, none⟩) n n, .int .i64 20, .int .i64 (n : Int)] w' fun e w'' => e = .returned (.slice (some ⟨g, if n = 20 then off else off + 20, none⟩) (n - 20) (n - 20)) ∧ w' = w'') := fun w' => piece_any g off _ _ 20 _ w' h20 (Nat.le_refl _)
          have HEV : Hid (∃ E, readE ((b.drop 4).drop (20 * k)) = E) := ⟨_, rfl⟩
          obtain ⟨⟨ea, el, en, em, et⟩, hEV⟩ := HEV.out
          rw [hEV] at HEO HNX
          unfold entV at HEO
          simp only at HEO
          clear HEV hEV hre hr02 hr12 how2 hBy2 hto2 hto1
          go_wp2_with fail
          have hGN : (([(34, Is (.pointer (some ⟨w.heap.size + 1, 1, none⟩))), (35, Is (.slice p k cv)), (36, Is (.slice (some ⟨g, off, none⟩) n n)), (37, Is (.slice (some ⟨g, off, none⟩) 20 20)), (38, Is (.agg #[.int .i64 ea, .int .i64 el, .int .i64 en, .int .i64 em, .int .i64 et])), (39, fun x W' => ∃ gx, x = .slice (some ⟨gx, 0, none⟩) 1 1 ∧ Row W' gx 44 (entL ⟨ea, el, en, em, et⟩))] : List (Nat × (Value → World → Prop))).map (·.1)).Nodup := by simp
          refine wp_region_steady 6 (SlotG [(34, Is (.pointer (some ⟨w.heap.size + 1, 1, none⟩))), (35, Is (.slice p k cv)), (36, Is (.slice (some ⟨g, off, none⟩) n n)), (37, Is (.slice (some ⟨g, off, none⟩) 20 20)), (38, Is (.agg #[.int .i64 ea, .int .i64 el, .int .i64 en, .int .i64 em, .int .i64 et])), (39, fun x W' => ∃ gx, x = .slice (some ⟨gx, 0, none⟩) 1 1 ∧ Row W' gx 44 (entL ⟨ea, el, en, em, et⟩))]) (by kernel_rfl) (by kernel_rfl) (Stabs.all ⟨stab_is _, stab_is _, stab_is _, stab_is _, stab_is _, stab_ent _ _, trivial⟩) ?_ ?_
          · intro o ho
            simp only [List.take_succ_cons, List.take_zero, List.mem_cons, List.not_mem_nil, or_false] at ho
            rcases ho with rfl | rfl | rfl | rfl | rfl | rfl
            · intro a' w' hb ha hdep
              have d5 : a'.tmps.getD 5 undef = .pointer (some ⟨w.heap.size + 1, 0, none⟩) := ha.at 5 (by kernel_rfl)
              have hmk := fun (x : Value) (W : World) => SlotG.mk (x := x) (w := W) 0 rfl hGN
              clear hGN ha hdep
              go_simp
              exact ⟨_, rfl, Below.refl _ _, hmk _ _ rfl⟩
            · intro a' w' hb ha hdep
              have d34 : a'.tmps.getD 34 undef = .pointer (some ⟨w.heap.size + 1, 1, none⟩) := (hdep 34 (of_decide_eq_true (by kernel_rfl))).is 0 rfl
              have hmk := fun (x : Value) (W : World) => SlotG.mk (x := x) (w := W) 1 rfl hGN
              clear hGN ha hdep
              have c1 : w'.cell? ⟨w.heap.size + 1, 1, none⟩ = some (.slice p k cv) := (HR.out.below hb HR.out.lt).cell 1
              go_simp
              exact ⟨_, rfl, Below.refl _ _, hmk _ _ rfl⟩
            · intro a' w' hb ha hdep
              have d7 : a'.tmps.getD 7 undef = .slice (some ⟨g, off, none⟩) n n := ha.at 7 (by kernel_rfl)
              have hmk := fun (x : Value) (W : World) => SlotG.mk (x := x) (w := W) 2 rfl hGN
              clear hGN ha hdep
              go_simp
              exact ⟨_, rfl, Below.refl _ _, hmk _ _ rfl⟩
            · intro a' w' hb ha hdep
              have d36 : a'.tmps.getD 36 undef = .slice (some ⟨g, off, none⟩) n n := (hdep 36 (of_decide_eq_true (by kernel_rfl))).is 2 rfl
              have hmk := fun (x : Value) (W : World) => SlotG.mk (x := x) (w := W) 3 rfl hGN
              clear hGN ha hdep
              go_simp
              refine (HPC.out _).mono ?_
              rintro e w2 ⟨rfl, rfl⟩
              exact ⟨_, rfl, Below.refl _ _, hmk _ _ rfl⟩
            · intro a' w' hb ha hdep
              have d37 : a'.tmps.getD 37 undef = .slice (some ⟨g, off, none⟩) 20 20 := (hdep 37 (of_decide_eq_true (by kernel_rfl))).is 3 rfl
              have hmk := fun (x : Value) (W : World) => SlotG.mk (x := x) (w := W) 4 rfl hGN
              clear hGN ha hdep
              go_simp
              refine (HEO.out _ (HCUT.out _ hb) (by have := hb.size; omega)).mono ?_
              rintro e w2 ⟨rfl, hb2⟩
              exact ⟨_, rfl, hb2, hmk _ _ rfl⟩
            · intro a' w' hb ha hdep
              have d38 : a'.tmps.getD 38 undef = .agg #[.int .i64 ea, .int .i64 el, .int .i64 en, .int .i64 em, .int .i64 et] := (hdep 38 (of_decide_eq_true (by kernel_rfl))).is 4 rfl
              have hmk := fun (x : Value) (W : World) => SlotG.mk (x := x) (w := W) 5 rfl hGN
              clear hGN ha hdep
              rw [Array.getD_eq_getD_getElem?] at d38
              go_simp
              exact ⟨_, rfl, ent_new0 _ _, hmk _ _ ⟨_, rfl, Row.new w' 44 _⟩⟩
          · intro a' w' hb ha hG
            clear hGN
            have d35 : a'.tmps.getD 35 undef = .slice p k cv := (hG _ (List.mem_of_getElem? (i := 1) rfl) 35 rfl).is 1 rfl
            have D39 := (hG _ (List.mem_of_getElem? (i := 5) rfl) 39 rfl).get 5 rfl
            have d0 : a'.tmps.getD 0 undef = .slice (some ⟨g, 0, none⟩) b.length cap := ha.at 0 (by kernel_rfl)
            have d1 : a'.tmps.getD 1 undef = undef := ha.at 1 (by kernel_rfl)
            have d2 : a'.tmps.getD 2 undef = .pointer (some ⟨w.heap.size, 0, none⟩) := ha.at 2 (by kernel_rfl)
            have d3 : a'.tmps.getD 3 undef = .int .i64 0 := ha.at 3 (by kernel_rfl)
            have d4 : a'.tmps.getD 4 undef = .nilIface := ha.at 4 (by kernel_rfl)
            have d5 : a'.tmps.getD 5 undef = .pointer (some ⟨w.heap.size + 1, 0, none⟩) := ha.at 5 (by kernel_rfl)
            have d6 : a'.tmps.getD 6 undef = .int .i64 0 := ha.at 6 (by kernel_rfl)
            have d7 : a'.tmps.getD 7 undef = .slice (some ⟨g, off, none⟩) n n := ha.at 7 (by kernel_rfl)
            have e2 : a' = ⟨#[a'.tmps.getD 0 undef, a'.tmps.getD 1 undef, a'.tmps.getD 2 undef, a'.tmps.getD 3 undef, a'.tmps.getD 4 undef, a'.tmps.getD 5 undef, a'.tmps.getD 6 undef, a'.tmps.getD 7 undef, a'.tmps.getD 8 undef, a'.tmps.getD 9 undef, a'.tmps.getD 10 undef, a'.tmps.getD 11 undef, a'.tmps.getD 12 undef, a'.tmps.getD 13 undef, a'.tmps.getD 14 undef, a'.tmps.getD 15 undef, a'.tmps.getD 16 undef, a'.tmps.getD 17 undef, a'.tmps.getD 18 undef, a'.tmps.getD 19 undef, a'.tmps.getD 20 undef, a'.tmps.getD 21 undef, a'.tmps.getD 22 undef, a'.tmps.getD 23 undef, a'.tmps.getD 24 undef, a'.tmps.getD 25 undef, a'.tmps.getD 26 undef, a'.tmps.getD 27 undef, a'.tmps.getD 28 undef, a'.tmps.getD 29 undef, a'.tmps.getD 30 undef, a'.tmps.getD 31 undef, a'.tmps.getD 32 undef, a'.tmps.getD 33 undef, a'.tmps.getD 34 undef, a'.tmps.getD 35 undef, a'.tmps.getD 36 undef, a'.tmps.getD 37 undef, a'.tmps.getD 38 undef, a'.tmps.getD 39 undef, a'.tmps.getD 40 undef, a'.tmps.getD 41 undef, a'.tmps.getD 42 undef, a'.tmps.getD 43 undef, a'.tmps.getD 44 undef, a'.tmps.getD 45 undef, a'.tmps.getD 46 undef, a'.tmps.getD 47 undef, a'.tmps.getD 48 undef, a'.tmps.getD 49 undef, a'.tmps.getD 50 undef, a'.tmps.getD 51 undef, a'.tmps.getD 52 undef, a'.tmps.getD 53 undef, a'.tmps.getD 54 undef, a'.tmps.getD 55 undef, a'.tmps.getD 56 undef, a'.tmps.getD 57 undef, a'.tmps.getD 58 undef, a'.tmps.getD 59 undef, a'.tmps.getD 60 undef, a'.tmps.getD 61 undef, a'.tmps.getD 62 undef, a'.tmps.getD 63 undef, a'.tmps.getD 64 undef, a'.tmps.getD 65 undef, a'.tmps.getD 66 undef], []⟩ := by rw [← (show a'.defers = [] from ha.2.1)]; exact act_eq a' 67 ha.1
            rw [d35, d0, d1, d2, d3, d4, d5, d6, d7] at e2
            clear hG ha d35 d0 d1 d2 d3 d4 d5 d6 d7
            generalize a'.tmps.getD 8 undef = x8 at *
            generalize a'.tmps.getD 9 undef = x9 at *
            generalize a'.tmps.getD 10 undef = x10 at *
            generalize a'.tmps.getD 11 undef = x11 at *
            generalize a'.tmps.getD 12 undef = x12 at *
            generalize a'.tmps.getD 13 undef = x13 at *
            generalize a'.tmps.getD 14 undef = x14 at *
            generalize a'.tmps.getD 15 undef = x15 at *
            generalize a'.tmps.getD 16 undef = x16 at *
            generalize a'.tmps.getD 17 undef = x17 at *
            generalize a'.tmps.getD 18 undef = x18 at *
            generalize a'.tmps.getD 19 undef = x19 at *
            generalize a'.tmps.getD 20 undef = x20 at *
            generalize a'.tmps.getD 21 undef = x21 at *
            generalize a'.tmps.getD 22 undef = x22 at *
            generalize a'.tmps.getD 23 undef = x23 at *
            generalize a'.tmps.getD 24 undef = x24 at *
            generalize a'.tmps.getD 25 undef = x25 at *
            generalize a'.tmps.getD 26 undef = x26 at *
            generalize a'.tmps.getD 27 undef = x27 at *
            generalize a'.tmps.getD 28 undef = x28 at *
            generalize a'.tmps.getD 29 undef = x29 at *
            generalize a'.tmps.getD 30 undef = x30 at *
            generalize a'.tmps.getD 31 undef = x31 at *
            generalize a'.tmps.getD 32 undef = x32 at *
            generalize a'.tmps.getD 33 undef = x33 at *
            generalize a'.tmps.getD 34 undef = x34 at *
            generalize a'.tmps.getD 36 undef = x36 at *
            generalize a'.tmps.getD 37 undef = x37 at *
            generalize a'.tmps.getD 38 undef = x38 at *
            generalize a'.tmps.getD 39 undef = x39 at *
            generalize a'.tmps.getD 40 undef = x40 at *
            generalize a'.tmps.getD 41 undef = x41 at *
            generalize a'.tmps.getD 42 undef = x42 at *
            generalize a'.tmps.getD 43 undef = x43 at *
            generalize a'.tmps.getD 44 undef = x44 at *
            generalize a'.tmps.getD 45 undef = x45 at *
            generalize a'.tmps.getD 46 undef = x46 at *
            generalize a'.tmps.getD 47 undef = x47 at *
            generalize a'.tmps.getD 48 undef = x48 at *
            generalize a'.tmps.getD 49 undef = x49 at *
            generalize a'.tmps.getD 50 undef = x50 at *
            generalize a'.tmps.getD 51 undef = x51 at *
            generalize a'.tmps.getD 52 undef = x52 at *
            generalize a'.tmps.getD 53 undef = x53 at *
            generalize a'.tmps.getD 54 undef = x54 at *
            generalize a'.tmps.getD 55 undef = x55 at *
            generalize a'.tmps.getD 56 undef = x56 at *
            generalize a'.tmps.getD 57 undef = x57 at *
            generalize a'.tmps.getD 58 undef = x58 at *
            generalize a'.tmps.getD 59 undef = x59 at *
            generalize a'.tmps.getD 60 undef = x60 at *
            generalize a'.tmps.getD 61 undef = x61 at *
            generalize a'.tmps.getD 62 undef = x62 at *
            generalize a'.tmps.getD 63 undef = x63 at *
            generalize a'.tmps.getD 64 undef = x64 at *
            generalize a'.tmps.getD 65 undef = x65 at *
            generalize a'.tmps.getD 66 undef = x66 at *
            subst e2
            simp only [List.drop_succ_cons, List.drop_zero]
            obtain ⟨gx, rfl, hgx⟩ := D39
            have hs3 := hb.size
            have how3 := HO.out.below hb
            refine wpList_append_ent rfl (.tmp 35) (.tmp 39) rfl (w.heap.size + 2) _ (readEs (b.drop 4) k) rfl how3 gx 1 ⟨ea, el, en, em, et⟩ rfl hgx hkk (by omega) ?_
            intro v4 w4 hown4 hb4
            rw [← HNX.out] at hown4
            obtain ⟨p4, cv4, hv4, -⟩ := hown4.form
            rw [readEs_length] at hv4
            subst hv4
            obtain ⟨hBy4, hr04, hr14, hbl4⟩ := (HS2.out.below hg hb).grown hg hb4
            have c0 : w4.cell? ⟨w.heap.size + 1, 0, none⟩ = some (.int .i64 C) := hr14.cell 0
            have c1 : w4.cell? ⟨w.heap.size + 1, 1, none⟩ = some (.slice p k cv) := hr14.cell 1
            have f1 := hr14.frozen 1
            have HX : Hid _ := ofSt_next HNL.out h20 hg HTO.out hBy4 hr04 hr14 hown4 hbl4
            have HN4 : Hid (n - 20 < n) := by show _ < _; omega
            generalize (if n = 20 then off else off + 20) = off4 at *
            generalize n - 20 = n4 at *
            clear hBy4 hr04 hr14 hown4 hbl4 hgx how3 hb4 HO HY HR HEO HPC HS2 HCUT
            go_wp2_with fail
            refine (HPR.out _).mono ?_
            rintro e w5 ⟨rfl, rfl⟩
            go_wp2_with fail
            go_step3
            refine ⟨⟨_, _, _, _, _, _, _, _, _, _, _, _, _, _, _, _, _, _, _, _, _, _, _, _, _, _, _, _, _, _, _, _, _, _, _, _, _, _, _, _, _, _, _, _, _, _, _, _, _, _, _, _, _, _, _, _, _, _, _, k + 1, off4, n4, p4, cv4, rfl, HX.out, fun h => absurd h (by omega), fun h => absurd h (by omega), fun h => absurd rfl h, by omega⟩, ?_⟩
            show _ < _
            simp only [ofMu]
            have hx4 : n4 + 1 < n + 1 := by have := HN4.out; omega
            exact hx4
        · rw [decide_eq_false he]
          go_wp2_with fail
          go_step3
          refine ⟨⟨_, _, _, _, _, _, _, _, _, _, _, _, _, _, _, _, _, _, _, _, _, _, _, _, _, _, _, _, _, _, _, _, _, _, _, _, _, _, _, _, _, _, _, _, _, _, _, _, _, _, _, _, _, _, _, _, _, _, _, k, off, n, p, cv, rfl, HS2.out, fun h => absurd h (by omega), fun _ => hm, fun _ => he, by omega⟩, ?_⟩
          show _ < _
          simp only [ofMu]
          have hx4 : 0 < n + 1 := by omega
          exact hx4
    · refine ⟨_, rfl, ?_⟩
      have hgE : 1 < w.heap.size := World.block_lt_of_cell? w _ (hE.1 4 (by omega))
      have hgE2 : ¬ 1 = w.heap.size := by omega
      have hgE3 : ¬ w.heap.size = 1 := by omega
      obtain ⟨-, hto, -, hr0, hr1, how, hbl⟩ := HST.out
      have c0 : W.cell? ⟨w.heap.size, 0, none⟩ = some (.int .i64 0) := hr0.cell 0
      have c1 : W.cell? ⟨w.heap.size, 1, none⟩ = some (.slice none 0 0) := hr0.cell 1
      have f0 := hr0.frozen 0
      have f1 := hr0.frozen 1
      have e0 : W.cell? ⟨w.heap.size + 1, 0, none⟩ = some (.int .i64 C) := hr1.cell 0
      have e1 : W.cell? ⟨w.heap.size + 1, 1, none⟩ = some (.slice p k cv) := hr1.cell 1
      have cE : W.cell? ⟨1, 0, none⟩ = some (.iface 120 (.pointer (some (A 4)))) := HEW.out.1 4 (by omega)
      have hkk : k ≤ 8000 := by have h0 := hto.1; rw [List.length_drop] at h0; omega
      have HNo : Hid (¬ (n = 0 ∧ ripB C (readEs (b.drop 4) k) = true) → ripOfR b = none) := fun hr => by rw [HRE.out k hto (hne (by omega)) (hm2 rfl), ← HST.out.1, if_neg hr]
      have HYes : Hid (n = 0 ∧ ripB C (readEs (b.drop 4) k) = true → ripOfR b = some (C, readEs (b.drop 4) k, 0)) := fun hr => by rw [HRE.out k hto (hne (by omega)) (hm2 rfl), ← HST.out.1, if_pos hr]
      obtain ⟨p2, cv2, hv2, hEn⟩ := how.form
      rw [readEs_length] at hv2
      obtain ⟨rfl, -, rfl⟩ : p = p2 ∧ k = k ∧ cv = cv2 := by simpa using hv2
      have HRk : Hid (Calls Tryd.prog 54 #[.agg #[.int .i64 C, .slice p k cv]] W fun e w' => e = .returned (.bool (ripB C (readEs (b.drop 4) k))) ∧ Below W.heap.size W w') := HRR.out C p cv _ k W (readEs_length _ _) hkk hEn
      have HOW : Hid (OwnE W (w.heap.size + 2) (.slice p k cv) (readEs (b.drop 4) k)) := how
      have HRows : Hid (Row W w.heap.size 24 [.int .i64 0, .slice none 0 0] ∧ Row W (w.heap.size + 1) 24 [.int .i64 C, .slice p k cv]) := ⟨hr0, hr1⟩
      clear HST how hr0 hr1 hto hEn hv2 HRM HRE HRR HBG HBE hh hB hE
      generalize readEs (b.drop 4) k = es at *
      by_cases h0 : n = 0
      · subst h0
        by_cases hrb : ripB C es = true
        · rw [hrb] at HRk
          have HY0 : Hid (ripOfR b = some (C, es, 0)) := HYes.out ⟨rfl, hrb⟩
          clear HNo HYes hrb
          go_wp2_with fail
          refine (HRk.out).mono ?_
          rintro e w1 ⟨rfl, hb1⟩
          have q0 := HRows.out.1.below hb1 HRows.out.1.lt
          have q1 := HRows.out.2.below hb1 HRows.out.2.lt
          have ho1 := HOW.out.below hb1
          have hB1 : Below w.heap.size w w1 := hbl.trans (hb1.mono hbl.size)
          clear c0 c1 f0 f1 e0 e1 cE
          have c0 : w1.cell? ⟨w.heap.size, 0, none⟩ = some (.int .i64 0) := q0.cell 0
          have c1 : w1.cell? ⟨w.heap.size, 1, none⟩ = some (.slice none 0 0) := q0.cell 1
          have f0 := q0.frozen 0
          have f1 := q0.frozen 1
          have e0 : w1.cell? ⟨w.heap.size + 1, 0, none⟩ = some (.int .i64 C) := q1.cell 0
          have e1 : w1.cell? ⟨w.heap.size + 1, 1, none⟩ = some (.slice p k cv) := q1.cell 1
          have hres : Row ((w1.setCell ⟨w.heap.size, 0, none⟩ (.int .i64 C)).setCell ⟨w.heap.size, 1, none⟩ (.slice p k cv)) w.heap.size 24 [.int .i64 C, .slice p k cv] := (q0.set 0 _).set 1 _
          have hos : OwnE ((w1.setCell ⟨w.heap.size, 0, none⟩ (.int .i64 C)).setCell ⟨w.heap.size, 1, none⟩ (.slice p k cv)) w.heap.size (.slice p k cv) es := ((ho1.set ⟨w.heap.size, 0, none⟩ (by show w.heap.size < w.heap.size + 2; omega) _).set ⟨w.heap.size, 1, none⟩ (by show w.heap.size < w.heap.size + 2; omega) _).mono (by omega)
          have hbs : Below w.heap.size w ((w1.setCell ⟨w.heap.size, 0, none⟩ (.int .i64 C)).setCell ⟨w.heap.size, 1, none⟩ (.slice p k cv)) := (hB1.setCell (p := ⟨w.heap.size, 0, none⟩) (Nat.le_refl _) _).setCell (p := ⟨w.heap.size, 1, none⟩) (Nat.le_refl _) _
          have HZ : Hid _ := And.intro hres (And.intro hos hbs)
          clear hres hos hbs q0 q1 ho1 hB1 hb1 HOW HRows HRk
          go_wp2_with fail
          have HZ2 := HZ.out
          clear HZ c0 c1 f0 f1 e0 e1
          generalize ((w1.setCell ⟨w.heap.size, 0, none⟩ (.int .i64 C)).setCell ⟨w.heap.size, 1, none⟩ (.slice p k cv)) = Z at *
          obtain ⟨h1, h2, h3⟩ := HZ2
          have r0 : Z.cell? ⟨w.heap.size, 0, none⟩ = some (.int .i64 C) := h1.cell 0
          have r1 : Z.cell? ⟨w.heap.size, 1, none⟩ = some (.slice p k cv) := h1.cell 1
          simp only [Exit.jumps]
          refine bodyPost_ret (v := .tuple #[.agg #[.int .i64 C, .slice p k cv], .int .i64 0, .nilIface]) (by simp [results, Tryd.results35, go_sem, r0, r1]) rfl (OfOut.yes HY0.out (.slice p k cv) rfl h2 h3)
        · rw [show ripB C es = false by simpa using hrb] at HRk
          have HN0 : Hid (ripOfR b = none) := HNo.out (fun h => hrb h.2)
          clear HNo HYes hrb
          go_wp2_with fail
          refine (HRk.out).mono ?_
          rintro e w1 ⟨rfl, hb1⟩
          have q0 := HRows.out.1.below hb1 HRows.out.1.lt
          have hB1 : Below w.heap.size w w1 := hbl.trans (hb1.mono hbl.size)
          have HE1 := HEW.out.below hb1
          clear c0 c1 f0 f1 e0 e1 cE
          have c0 : w1.cell? ⟨w.heap.size, 0, none⟩ = some (.int .i64 0) := q0.cell 0
          have c1 : w1.cell? ⟨w.heap.size, 1, none⟩ = some (.slice none 0 0) := q0.cell 1
          have f0 := q0.frozen 0
          have f1 := q0.frozen 1
          have cE : w1.cell? ⟨1, 0, none⟩ = some (.iface 120 (.pointer (some (A 4)))) := HE1.1 4 (by omega)
          have HQ0 : Hid (Row w1 w.heap.size 24 [.int .i64 0, .slice none 0 0]) := q0
          clear q0 hb1 HE1 HRows HOW HRk
          go_wp2_with fail
          go_region
          all_goals have g0 : (w1.setCell ⟨w.heap.size, 0, none⟩ (.int .i64 0)).cell? ⟨w.heap.size, 0, none⟩ = some (.int .i64 0) := (HQ0.out.set 0 _).cell 0
          all_goals have g1 : ((w1.setCell ⟨w.heap.size, 0, none⟩ (.int .i64 0)).setCell ⟨w.heap.size, 1, none⟩ (.slice none 0 0)).cell? ⟨w.heap.size, 1, none⟩ = some (.slice none 0 0) := ((HQ0.out.set 0 _).set 1 _).cell 1
          all_goals (try go_wp2)
          all_goals (simp only [Exit.jumps])
          all_goals (refine bodyPost_ret (v := .tuple #[.agg #[.int .i64 0, .slice none 0 0], .int .i64 0, .iface 120 (.pointer (some (A 4)))]) (by simp [results, Tryd.results35, go_sem, g0, g1]) rfl (OfOut.no HN0.out rfl ?_))
          all_goals exact bel_two hB1
      · have hpos : 0 < n := by omega
        have HN0 : Hid (ripOfR b = none) := HNo.out (fun h => h0 h.1)
        have HQ0 : Hid (Row W w.heap.size 24 [.int .i64 0, .slice none 0 0]) := HRows.out.1
        clear HNo HYes h0 HRk HOW HRows
        go_wp2_with fail
        go_region
        all_goals have g0 : (W.setCell ⟨w.heap.size, 0, none⟩ (.int .i64 0)).cell? ⟨w.heap.size, 0, none⟩ = some (.int .i64 0) := (HQ0.out.set 0 _).cell 0
        all_goals have g1 : ((W.setCell ⟨w.heap.size, 0, none⟩ (.int .i64 0)).setCell ⟨w.heap.size, 1, none⟩ (.slice none 0 0)).cell? ⟨w.heap.size, 1, none⟩ = some (.slice none 0 0) := ((HQ0.out.set 0 _).set 1 _).cell 1
        all_goals (try go_wp2)
        all_goals (simp only [Exit.jumps])
        all_goals (refine bodyPost_ret (v := .tuple #[.agg #[.int .i64 0, .slice none 0 0], .int .i64 0, .iface 120 (.pointer (some (A 4)))]) (by simp [results, Tryd.results35, go_sem, g0, g1]) rfl (OfOut.no HN0.out rfl ?_))
        all_goals exact bel_two hbl
end Go.Proofs.YtehiipddbgoajaaDoor
/- What routers say, read by the program: at every text. -/
namespace Go.Proofs.YtehiipddbgoajaaDoor
open Go.RowKit Go.Sort

set_option maxRecDepth 100000 in
theorem ripOf_any (b : List UInt8) (g cap : Nat) (w : World) (A : Nat → Addr) (hz : b.length ≤ 8000) (hc : b.length ≤ cap) (hB : BytesIn w g 0 b) (hg : g < w.heap.size) (hE : ErrsIn w A) :
    Calls Tryd.prog 35 #[.slice (some ⟨g, 0, none⟩) b.length cap] w fun e w' => OfOut b A w w' e := by
  by_cases h4 : 4 ≤ b.length
  · by_cases hh : numL (cutL b 1 4) = 131072
    · exact ripOf_in b g cap w A h4 hh hz hc hB hg hE
    · have HP1 : Hid (∀ w, Calls Tryd.prog 51 #[.slice (some ⟨g, 0, none⟩) b.length cap, .int .i64 1, .int .i64 4] w fun e w' => e = .returned (.slice (some ⟨g, 1, none⟩) 3 3) ∧ w = w') := piece_off g 0 b.length cap 1 4 1 4 rfl rfl (by omega) (by omega) _ _ rfl rfl
      have HN1 : Hid (∀ w, BytesIn w g 1 (cutL b 1 4) → Calls Tryd.prog 50 #[.slice (some ⟨g, 1, none⟩) 3 3] w fun e w' => e = .returned (.int .i64 (numL (cutL b 1 4) : Nat)) ∧ w = w') := number_off b g 1 1 4 3 rfl (by omega) (by omega)
      have HB : Hid (BytesIn (w.alloc (.cells #[.int .i64 0, .slice none 0 0] 24)) g 1 (cutL b 1 4)) := (hB.below (ent_new0 w _) hg).off 1 4 h4 (by omega) _ rfl
      have HN0 : Hid (ripOfR b = none) := ripOfR_head (.inr hh)
      have dn : (((numL (cutL b 1 4) : Nat) : Int) != 131072) = true := by simp; omega
      have d4 : decide ((b.length : Int) < 4) = false := by simp; omega
      have hgE : 1 < w.heap.size := World.block_lt_of_cell? w _ (hE.1 4 (by omega))
      have hgE2 : ¬ 1 = w.heap.size := by omega
      have hgE3 : ¬ w.heap.size = 1 := by omega
      have hE1 := hE.below (ent_new0 w (.cells #[.int .i64 0, .slice none 0 0] 24))
      have cE : (w.alloc (.cells #[.int .i64 0, .slice none 0 0] 24)).cell? ⟨1, 0, none⟩ = some (.iface 120 (.pointer (some (A 4)))) := hE1.1 4 (by omega)
      have HQ0 : Hid (Row (w.alloc (.cells #[.int .i64 0, .slice none 0 0] 24)) w.heap.size 24 [.int .i64 0, .slice none 0 0]) := Row.new w _ _
      have c0 : (w.alloc (.cells #[.int .i64 0, .slice none 0 0] 24)).cell? ⟨w.heap.size, 0, none⟩ = some (.int .i64 0) := HQ0.out.cell 0
      have c1 : (w.alloc (.cells #[.int .i64 0, .slice none 0 0] 24)).cell? ⟨w.heap.size, 1, none⟩ = some (.slice none 0 0) := HQ0.out.cell 1
      have f0 := HQ0.out.frozen 0
      have f1 := HQ0.out.frozen 1
      have hbl := ent_new0 w (.cells #[.int .i64 0, .slice none 0 0] 24)
      clear hE1 hE hB hh
      generalize numL (cutL b 1 4) = X at *
      generalize hWW : w.alloc (.cells #[.int .i64 0, .slice none 0 0] 24) = W at *
      have HWW : Hid _ := hWW
      clear hWW
      go_enter Tryd.func35, Tryd.ntmps35
      go_wp2_with fail
      rw [HWW.out]
      refine wp_scope_labels (fun _ _ _ => False) (fun _ _ _ => 0) ?_ (fun _ _ _ h => h.elim)
      go_wp2_with fail
      refine (HP1.out _).mono ?_
      rintro e w1 ⟨rfl, rfl⟩
      go_wp2_with fail
      refine (HN1.out _ HB.out).mono ?_
      rintro e w1 ⟨rfl, rfl⟩
      go_wp2_with fail
      go_region
      all_goals have g0 : (W.setCell ⟨w.heap.size, 0, none⟩ (.int .i64 0)).cell? ⟨w.heap.size, 0, none⟩ = some (.int .i64 0) := (HQ0.out.set 0 _).cell 0
      all_goals have g1 : ((W.setCell ⟨w.heap.size, 0, none⟩ (.int .i64 0)).setCell ⟨w.heap.size, 1, none⟩ (.slice none 0 0)).cell? ⟨w.heap.size, 1, none⟩ = some (.slice none 0 0) := ((HQ0.out.set 0 _).set 1 _).cell 1
      all_goals (try go_wp2)
      all_goals (simp only [Exit.jumps])
      all_goals (refine bodyPost_ret (v := .tuple #[.agg #[.int .i64 0, .slice none 0 0], .int .i64 0, .iface 120 (.pointer (some (A 4)))]) (by simp [results, Tryd.results35, go_sem, g0, g1]) rfl (OfOut.no HN0.out rfl ?_))
      all_goals exact bel_two hbl
  · have HN0 : Hid (ripOfR b = none) := ripOfR_head (.inl (by omega))
    have d4 : decide ((b.length : Int) < 4) = true := by simp; omega
    have hgE : 1 < w.heap.size := World.block_lt_of_cell? w _ (hE.1 4 (by omega))
    have hgE2 : ¬ 1 = w.heap.size := by omega
    have hgE3 : ¬ w.heap.size = 1 := by omega
    have hE1 := hE.below (ent_new0 w (.cells #[.int .i64 0, .slice none 0 0] 24))
    have cE : (w.alloc (.cells #[.int .i64 0, .slice none 0 0] 24)).cell? ⟨1, 0, none⟩ = some (.iface 120 (.pointer (some (A 4)))) := hE1.1 4 (by omega)
    have HQ0 : Hid (Row (w.alloc (.cells #[.int .i64 0, .slice none 0 0] 24)) w.heap.size 24 [.int .i64 0, .slice none 0 0]) := Row.new w _ _
    have c0 : (w.alloc (.cells #[.int .i64 0, .slice none 0 0] 24)).cell? ⟨w.heap.size, 0, none⟩ = some (.int .i64 0) := HQ0.out.cell 0
    have c1 : (w.alloc (.cells #[.int .i64 0, .slice none 0 0] 24)).cell? ⟨w.heap.size, 1, none⟩ = some (.slice none 0 0) := HQ0.out.cell 1
    have f0 := HQ0.out.frozen 0
    have f1 := HQ0.out.frozen 1
    have hbl := ent_new0 w (.cells #[.int .i64 0, .slice none 0 0] 24)
    clear hE1 hE hB
    generalize hWW : w.alloc (.cells #[.int .i64 0, .slice none 0 0] 24) = W at *
    have HWW : Hid _ := hWW
    clear hWW
    go_enter Tryd.func35, Tryd.ntmps35
    go_wp2_with fail
    rw [HWW.out]
    refine wp_scope_labels (fun _ _ _ => False) (fun _ _ _ => 0) ?_ (fun _ _ _ h => h.elim)
    go_wp2_with fail
    go_region
    all_goals have g0 : (W.setCell ⟨w.heap.size, 0, none⟩ (.int .i64 0)).cell? ⟨w.heap.size, 0, none⟩ = some (.int .i64 0) := (HQ0.out.set 0 _).cell 0
    all_goals have g1 : ((W.setCell ⟨w.heap.size, 0, none⟩ (.int .i64 0)).setCell ⟨w.heap.size, 1, none⟩ (.slice none 0 0)).cell? ⟨w.heap.size, 1, none⟩ = some (.slice none 0 0) := ((HQ0.out.set 0 _).set 1 _).cell 1
    all_goals (try go_wp2)
    all_goals (simp only [Exit.jumps])
    all_goals (refine bodyPost_ret (v := .tuple #[.agg #[.int .i64 0, .slice none 0 0], .int .i64 0, .iface 120 (.pointer (some (A 4)))]) (by simp [results, Tryd.results35, go_sem, g0, g1]) rfl (OfOut.no HN0.out rfl ?_))
    all_goals exact bel_two hbl
end Go.Proofs.YtehiipddbgoajaaDoor
/- RipRead of the program. -/
namespace Go.Proofs.YtehiipddbgoajaaDoor
open Go.RowKit Go.Sort

/-- What is read of a text: the command, the entries, the code. -/
def rdR (t : ByteArray) : Int × List Ent × Int :=
  if 8000 < t.size then (0, [], 2) else if t.size < 4 then (0, [], 3) else match plainR t with | some (c, es) => (c, es, 0) | none => (0, [], 3)
theorem rdR_long (t : ByteArray) (h : 8000 < t.size) : rdR t = (0, [], 2) := if_pos h
theorem rdR_yes (t : ByteArray) (h8 : t.size ≤ 8000) (c : Int) (es : List Ent) (h : ripOfR t.data.toList = some (c, es, 0)) : rdR t = (c, es, 0) := by
  have h4 : 4 ≤ t.size := by
    rcases Nat.lt_or_ge t.size 4 with h' | h'
    · rw [ripOfR_head (.inl (by simpa using h'))] at h; cases h
    · exact h'
  unfold rdR
  rw [if_neg (by omega), if_neg (by omega), (plain_eq t h4 c es).2 h]
theorem rdR_no (t : ByteArray) (h8 : t.size ≤ 8000) (h : ∀ c es, ripOfR t.data.toList ≠ some (c, es, 0)) : rdR t = (0, [], 3) := by
  unfold rdR
  rw [if_neg (by omega)]
  split
  · rfl
  · rename_i h4
    cases hp : plainR t with
    | none => rfl
    | some x =>
      obtain ⟨c, es⟩ := x
      exact absurd ((plain_eq t (by omega) c es).1 hp) (h c es)
/-- What plainRead hands back. -/
def PlainOut (t : ByteArray) (A : Nat → Addr) (w w' : World) (e : Ending) : Prop :=
  (∃ i, (i = 0 ∨ i = 4) ∧ e = .returned (.tuple #[.agg #[.int .i64 0, .slice none 0 0], errV (A i)]) ∧ rdR t = (0, [], errC i) ∧ Below w.heap.size w w') ∨
  ∃ c es v, e = .returned (.tuple #[.agg #[.int .i64 c, v], .nilIface]) ∧ rdR t = (c, es, 0) ∧ OwnE w' w.heap.size v es ∧ Below w.heap.size w w'
set_option maxRecDepth 100000 in
set_option maxHeartbeats 1000000 in
theorem plainRead_any (t : ByteArray) (w : World) (A : Nat → Addr) (hz : t.size ≤ 1048576) (hE : ErrsIn w A) :
    Calls Tryd.prog 18 #[.string t] w fun e w' => PlainOut t A w w' e := by
  have HQ0 : Hid (Row (w.alloc (.cells #[.int .i64 0, .slice none 0 0] 24)) w.heap.size 24 [.int .i64 0, .slice none 0 0]) := Row.new w _ _
  have HE1 : Hid (ErrsIn (w.alloc (.cells #[.int .i64 0, .slice none 0 0] 24)) A) := hE.below (ent_new0 w _)
  have hg0 : 0 < w.heap.size := World.block_lt_of_cell? w _ (hE.1 0 (by omega))
  have hg4 : 1 < w.heap.size := World.block_lt_of_cell? w _ (hE.1 4 (by omega))
  have hga : ¬ 1 = w.heap.size := by omega
  have hgb : ¬ w.heap.size = 1 := by omega
  have hgc : ¬ 0 = w.heap.size := by omega
  have hgd : ¬ w.heap.size = 0 := by omega
  by_cases h8 : t.size ≤ 8000
  · have d8 : decide (8000 < (t.size : Int)) = false := by simp; omega
    obtain ⟨g, cap, w1, hrun, hcap, hB1, hgl, hgu, hb1⟩ := text_bytes (w.alloc (.cells #[.int .i64 0, .slice none 0 0] 24)) t
    have hts : t.data.toList.length = t.size := by simp
    have HO := ripOf_any t.data.toList g cap w1 A (by omega) (by omega) hB1 (by omega) (HE1.out.below hb1)
    rw [hts] at HO
    have HO' : Hid (Calls Tryd.prog 35 #[.slice (some ⟨g, 0, none⟩) t.size cap] w1 fun e w' => OfOut t.data.toList A w1 w' e) := HO
    have hB : Below w.heap.size w w1 := (ent_new0 w _).trans (hb1.mono (by simp))
    have HQ1 : Hid (Row w1 w.heap.size 24 [.int .i64 0, .slice none 0 0]) := HQ0.out.below hb1 HQ0.out.lt
    have hl1 := HQ1.out.lt
    have HE2 : Hid (ErrsIn w1 A) := HE1.out.below hb1
    clear HO hB1 hb1 HQ0 HE1 hE
    go_enter Tryd.func18, Tryd.ntmps18
    go_wp2_with fail
    refine (HO'.out).mono ?_
    intro e w2 hO
    unfold OfOut at hO
    cases hR : ripOfR t.data.toList with
    | none =>
      rw [hR] at hO
      obtain ⟨rfl, hb2⟩ := hO
      have HR : Hid (rdR t = (0, [], errC 4)) := rdR_no t h8 (fun c es h => by rw [hR] at h; cases h)
      have HQ2 : Hid (Row (w2.alloc (.cells #[.int .i64 0, .slice none 0 0] 24)) w.heap.size 24 [.int .i64 0, .slice none 0 0]) := (HQ1.out.below hb2 HQ1.out.lt).alloc _
      have hbl : Below w.heap.size w (w2.alloc (.cells #[.int .i64 0, .slice none 0 0] 24)) := (hB.trans (hb2.mono hB.size)).alloc (by have := hB.size; have := hb2.size; omega) _
      have qw := HQ1.out.below hb2 HQ1.out.lt
      have c0 : w2.cell? ⟨w.heap.size, 0, none⟩ = some (.int .i64 0) := qw.cell 0
      have c1 : w2.cell? ⟨w.heap.size, 1, none⟩ = some (.slice none 0 0) := qw.cell 1
      have f0 := qw.frozen 0
      have f1 := qw.frozen 1
      clear qw
      have hs2 : w.heap.size < w2.heap.size := by have := hb2.size; omega
      have hb3 : Below w.heap.size w ((w2.setCell ⟨w.heap.size, 0, none⟩ (.int .i64 0)).setCell ⟨w.heap.size, 1, none⟩ (.slice none 0 0)) := ((hB.trans (hb2.mono hB.size)).setCell (p := ⟨w.heap.size, 0, none⟩) (Nat.le_refl _) _).setCell (p := ⟨w.heap.size, 1, none⟩) (Nat.le_refl _) _
      have HS : Hid _ := And.intro ((((HQ1.out.below hb2 HQ1.out.lt).set 0 (.int .i64 0)).set 1 (.slice none 0 0)).alloc (.cells #[.int .i64 0, .slice none 0 0] 24)) (hb3.alloc hb3.size (.cells #[.int .i64 0, .slice none 0 0] 24))
      clear hb3
      unfold errV
      clear hR hb2 HO' HQ1 HQ2 HE2 hrun hgl hgu hbl
      go_wp2_with fail
      have HS2 := HS.out
      clear HS c0 c1 f0 f1
      generalize (((w2.setCell ⟨w.heap.size, 0, none⟩ (.int .i64 0)).setCell ⟨w.heap.size, 1, none⟩ (.slice none 0 0)).alloc (.cells #[.int .i64 0, .slice none 0 0] 24)) = Z at *
      obtain ⟨h1, h2⟩ := HS2
      have r0 : Z.cell? ⟨w.heap.size, 0, none⟩ = some (.int .i64 0) := h1.cell 0
      have r1 : Z.cell? ⟨w.heap.size, 1, none⟩ = some (.slice none 0 0) := h1.cell 1
      refine bodyPost_ret (v := .tuple #[.agg #[.int .i64 0, .slice none 0 0], .iface 120 (.pointer (some (A 4)))]) (by simp [results, Tryd.results18, go_sem, r0, r1]) rfl (.inl ⟨4, .inr rfl, rfl, HR.out, h2⟩)
    | some x =>
      obtain ⟨c, es, q⟩ := x
      rw [hR] at hO
      obtain ⟨v, rfl, ho2, hb2⟩ := hO
      obtain ⟨p, cv, rfl, -⟩ := ho2.form
      have HN : Hid (es.length = es.length) := rfl
      have HQ2 : Hid (Row (w2.alloc (.cells #[.int .i64 c, .slice p es.length cv] 24)) w.heap.size 24 [.int .i64 0, .slice none 0 0]) := (HQ1.out.below hb2 HQ1.out.lt).alloc _
      have hbl : Below w.heap.size w (w2.alloc (.cells #[.int .i64 c, .slice p es.length cv] 24)) := (hB.trans (hb2.mono hB.size)).alloc (by have := hB.size; have := hb2.size; omega) _
      have ho3 := ho2.alloc (.cells #[.int .i64 c, .slice p es.length cv] 24)
      have hE3 := (HE2.out.below hb2).below (ent_new0 w2 (.cells #[.int .i64 c, .slice p es.length cv] 24))
      have qw := HQ1.out.below hb2 HQ1.out.lt
      have c0 : w2.cell? ⟨w.heap.size, 0, none⟩ = some (.int .i64 0) := qw.cell 0
      have c1 : w2.cell? ⟨w.heap.size, 1, none⟩ = some (.slice none 0 0) := qw.cell 1
      have f0 := qw.frozen 0
      have f1 := qw.frozen 1
      clear qw
      have hs2 : w.heap.size < w2.heap.size := by have := hb2.size; omega
      by_cases hq : q = 0
      · subst hq
        have HR : Hid (rdR t = (c, es, 0)) := rdR_yes t h8 c es hR
        have hb3 : Below w.heap.size w ((w2.setCell ⟨w.heap.size, 0, none⟩ (.int .i64 c)).setCell ⟨w.heap.size, 1, none⟩ (.slice p es.length cv)) := ((hB.trans (hb2.mono hB.size)).setCell (p := ⟨w.heap.size, 0, none⟩) (Nat.le_refl _) _).setCell (p := ⟨w.heap.size, 1, none⟩) (Nat.le_refl _) _
        have ho4 : OwnE ((w2.setCell ⟨w.heap.size, 0, none⟩ (.int .i64 c)).setCell ⟨w.heap.size, 1, none⟩ (.slice p es.length cv)) w.heap.size (.slice p es.length cv) es := ((ho2.set ⟨w.heap.size, 0, none⟩ (by show w.heap.size < w1.heap.size; omega) (.int .i64 c)).set ⟨w.heap.size, 1, none⟩ (by show w.heap.size < w1.heap.size; omega) (.slice p es.length cv)).mono (by omega)
        have HS : Hid _ := And.intro ((((HQ1.out.below hb2 HQ1.out.lt).set 0 (.int .i64 c)).set 1 (.slice p es.length cv)).alloc (.cells #[.int .i64 c, .slice p es.length cv] 24)) (And.intro (hb3.alloc hb3.size (.cells #[.int .i64 c, .slice p es.length cv] 24)) (ho4.alloc (.cells #[.int .i64 c, .slice p es.length cv] 24)))
        clear hb3 ho4
        clear hR hb2 HO' HQ1 HQ2 HE2 hrun hgl hgu hbl ho2 ho3 hE3 HN
        generalize es.length = N at *
        go_wp2_with fail
        have HS2 := HS.out
        clear HS c0 c1 f0 f1
        generalize (((w2.setCell ⟨w.heap.size, 0, none⟩ (.int .i64 c)).setCell ⟨w.heap.size, 1, none⟩ (.slice p N cv)).alloc (.cells #[.int .i64 c, .slice p N cv] 24)) = Z at *
        obtain ⟨h1, h2, h3⟩ := HS2
        have r0 : Z.cell? ⟨w.heap.size, 0, none⟩ = some (.int .i64 c) := h1.cell 0
        have r1 : Z.cell? ⟨w.heap.size, 1, none⟩ = some (.slice p N cv) := h1.cell 1
        refine bodyPost_ret (v := .tuple #[.agg #[.int .i64 c, .slice p N cv], .nilIface]) (by simp [results, Tryd.results18, go_sem, r0, r1]) rfl (.inr ⟨c, es, .slice p N cv, rfl, HR.out, h3, h2⟩)
      · have HR : Hid (rdR t = (0, [], errC 4)) := rdR_no t h8 (fun c' es' h => by rw [hR] at h; simp only [Option.some.injEq, Prod.mk.injEq] at h; exact hq h.2.2)
        have dq : (q != 0) = true := by simpa using hq
        have cE : (w2.alloc (.cells #[.int .i64 c, .slice p es.length cv] 24)).cell? ⟨1, 0, none⟩ = some (.iface 120 (.pointer (some (A 4)))) := hE3.1 4 (by omega)
        clear hR hb2 HO' HQ1 HE2 hrun hgl hgu ho2 ho3 hE3 HN
        generalize es.length = N at *
        clear c0 c1 f0 f1
        go_wp2_with fail
        generalize hWW : w2.alloc (.cells #[.int .i64 c, .slice p N cv] 24) = W at *
        clear hWW
        have c0 : W.cell? ⟨w.heap.size, 0, none⟩ = some (.int .i64 0) := HQ2.out.cell 0
        have c1 : W.cell? ⟨w.heap.size, 1, none⟩ = some (.slice none 0 0) := HQ2.out.cell 1
        have f0 := HQ2.out.frozen 0
        have f1 := HQ2.out.frozen 1
        go_region
        all_goals have g0 : (W.setCell ⟨w.heap.size, 0, none⟩ (.int .i64 0)).cell? ⟨w.heap.size, 0, none⟩ = some (.int .i64 0) := (HQ2.out.set 0 _).cell 0
        all_goals have g1 : ((W.setCell ⟨w.heap.size, 0, none⟩ (.int .i64 0)).setCell ⟨w.heap.size, 1, none⟩ (.slice none 0 0)).cell? ⟨w.heap.size, 1, none⟩ = some (.slice none 0 0) := ((HQ2.out.set 0 _).set 1 _).cell 1
        all_goals (try go_wp2)
        all_goals (refine bodyPost_ret (v := .tuple #[.agg #[.int .i64 0, .slice none 0 0], .iface 120 (.pointer (some (A 4)))]) (by simp [results, Tryd.results18, go_sem, g0, g1]) rfl (.inl ⟨4, .inr rfl, rfl, HR.out, ?_⟩))
        all_goals exact bel_two hbl
  · have d8 : decide (8000 < (t.size : Int)) = true := by simp; omega
    have HR : Hid _ := rdR_long t (by omega)
    have c0 : (w.alloc (.cells #[.int .i64 0, .slice none 0 0] 24)).cell? ⟨w.heap.size, 0, none⟩ = some (.int .i64 0) := HQ0.out.cell 0
    have c1 : (w.alloc (.cells #[.int .i64 0, .slice none 0 0] 24)).cell? ⟨w.heap.size, 1, none⟩ = some (.slice none 0 0) := HQ0.out.cell 1
    have f0 := HQ0.out.frozen 0
    have f1 := HQ0.out.frozen 1
    have cE : (w.alloc (.cells #[.int .i64 0, .slice none 0 0] 24)).cell? ⟨0, 0, none⟩ = some (.iface 120 (.pointer (some (A 0)))) := HE1.out.1 0 (by omega)
    have hbl := ent_new0 w (.cells #[.int .i64 0, .slice none 0 0] 24)
    generalize hWW : w.alloc (.cells #[.int .i64 0, .slice none 0 0] 24) = W at *
    have HWW : Hid _ := hWW
    clear hWW HE1 hE
    go_enter Tryd.func18, Tryd.ntmps18
    go_wp2_with fail
    rw [HWW.out]
    go_region
    all_goals have g0 : (W.setCell ⟨w.heap.size, 0, none⟩ (.int .i64 0)).cell? ⟨w.heap.size, 0, none⟩ = some (.int .i64 0) := (HQ0.out.set 0 _).cell 0
    all_goals have g1 : ((W.setCell ⟨w.heap.size, 0, none⟩ (.int .i64 0)).setCell ⟨w.heap.size, 1, none⟩ (.slice none 0 0)).cell? ⟨w.heap.size, 1, none⟩ = some (.slice none 0 0) := ((HQ0.out.set 0 _).set 1 _).cell 1
    all_goals (try go_wp2)
    all_goals (refine bodyPost_ret (v := .tuple #[.agg #[.int .i64 0, .slice none 0 0], .iface 120 (.pointer (some (A 0)))]) (by simp [results, Tryd.results18, go_sem, g0, g1]) rfl (.inl ⟨0, .inl rfl, rfl, HR.out, ?_⟩))
    all_goals exact bel_two hbl
end Go.Proofs.YtehiipddbgoajaaDoor
/- RipRead of the program, at its face. -/
namespace Go.Proofs.YtehiipddbgoajaaDoor
open Go.RowKit Go.Sort

theorem PlainOut.form {t : ByteArray} {A : Nat → Addr} {w w' : World} {e : Ending} (h : PlainOut t A w w' e) : ∃ c es code p N cv err, e = .returned (.tuple #[.agg #[.int .i64 c, .slice p N cv], err]) ∧ rdR t = (c, es, code) ∧ OwnE w' w.heap.size (.slice p N cv) es ∧ Below w.heap.size w w' ∧ ∀ W, ErrsIn W A → Calls Tryd.prog 19 #[err] W fun e w' => e = .returned (.int .i64 code) ∧ W = w' := by
  rcases h with ⟨i, hi, rfl, hr, hb⟩ | ⟨c, es, v, rfl, hr, ho, hb⟩
  · exact ⟨0, [], errC i, none, 0, 0, errV (A i), rfl, hr, OwnE.nil _ _, hb, fun W hE => ripCode_errs A W hE i (by omega)⟩
  · obtain ⟨p, cv, rfl, -⟩ := ho.form
    exact ⟨c, es, 0, p, es.length, cv, .nilIface, rfl, hr, ho, hb, fun W _ => ripCode_nil W⟩
/-- What RipRead hands back. -/
def RdOut (R : Int × List Ent × Int) (q : Int) (w w' : World) (e : Ending) : Prop := ∃ v, e = .returned (.agg #[.int .i64 R.1, v, .int .i64 q, .int .i64 R.2.2]) ∧ OwnE w' w.heap.size v R.2.1 ∧ Below w.heap.size w w'
theorem OwnE.drewN {w : World} {base : Nat} {v : Value} {es : List Ent} (h : OwnE w base v es) (n : Nat) : OwnE (w.drewN n) base v es := h
set_option maxRecDepth 100000 in
set_option maxHeartbeats 1000000 in
theorem implRipRead_any (t : ByteArray) (w : World) (A : Nat → Addr) (hz : t.size ≤ 1048576) (hE : ErrsIn w A) :
    Calls Tryd.prog 6 #[.string t] w fun e w' => RdOut (rdR t) 0 w w' e := by
  have HP : Hid (Calls Tryd.prog 18 #[.string t] (w.alloc (.cells #[.int .i64 0, .slice none 0 0, .int .i64 0, .int .i64 0] 26)) fun e w' => PlainOut t A (w.alloc (.cells #[.int .i64 0, .slice none 0 0, .int .i64 0, .int .i64 0] 26)) w' e) := plainRead_any t _ A hz (hE.below (ent_new0 w _))
  have HQ0 : Hid (Row (w.alloc (.cells #[.int .i64 0, .slice none 0 0, .int .i64 0, .int .i64 0] 26)) w.heap.size 26 [.int .i64 0, .slice none 0 0, .int .i64 0, .int .i64 0]) := Row.new w _ _
  have hE1 := hE.below (ent_new0 w (.cells #[.int .i64 0, .slice none 0 0, .int .i64 0, .int .i64 0] 26))
  have HE1 : Hid (ErrsIn (w.alloc (.cells #[.int .i64 0, .slice none 0 0, .int .i64 0, .int .i64 0] 26)) A) := hE1
  clear hE1 hE
  go_enter Tryd.func6, Tryd.ntmps6
  go_wp2_with fail
  refine (HP.out).mono ?_
  intro e w2 hO
  obtain ⟨c, es, code, p, N, cv, err, rfl, hR, ho, hb2, hC⟩ := hO.form
  clear hO
  have HR : Hid (rdR t = (c, es, code)) := hR
  have hs0 : (w.alloc (.cells #[.int .i64 0, .slice none 0 0, .int .i64 0, .int .i64 0] 26)).heap.size = w.heap.size + 1 := by simp
  rw [hs0] at hb2 ho
  have HQ2 : Hid (Row (w2.alloc (.cells #[.int .i64 c, .slice p N cv] 24)) w.heap.size 26 [.int .i64 0, .slice none 0 0, .int .i64 0, .int .i64 0]) := (HQ0.out.below hb2 (by omega)).alloc _
  have HX2 : Hid (Row (w2.alloc (.cells #[.int .i64 c, .slice p N cv] 24)) w2.heap.size 24 [.int .i64 c, .slice p N cv]) := Row.new w2 _ _
  have hb1 : Below w.heap.size w (w2.alloc (.cells #[.int .i64 c, .slice p N cv] 24)) := ((ent_new0 w _).trans (hb2.mono (by omega))).alloc (by have := hb2.size; rw [hs0] at this; omega) _
  have ho2 := ho.alloc (.cells #[.int .i64 c, .slice p N cv] 24)
  have hE2 : ErrsIn (w2.alloc (.cells #[.int .i64 c, .slice p N cv] 24)) A := (HE1.out.below (by rw [hs0]; exact hb2)).below (ent_new0 w2 _)
  have HC : Hid (∀ n, Calls Tryd.prog 19 #[err] ((w2.alloc (.cells #[.int .i64 c, .slice p N cv] 24)).drewN n) fun e w' => e = .returned (.int .i64 code) ∧ (w2.alloc (.cells #[.int .i64 c, .slice p N cv] 24)).drewN n = w') := fun n => hC _ hE2
  clear HP HE1 HQ0 hb2 ho hC hE2 hR
  go_wp2_with fail
  have HO2 : Hid (OwnE (w2.alloc (.cells #[.int .i64 c, .slice p N cv] 24)) (w.heap.size + 1) (.slice p N cv) es) := ho2
  clear ho2
  generalize w2.alloc (.cells #[.int .i64 c, .slice p N cv] 24) = W at *
  have x0 : W.cell? ⟨w2.heap.size, 0, none⟩ = some (.int .i64 c) := HX2.out.cell 0
  have x1 : W.cell? ⟨w2.heap.size, 1, none⟩ = some (.slice p N cv) := HX2.out.cell 1
  have c0 : W.cell? ⟨w.heap.size, 0, none⟩ = some (.int .i64 0) := HQ2.out.cell 0
  have c1 : W.cell? ⟨w.heap.size, 1, none⟩ = some (.slice none 0 0) := HQ2.out.cell 1
  have c2 : W.cell? ⟨w.heap.size, 2, none⟩ = some (.int .i64 0) := HQ2.out.cell 2
  have c3 : W.cell? ⟨w.heap.size, 3, none⟩ = some (.int .i64 0) := HQ2.out.cell 3
  have f0 := HQ2.out.frozen 0
  have f1 := HQ2.out.frozen 1
  have f2 := HQ2.out.frozen 2
  have f3 := HQ2.out.frozen 3
  refine wp_region_tail 4 (by kernel_rfl) (by kernel_rfl) ?_
  simp only [List.take_succ_cons, List.take_zero, List.drop_succ_cons, List.drop_zero]
  repeat (quiet_step ((go_at_call 19; exact quiet_eqA (HC.out _))))
  refine wpQuiet_nil ?_
  intro _ hw'
  obtain ⟨nq, hw''⟩ := hw'
  subst hw''
  have hres := (((HQ2.out.drewN nq).set 0 (.int .i64 c)).set 1 (.slice p N cv)).set 2 (.int .i64 0) |>.set 3 (.int .i64 code)
  have hbs := ((((below_drewN hb1 nq).setCell (p := ⟨w.heap.size, 0, none⟩) (Nat.le_refl _) (.int .i64 c)).setCell (p := ⟨w.heap.size, 1, none⟩) (Nat.le_refl _) (.slice p N cv)).setCell (p := ⟨w.heap.size, 2, none⟩) (Nat.le_refl _) (.int .i64 0)).setCell (p := ⟨w.heap.size, 3, none⟩) (Nat.le_refl _) (.int .i64 code)
  have hos := (((((HO2.out.drewN nq).set ⟨w.heap.size, 0, none⟩ (by show w.heap.size < w.heap.size + 1; omega) (.int .i64 c)).set ⟨w.heap.size, 1, none⟩ (by show w.heap.size < w.heap.size + 1; omega) (.slice p N cv)).set ⟨w.heap.size, 2, none⟩ (by show w.heap.size < w.heap.size + 1; omega) (.int .i64 0)).set ⟨w.heap.size, 3, none⟩ (by show w.heap.size < w.heap.size + 1; omega) (.int .i64 code)).mono (base' := w.heap.size) (by omega)
  have HZ : Hid _ := And.intro hres (And.intro hbs hos)
  clear hres hbs hos HX2 HQ2 HC HO2 hb1
  go_wp2_with fail
  have HZ2 := HZ.out
  clear HZ c0 c1 c2 c3 f0 f1 f2 f3 x0 x1
  generalize ((((((W.drewN nq).setCell ⟨w.heap.size, 0, none⟩ (.int .i64 c)).setCell ⟨w.heap.size, 1, none⟩ (.slice p N cv)).setCell ⟨w.heap.size, 2, none⟩ (.int .i64 0)).setCell ⟨w.heap.size, 3, none⟩ (.int .i64 code))) = Z at *
  obtain ⟨h1, h2, h3⟩ := HZ2
  have r0 : Z.cell? ⟨w.heap.size, 0, none⟩ = some (.int .i64 c) := h1.cell 0
  have r1 : Z.cell? ⟨w.heap.size, 1, none⟩ = some (.slice p N cv) := h1.cell 1
  have r2 : Z.cell? ⟨w.heap.size, 2, none⟩ = some (.int .i64 0) := h1.cell 2
  have r3 : Z.cell? ⟨w.heap.size, 3, none⟩ = some (.int .i64 code) := h1.cell 3
  refine bodyPost_ret (v := .agg #[.int .i64 c, .slice p N cv, .int .i64 0, .int .i64 code]) (by simp [results, Tryd.results6, go_sem, r0, r1, r2, r3]) rfl ?_
  rw [HR.out]
  exact ⟨_, rfl, h3, h2⟩
end Go.Proofs.YtehiipddbgoajaaDoor
/- Words and their sums, of the model. -/
namespace Go.Proofs.YtehiipddbgoajaaDoor
open Go.RowKit

def wordT (n : Int) : ByteArray := ⟨(wordL n).toArray⟩
theorem wordT_size (n : Int) : (wordT n).size = 2 := rfl
theorem word_conv (n : Int) (w : World) :
    (convert 61 9 (.slice (some ⟨w.heap.size, 0, none⟩) 2 2)).run Tryd.prog (w.alloc (.cells #[.int .u8 (n / 256 % 256), .int .u8 (n % 256)] 5)) = .ok (.string (wordT n)) (w.alloc (.cells #[.int .u8 (n / 256 % 256), .int .u8 (n % 256)] 5)) :=
  conv_lit w [n / 256 % 256, n % 256] 2 rfl (by
    intro x hx
    simp only [List.mem_cons, List.not_mem_nil, or_false] at hx
    omega) (by omega)
set_option maxRecDepth 100000 in
theorem specWord_any (n : Int) (w : World) (h0 : 0 ≤ n) (h1 : n ≤ 9223372036854775807) :
    Calls Tryd.prog 40 #[.int .i64 n] w fun e w' => e = .returned (.string (wordT n)) ∧ Below w.heap.size w w' := by
  have hc := word_conv n w
  have hd : n.tdiv 256 = n / 256 := Int.tdiv_eq_ediv_of_nonneg h0
  have hm : n.tmod 256 = n % 256 := Int.tmod_eq_emod_of_nonneg h0
  have hu : IntKind.u8.wrap (n / 256) = n / 256 % 256 := by rw [IntKind.wrap_u8]
  have hu2 : IntKind.u8.wrap (n % 256) = n % 256 := by rw [IntKind.wrap_u8]; omega
  generalize wordT n = T at *
  go_enter Tryd.func40, Tryd.ntmps40
  go_wp2
  go_ret
  exact ⟨rfl, (Below.refl _ _).alloc (Nat.le_refl _) _⟩
end Go.Proofs.YtehiipddbgoajaaDoor
/- Four bytes of a number, of the model. -/
namespace Go.Proofs.YtehiipddbgoajaaDoor
open Go.RowKit

def fourQL (n : Int) : List UInt8 := wordL (n / 65536) ++ wordL n
def fourQ (n : Int) : ByteArray := ⟨(fourQL n).toArray⟩
theorem fourQ_size (n : Int) : (fourQ n).size = 4 := rfl
theorem fourQ_eq (n : Int) : wordT (n / 65536) ++ wordT (n % 65536) = fourQ n := by
  apply ByteArray.ext
  apply Array.toList_inj.1
  simp [wordT, fourQ, fourQL, wordL_low]
set_option maxRecDepth 100000 in
theorem spec4_any (n : Int) (w : World) (h0 : 0 ≤ n) (h1 : n ≤ 4294967295) :
    Calls Tryd.prog 41 #[.int .i64 n] w fun e w' => e = .returned (.string (fourQ n)) ∧ Below w.heap.size w w' := by
  have hd : n.tdiv 65536 = n / 65536 := Int.tdiv_eq_ediv_of_nonneg h0
  have hm : n.tmod 65536 = n % 65536 := Int.tmod_eq_emod_of_nonneg h0
  have hw1 := wrap_i64_in (n / 65536) (by omega) (by omega)
  have HE : Hid _ := fourQ_eq n
  have H1 : Hid (∀ w, Calls Tryd.prog 40 #[.int .i64 (n / 65536)] w fun e w' => e = .returned (.string (wordT (n / 65536))) ∧ Below w.heap.size w w') := fun w => specWord_any _ w (by omega) (by omega)
  have H2 : Hid (∀ w, Calls Tryd.prog 40 #[.int .i64 (n % 65536)] w fun e w' => e = .returned (.string (wordT (n % 65536))) ∧ Below w.heap.size w w') := fun w => specWord_any _ w (by omega) (by omega)
  have s1 := wordT_size (n / 65536)
  have s2 := wordT_size (n % 65536)
  generalize wordT (n / 65536) = A at *
  generalize wordT (n % 65536) = B at *
  go_enter Tryd.func41, Tryd.ntmps41
  go_wp2_with fail
  refine (H1.out _).mono ?_
  rintro e w1 ⟨rfl, hb1⟩
  go_wp2_with fail
  refine (H2.out _).mono ?_
  rintro e w2 ⟨rfl, hb2⟩
  go_wp2
  go_ret
  exact ⟨by rw [← HE.out]; rfl, hb1.trans (hb2.mono hb1.size)⟩
end Go.Proofs.YtehiipddbgoajaaDoor
