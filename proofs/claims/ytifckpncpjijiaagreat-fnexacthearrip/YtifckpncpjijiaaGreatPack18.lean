/- Texts that stand on each other, in one file: ToRip, HearU, InstOutL, ToInst2, StabInst. -/
import Derived.Test.YtifckpncpjijiaaGreatPack17
import Derived.Test.YtifckpncpjijiaaGreatPack13
import Derived.Test.YtifckpncpjijiaaGreatPack3
/- The laws' own Rips measured and handed over. -/
namespace Go.Proofs.YtifckpncpjijiaaGreat
open Go.RowKit Go.Sort

theorem Tryz.infoE : (Tryz.prog.info? 95).map (fun i => (i.zero, i.size, i.bytes)) = some (some (.agg #[.int .i64 0, .int .i64 0, .int .i64 0, .int .i64 0, .int .i64 0]), 5, 40) := by kernel_rfl
def zeroEnt : Ent := ⟨0, 0, 0, 0, 0⟩
theorem rowE_zero (n : Nat) : rowE (List.replicate n zeroEnt) = List.replicate (n * 5) (.int .i64 0) := by
  induction n with
  | zero => rfl
  | succ n ih =>
    rw [List.replicate_succ, rowE_cons, ih, show (n + 1) * 5 = 5 + n * 5 by omega, ← List.replicate_append_replicate]
    rfl
theorem made_zero (n : Nat) : (madeCells (Value.agg #[.int .i64 0, .int .i64 0, .int .i64 0, .int .i64 0, .int .i64 0]).cells (n * 5)).toList = List.replicate (n * 5) (.int .i64 0) := by
  rw [List.eq_replicate_iff]
  refine ⟨by simp [madeCells], fun b hb => ?_⟩
  simp only [madeCells, Value.cells, Array.toList_map, List.mem_map] at hb
  obtain ⟨i, _, rfl⟩ := hb
  have h5 : i % 5 = 0 ∨ i % 5 = 1 ∨ i % 5 = 2 ∨ i % 5 = 3 ∨ i % 5 = 4 := by omega
  rcases h5 with h | h | h | h | h <;> simp [h]
set_option maxRecDepth 100000 in
/-- 'make([]Entry, n)'. -/
theorem wpList_make_ents {w : World} {ops : Array Oper} {rest : List Oper} {o : Oper} {a : Act} {Q : Exit → Act → World → Prop}
    (hgd : o.guard = none) (l c : Operand) (hop : o.op = Op.makeSlice 43 l c)
    (L : Int) (n : Nat) (hl : a.eval l = .int .i64 L) (hc : a.eval c = .int .i64 L) (hL : L = (n : Int)) (hn : n ≤ 100000000)
    (B : Nat) (w0 : World) (hb : Below B w0 w) (hB : B ≤ w.heap.size)
    (h : ∀ w', Row w' w.heap.size 95 (rowE (List.replicate n zeroEnt)) → Below B w0 w' → wpList Tryz.prog ops Q rest (a.put o.dst (.slice (some ⟨w.heap.size, 0, none⟩) n n)) w') : wpList Tryz.prog ops Q (o :: rest) a w := by
  obtain ⟨i0, hi0, hz0, hz1, hz2⟩ := info_parts Tryz.infoE
  refine wpList_make_full w hgd l c 43 hop B 95 i0 _ 5 Tryz.underlying43 hi0 hz0 hz1 .i64 .i64 L L n hl hc hL hL (by rw [hz2]; omega) (by unfold maxLen; omega) hB ?_
  intro w' hown hgrow
  rcases hown.2 with ⟨h', _⟩ | ⟨g, cap, cur, h', hbg, hg, hnc, hcm, hcs, htake⟩
  · simp at h'
  · simp only [Value.slice.injEq, Option.some.injEq, Addr.mk.injEq, and_true, true_and] at h'
    obtain ⟨rfl, rfl⟩ := h'
    refine h w' ?_ (hb.trans ((Below.refl B w).grown hgrow hB (by intro k hk; cases hk)))
    unfold Row
    rw [hg, rowE_zero, ← made_zero, ← htake, List.take_of_length_le (by simp [hcs])]
theorem rowE_set (es : List Ent) (k : Nat) (hk : k < es.length) (a l n m t : Int) (he : es[k] = ⟨a, l, n, m, t⟩) :
    (((((rowE (es.take k ++ List.replicate (es.length - k) zeroEnt)).set (k * 5) (.int .i64 a)).set (k * 5 + 1) (.int .i64 l)).set (k * 5 + 2) (.int .i64 n)).set (k * 5 + 3) (.int .i64 m)).set (k * 5 + 4) (.int .i64 t) = rowE (es.take (k + 1) ++ List.replicate (es.length - (k + 1)) zeroEnt) := by
  have e1 : es.length - k = (es.length - (k + 1)) + 1 := by omega
  rw [e1, List.replicate_succ, rowE_append, rowE_cons, List.take_succ_eq_append_getElem hk, List.append_assoc, rowE_append, List.singleton_append, rowE_cons, he]
  exact set5 _ _ k (by rw [rowE_length, List.length_take]; omega) _ _ _ _ _ _ _ _ _ _
set_option maxRecDepth 100000 in
theorem szEntryS_any (x : Option Addr) (len cap : Nat) (w : World) (hl : len ≤ maxLen) : Calls Tryz.prog 43 #[.slice x len cap, .int .i64 1048576] w fun e w' => e = .returned (.int .i64 (if len ≤ 1048576 then 1048576 - (len : Int) else -1)) ∧ w = w' := by
  unfold maxLen at hl
  by_cases h : len ≤ 1048576
  · rw [if_pos h]
    have d : decide (1048576 - (len : Int) < 0) = false := by simp; omega
    go_enter Tryz.func43, Tryz.ntmps43
    go_wp2
    go_ret
    exact ⟨rfl, rfl⟩
  · rw [if_neg h]
    have d : decide (1048576 - (len : Int) < 0) = true := by simp; omega
    go_enter Tryz.func43, Tryz.ntmps43
    go_wp2
    go_ret
    exact ⟨rfl, rfl⟩
set_option maxRecDepth 100000 in
theorem szRip_any (c : Int) (x : Option Addr) (len cap : Nat) (w : World) (hl : len ≤ maxLen) : Calls Tryz.prog 10 #[ripV c x len cap, .int .i64 1048576] w fun e w' => e = .returned (.int .i64 (if len ≤ 1048576 then 1048576 - (len : Int) else -1)) ∧ Below w.heap.size w w' := by
  have HS : Hid (∀ w, Calls Tryz.prog 43 #[.slice x len cap, .int .i64 1048576] w fun e w' => e = .returned (.int .i64 (if len ≤ 1048576 then 1048576 - (len : Int) else -1)) ∧ w = w') := fun w => szEntryS_any x len cap w hl
  unfold maxLen at hl
  unfold ripV
  by_cases h : len ≤ 1048576
  · rw [if_pos h] at *
    have d : decide (1048576 - (len : Int) < 0) = false := by simp; omega
    go_enter Tryz.func10, Tryz.ntmps10
    go_wp2_with fail
    refine (HS.out _).mono ?_
    rintro e w1 ⟨rfl, rfl⟩
    go_wp2
    go_ret
    exact ⟨rfl, ent_new0 w _⟩
  · rw [if_neg h] at *
    go_enter Tryz.func10, Tryz.ntmps10
    go_wp2_with fail
    refine (HS.out _).mono ?_
    rintro e w1 ⟨rfl, rfl⟩
    go_wp2
    go_ret
    exact ⟨rfl, ent_new0 w _⟩
set_option maxRecDepth 100000 in
theorem toEntryS_any (x : Option Addr) (cap : Nat) (es : List Ent) (w : World) (h : ArgE w x es.length es) (hn : es.length ≤ 1048576) :
    Calls Tryz.prog 51 #[.slice x es.length cap] w fun e w' => ∃ g, e = .returned (.slice (some ⟨g, 0, none⟩) es.length es.length) ∧ w.heap.size ≤ g ∧ Row w' g 95 (rowE es) ∧ Below w.heap.size w w' := by
  have HE : Hid (∀ e w, Calls Tryz.prog 101 #[entV e] w fun r w' => r = .returned (entV e) ∧ Below w.heap.size w w') := toEntry_any
  have HX : Hid (ArgE w x es.length es) := h
  clear h
  go_enter Tryz.func51, Tryz.ntmps51
  go_wp2_with (at_make; refine wpList_make_ents rfl _ _ rfl _ es.length rfl rfl rfl (by omega) w.heap.size w (Below.refl _ _) (Nat.le_refl _) ?_)
  intro w0 hr0 hb0
  have hz : es.take 0 ++ List.replicate (es.length - 0) zeroEnt = List.replicate es.length zeroEnt := by simp
  rw [← hz] at hr0
  clear hz
  go_wp2_with fail
  go_loopw [4] (fun i wr => ∃ k : Nat, k ≤ es.length ∧ i = .int .i64 k ∧ Row wr w.heap.size 95 (rowE (es.take k ++ List.replicate (es.length - k) zeroEnt)) ∧ Below w.heap.size w wr) (fun i _ => es.length - (intOf i).toNat)
  case atStart => exact ⟨0, Nat.zero_le _, rfl, hr0, hb0⟩
  case round =>
    obtain ⟨k, hk, rfl, hr, hb⟩ := hrel
    by_cases hlt : k < es.length
    · obtain ⟨p, a, l, n, m, t, rfl, hek, c0, c1, c2, c3, c4⟩ := (HX.out.below hb).at k hlt
      have HEk : Hid (∀ w, Calls Tryz.prog 101 #[.agg #[.int .i64 a, .int .i64 l, .int .i64 n, .int .i64 m, .int .i64 t]] w fun r w' => r = .returned (.agg #[.int .i64 a, .int .i64 l, .int .i64 n, .int .i64 m, .int .i64 t]) ∧ Below w.heap.size w w') := HE.out ⟨a, l, n, m, t⟩
      have hset := rowE_set es k hlt a l n m t hek
      have HS : Hid _ := hset
      clear hset HE hek hr0 hb0
      go_wp2_with fail
      refine (HEk.out _).mono ?_
      rintro e w1 ⟨rfl, hb1⟩
      have hr1 := hr.below hb1 hr.lt
      have hB1 := hb.trans (hb1.mono hb.size)
      clear c0 c1 c2 c3 c4 hb1 HEk hr hb
      have hlr : (rowE (es.take k ++ List.replicate (es.length - k) zeroEnt)).length = es.length * 5 := by rw [rowE_length]; simp; omega
      obtain ⟨z0, hz0⟩ := Row.someE hr1 (k * 5) (by omega)
      obtain ⟨z1, hz1⟩ := Row.someE hr1 (k * 5 + 1) (by omega)
      obtain ⟨z2, hz2⟩ := Row.someE hr1 (k * 5 + 2) (by omega)
      obtain ⟨z3, hz3⟩ := Row.someE hr1 (k * 5 + 3) (by omega)
      obtain ⟨z4, hz4⟩ := Row.someE hr1 (k * 5 + 4) (by omega)
      have f0 := hr1.frozen (k * 5)
      have f1 := hr1.frozen (k * 5 + 1)
      have f2 := hr1.frozen (k * 5 + 2)
      have f3 := hr1.frozen (k * 5 + 3)
      have f4 := hr1.frozen (k * 5 + 4)
      have hr2 := five5_row hr1 (k * 5) (.int .i64 a) (.int .i64 l) (.int .i64 n) (.int .i64 m) (.int .i64 t)
      rw [HS.out] at hr2
      have hB2 := five5_below hB1 w.heap.size (k * 5) (Nat.le_refl _) (.int .i64 a) (.int .i64 l) (.int .i64 n) (.int .i64 m) (.int .i64 t)
      unfold five5 at hr2 hB2
      have HH : Hid _ := And.intro hr2 hB2
      clear hr1 hB1 HS hlr hr2 hB2
      go_wp2_with fail
      go_roundw
      case rel => exact ⟨k + 1, hlt, by go_num, HH.out.1, HH.out.2⟩
      case measure => simp [intOf]; omega
    · obtain rfl : k = es.length := by omega
      rw [List.take_length, Nat.sub_self, List.replicate_zero, List.append_nil] at hr
      clear hlt hk
      go_wp2
      go_ret
      exact ⟨_, rfl, Nat.le_refl _, hr, hb⟩
theorem three2 (w : World) (a0 a1 b0 b1 c0 c1 : Value) (t u y : TypeId) : ∃ W, W = ((w.alloc (.cells #[a0, a1] t)).alloc (.cells #[b0, b1] u)).alloc (.cells #[c0, c1] y) ∧ Row W w.heap.size t [a0, a1] ∧ Row W (w.heap.size + 1) u [b0, b1] ∧ Row W (w.heap.size + 1 + 1) y [c0, c1] ∧ Below w.heap.size w W ∧ W.heap.size = w.heap.size + 1 + 1 + 1 := by
  have q0 := ((Row.new w t [a0, a1]).alloc (.cells #[b0, b1] u)).alloc (.cells #[c0, c1] y)
  have q1 := (Row.new (w.alloc (.cells #[a0, a1] t)) u [b0, b1]).alloc (.cells #[c0, c1] y)
  have q2 := Row.new ((w.alloc (.cells #[a0, a1] t)).alloc (.cells #[b0, b1] u)) y [c0, c1]
  have e1 : (w.alloc (.cells #[a0, a1] t)).heap.size = w.heap.size + 1 := by simp
  have e2 : ((w.alloc (.cells #[a0, a1] t)).alloc (.cells #[b0, b1] u)).heap.size = w.heap.size + 1 + 1 := by simp
  rw [e1] at q1
  rw [e2] at q2
  exact ⟨_, rfl, q0, q1, q2, ((ent_new0 w _).alloc (by simp) _).alloc (by simp; omega) _, by simp⟩
set_option maxRecDepth 100000 in
theorem toRip_any (c : Int) (x : Option Addr) (cap : Nat) (es : List Ent) (w : World) (h : ArgE w x es.length es) (hn : es.length ≤ 1048576) :
    Calls Tryz.prog 13 #[ripV c x es.length cap] w fun e w' => ∃ g, e = .returned (ripV c (some ⟨g, 0, none⟩) es.length es.length) ∧ w.heap.size ≤ g ∧ Row w' g 95 (rowE es) ∧ Below w.heap.size w w' := by
  have HE : Hid (∀ w, ArgE w x es.length es → Calls Tryz.prog 51 #[.slice x es.length cap] w fun e w' => ∃ g, e = .returned (.slice (some ⟨g, 0, none⟩) es.length es.length) ∧ w.heap.size ≤ g ∧ Row w' g 95 (rowE es) ∧ Below w.heap.size w w') := fun w h => toEntryS_any x cap es w h hn
  have HX : Hid (ArgE w x es.length es) := h
  clear h
  unfold ripV
  generalize es.length = N at *
  obtain ⟨W, hW, q0, q1, q2, hB, hS⟩ := three2 w (.int .i64 c) (.slice x N cap) (.int .i64 0) (.slice none 0 0) (.int .i64 c) (.slice none 0 0) 30 45 45
  have HW : Hid _ := hW
  clear hW
  go_enter Tryz.func13, Tryz.ntmps13
  go_wp2_with fail
  rw [← HW.out]
  refine (HE.out _ (HX.out.below hB)).mono ?_
  rintro e w1 ⟨g, rfl, hg, hr, hb1⟩
  have p1 := q1.below hb1 q1.lt
  have p2 := q2.below hb1 q2.lt
  have hB1 := hB.trans (hb1.mono (by omega))
  have hg2 : w.heap.size + 1 + 1 < g := by omega
  clear q0 q1 q2 hb1 HW HX HE hB
  have b0 : w1.cell? ⟨w.heap.size + 1, 0, none⟩ = some (.int .i64 0) := p1.cell 0
  have b1 : w1.cell? ⟨w.heap.size + 1, 1, none⟩ = some (.slice none 0 0) := p1.cell 1
  have d0 : w1.cell? ⟨w.heap.size + 1 + 1, 0, none⟩ = some (.int .i64 c) := p2.cell 0
  have d1 : w1.cell? ⟨w.heap.size + 1 + 1, 1, none⟩ = some (.slice none 0 0) := p2.cell 1
  have f0 := p1.frozen 0
  have f1 := p1.frozen 1
  have g1 := p2.frozen 1
  have hrow : Row (((w1.setCell ⟨w.heap.size + 1 + 1, 1, none⟩ (.slice (some ⟨g, 0, none⟩) N N)).setCell ⟨w.heap.size + 1, 0, none⟩ (.int .i64 c)).setCell ⟨w.heap.size + 1, 1, none⟩ (.slice (some ⟨g, 0, none⟩) N N)) g 95 (rowE es) := ((hr.other 1 _ (by omega)).other 0 _ (by omega)).other 1 _ (by omega)
  have hres : Row (((w1.setCell ⟨w.heap.size + 1 + 1, 1, none⟩ (.slice (some ⟨g, 0, none⟩) N N)).setCell ⟨w.heap.size + 1, 0, none⟩ (.int .i64 c)).setCell ⟨w.heap.size + 1, 1, none⟩ (.slice (some ⟨g, 0, none⟩) N N)) (w.heap.size + 1) 45 [.int .i64 c, .slice (some ⟨g, 0, none⟩) N N] := ((p1.other 1 _ (by omega)).set 0 _).set 1 _
  have hbel : Below w.heap.size w (((w1.setCell ⟨w.heap.size + 1 + 1, 1, none⟩ (.slice (some ⟨g, 0, none⟩) N N)).setCell ⟨w.heap.size + 1, 0, none⟩ (.int .i64 c)).setCell ⟨w.heap.size + 1, 1, none⟩ (.slice (some ⟨g, 0, none⟩) N N)) := ((hB1.setCell (p := ⟨w.heap.size + 1 + 1, 1, none⟩) (by show w.heap.size ≤ w.heap.size + 1 + 1; omega) _).setCell (p := ⟨w.heap.size + 1, 0, none⟩) (by show w.heap.size ≤ w.heap.size + 1; omega) _).setCell (p := ⟨w.heap.size + 1, 1, none⟩) (by show w.heap.size ≤ w.heap.size + 1; omega) _
  have HH : Hid _ := And.intro hrow (And.intro hres hbel)
  clear hrow hres hbel p1 p2 hr hB1
  go_wp2_with fail
  have HH2 := HH.out
  clear HH b0 b1 d0 d1 f0 f1 g1
  generalize (((w1.setCell ⟨w.heap.size + 1 + 1, 1, none⟩ (.slice (some ⟨g, 0, none⟩) N N)).setCell ⟨w.heap.size + 1, 0, none⟩ (.int .i64 c)).setCell ⟨w.heap.size + 1, 1, none⟩ (.slice (some ⟨g, 0, none⟩) N N)) = Z at *
  obtain ⟨h1, h2, h3⟩ := HH2
  have b0 : Z.cell? ⟨w.heap.size + 1, 0, none⟩ = some (.int .i64 c) := h2.cell 0
  have b1 : Z.cell? ⟨w.heap.size + 1, 1, none⟩ = some (.slice (some ⟨g, 0, none⟩) N N) := h2.cell 1
  refine bodyPost_ret (v := .agg #[.int .i64 c, .slice (some ⟨g, 0, none⟩) N N]) (by simp [results, Tryz.results13, go_sem, b0, b1]) rfl ⟨g, rfl, by omega, h1, h3⟩
end Go.Proofs.YtifckpncpjijiaaGreat
/- Sizes of routers and Rips from any number; marks of entries from any number. -/
namespace Go.Proofs.YtifckpncpjijiaaGreat
open Go.RowKit Go.Sort

set_option maxRecDepth 100000 in
theorem szInstB_any (x : Option Addr) (n1 c1 : Nat) (y : Option Addr) (n2 c2 : Nat) (now : Int) (w : World) (h1 : n1 ≤ maxLen) (h2 : n2 ≤ maxLen) :
    Calls Tryz.prog 9 #[instV x n1 c1 y n2 c2 now, .int .i64 1048576] w fun e w' => (∃ v : Int, e = .returned (.int .i64 v) ∧ (v < 0 ∨ 0 ≤ v ∧ v ≤ 1048576 ∧ n1 ≤ 1048576 ∧ n2 ≤ 1048576)) ∧ Below w.heap.size w w' := by
  have HA : Hid (∀ w, Calls Tryz.prog 41 #[.slice x n1 c1, .int .i64 1048576] w fun e w' => e = .returned (.int .i64 (if (n1 : Int) ≤ 1048576 then 1048576 - (n1 : Int) else -1)) ∧ w = w') := fun w => szIfaceSL_any x n1 c1 1048576 w h1 (by omega) (by omega)
  have HB : Hid (∀ L : Int, 0 ≤ L → L ≤ 1048576 → ∀ w, Calls Tryz.prog 42 #[.agg #[.slice y n2 c2], .int .i64 L] w fun e w' => e = .returned (.int .i64 (if (n2 : Int) ≤ L then L - (n2 : Int) else -1)) ∧ Below w.heap.size w w') := fun L a b w => szRibL_any y n2 c2 L w h2 a b
  unfold instV
  by_cases k1 : (n1 : Int) ≤ 1048576
  · rw [if_pos k1] at HA
    have HB1 : Hid _ := HB.out (1048576 - (n1 : Int)) (by omega) (by omega)
    have d1 : decide (1048576 - (n1 : Int) < 0) = false := by simp; omega
    clear HB h1 h2
    by_cases k2 : (n2 : Int) ≤ 1048576 - (n1 : Int)
    · rw [if_pos k2] at HB1
      have d2 : decide (1048576 - (n1 : Int) - (n2 : Int) < 0) = false := by simp; omega
      go_enter Tryz.func9, Tryz.ntmps9
      go_wp2_with fail
      refine (HA.out _).mono ?_
      rintro e w1 ⟨rfl, rfl⟩
      go_wp2_with fail
      refine (HB1.out _).mono ?_
      rintro e w2 ⟨rfl, hb2⟩
      obtain ⟨-, hB⟩ := box3i hb2
      clear hb2
      go_wp2
      go_ret
      exact ⟨⟨_, rfl, .inr ⟨by omega, by omega, by omega, by omega⟩⟩, hB⟩
    · rw [if_neg k2] at HB1
      go_enter Tryz.func9, Tryz.ntmps9
      go_wp2_with fail
      refine (HA.out _).mono ?_
      rintro e w1 ⟨rfl, rfl⟩
      go_wp2_with fail
      refine (HB1.out _).mono ?_
      rintro e w2 ⟨rfl, hb2⟩
      obtain ⟨-, hB⟩ := box3i hb2
      clear hb2
      go_wp2
      go_ret
      exact ⟨⟨_, rfl, .inl (by omega)⟩, hB⟩
  · rw [if_neg k1] at HA
    clear HB h1 h2
    go_enter Tryz.func9, Tryz.ntmps9
    go_wp2_with fail
    refine (HA.out _).mono ?_
    rintro e w1 ⟨rfl, rfl⟩
    go_wp2
    go_ret
    exact ⟨⟨_, rfl, .inl (by omega)⟩, ent_new0 w _⟩
set_option maxRecDepth 100000 in
theorem szEntryK_any (x : Option Addr) (len cap : Nat) (L : Int) (w : World) (hl : len ≤ maxLen) (h0 : 0 ≤ L) (h1 : L ≤ 1048576) : Calls Tryz.prog 43 #[.slice x len cap, .int .i64 L] w fun e w' => (∃ v : Int, e = .returned (.int .i64 v) ∧ (v < 0 ∨ 0 ≤ v ∧ len ≤ 1048576)) ∧ w = w' := by
  unfold maxLen at hl
  by_cases h : (len : Int) ≤ L
  · have d : decide (L - (len : Int) < 0) = false := by simp; omega
    have hw : IntKind.i64.wrap (L - (len : Int)) = L - (len : Int) := wrap_i64_in _ (by omega) (by omega)
    go_enter Tryz.func43, Tryz.ntmps43
    go_wp2
    go_ret
    exact ⟨⟨_, rfl, .inr ⟨by omega, by omega⟩⟩, rfl⟩
  · have d : decide (L - (len : Int) < 0) = true := by simp; omega
    have hw : IntKind.i64.wrap (L - (len : Int)) = L - (len : Int) := wrap_i64_in _ (by omega) (by omega)
    go_enter Tryz.func43, Tryz.ntmps43
    go_wp2
    go_ret
    exact ⟨⟨_, rfl, .inl (by omega)⟩, rfl⟩
set_option maxRecDepth 100000 in
theorem szRipK_any (c : Int) (x : Option Addr) (len cap : Nat) (L : Int) (w : World) (hl : len ≤ maxLen) (h0 : 0 ≤ L) (h1 : L ≤ 1048576) : Calls Tryz.prog 10 #[.agg #[.int .i64 c, .slice x len cap], .int .i64 L] w fun e w' => (∃ v : Int, e = .returned (.int .i64 v) ∧ (v < 0 ∨ 0 ≤ v ∧ len ≤ 1048576)) ∧ Below w.heap.size w w' := by
  have HS : Hid (∀ w, Calls Tryz.prog 43 #[.slice x len cap, .int .i64 L] w fun e w' => (∃ v : Int, e = .returned (.int .i64 v) ∧ (v < 0 ∨ 0 ≤ v ∧ len ≤ 1048576)) ∧ w = w') := fun w => szEntryK_any x len cap L w hl h0 h1
  clear hl h0 h1
  go_enter Tryz.func10, Tryz.ntmps10
  go_wp2_with fail
  refine (HS.out _).mono ?_
  rintro e w1 ⟨⟨v, rfl, hv⟩, rfl⟩
  by_cases h : v < 0
  · have d : decide (v < 0) = true := by simpa using h
    go_wp2
    go_ret
    exact ⟨⟨-1, rfl, .inl (by omega)⟩, ent_new0 w _⟩
  · have d : decide (v < 0) = false := by simpa using h
    go_wp2
    go_ret
    exact ⟨⟨v, rfl, hv⟩, ent_new0 w _⟩
set_option maxRecDepth 100000 in
set_option maxHeartbeats 1000000 in
theorem markEntryK (g n cv : Nat) (l : List Value) (K : Int) (w : World) (hn : l.length = n * 5) (h8 : n ≤ 1048576) (h0 : 0 ≤ K) (h1 : K ≤ 100000000) (hr : Row w g 95 l) :
    Calls Tryz.prog 65 #[.slice (some ⟨g, 0, none⟩) n cv, .int .i64 K] w fun e w' => e = .returned (.int .i64 (K + 5 * (n : Int))) ∧ Below g w w' ∧ ∀ b t l, b ≠ g → Row w b t l → Row w' b t l := by
  go_enter Tryz.func65, Tryz.ntmps65
  go_wp2_with fail
  go_loopw [5, 1] (fun i m wr => ∃ (k : Nat) (l' : List Value), k ≤ n ∧ i = .int .i64 k ∧ m = .int .i64 (K + 5 * (k : Int)) ∧ l'.length = n * 5 ∧ Row wr g 95 l' ∧ Below g w wr ∧ ∀ b t l, b ≠ g → Row w b t l → Row wr b t l) (fun i _ _ => n - (intOf i).toNat)
  case atStart => exact ⟨0, l, Nat.zero_le _, rfl, by simp, hn, hr, Below.refl _ _, fun _ _ _ _ h => h⟩
  case round =>
    obtain ⟨k, l', hk, rfl, rfl, hn', hr', hb, hoth⟩ := hrel
    have HOT : Hid (∀ b t l, b ≠ g → Row w b t l → Row wr b t l) := hoth
    clear hr hoth hn
    by_cases hlt : k < n
    · obtain ⟨z0, c0⟩ := Row.someE hr' (k * 5) (by omega)
      obtain ⟨z1, c1⟩ := Row.someE hr' (k * 5 + 1) (by omega)
      obtain ⟨z2, c2⟩ := Row.someE hr' (k * 5 + 2) (by omega)
      obtain ⟨z3, c3⟩ := Row.someE hr' (k * 5 + 3) (by omega)
      obtain ⟨z4, c4⟩ := Row.someE hr' (k * 5 + 4) (by omega)
      have f0 := hr'.frozen (k * 5)
      have f1 := hr'.frozen (k * 5 + 1)
      have f2 := hr'.frozen (k * 5 + 2)
      have f3 := hr'.frozen (k * 5 + 3)
      have f4 := hr'.frozen (k * 5 + 4)
      have hr2 := five5_row hr' (k * 5) (.int .i64 (K + 5 * (k : Int))) (.int .i64 (K + 5 * (k : Int) + 1)) (.int .i64 (K + 5 * (k : Int) + 1 + 1)) (.int .i64 (K + 5 * (k : Int) + 1 + 1 + 1)) (.int .i64 (K + 5 * (k : Int) + 1 + 1 + 1 + 1))
      have hB2 := five5_below hb g (k * 5) (Nat.le_refl _) (.int .i64 (K + 5 * (k : Int))) (.int .i64 (K + 5 * (k : Int) + 1)) (.int .i64 (K + 5 * (k : Int) + 1 + 1)) (.int .i64 (K + 5 * (k : Int) + 1 + 1 + 1)) (.int .i64 (K + 5 * (k : Int) + 1 + 1 + 1 + 1))
      have hO2 := fun b t l (hne : b ≠ g) (h : Row w b t l) => five5_other (HOT.out b t l hne h) hne (k * 5) (.int .i64 (K + 5 * (k : Int))) (.int .i64 (K + 5 * (k : Int) + 1)) (.int .i64 (K + 5 * (k : Int) + 1 + 1)) (.int .i64 (K + 5 * (k : Int) + 1 + 1 + 1)) (.int .i64 (K + 5 * (k : Int) + 1 + 1 + 1 + 1))
      unfold five5 at hr2 hB2 hO2
      have HH : Hid _ := And.intro hr2 (And.intro hB2 hO2)
      clear hr' hb hr2 hB2 hO2 HOT
      go_wp2_with fail
      refine ⟨⟨k + 1, _, hlt, by go_num, by rw [show K + 5 * (k : Int) + 1 + 1 + 1 + 1 + 1 = K + 5 * ((k + 1 : Nat) : Int) by omega], ?_, HH.out.1, HH.out.2.1, HH.out.2.2⟩, ?_⟩
      · simpa using hn'
      · simp [intOf]
        omega
    · obtain rfl : k = n := by omega
      clear hlt hk
      go_wp2
      go_ret
      exact ⟨rfl, hb, HOT.out⟩
set_option maxRecDepth 100000 in
theorem markRipK (c : Int) (g n cv B : Nat) (l : List Value) (K : Int) (w : World) (hn : l.length = n * 5) (h8 : n ≤ 1048576) (h0 : 0 ≤ K) (h1 : K ≤ 100000000) (hr : Row w g 95 l) (hg : B ≤ g) (hB : B ≤ w.heap.size) :
    Calls Tryz.prog 19 #[.agg #[.int .i64 c, .slice (some ⟨g, 0, none⟩) n cv], .int .i64 K] w fun e w' => e = .returned (.int .i64 (K + 5 * (n : Int))) ∧ Below B w w' ∧ ∀ b t l, b ≠ g → Row w b t l → Row w' b t l := by
  have HM : Hid (Calls Tryz.prog 65 #[.slice (some ⟨g, 0, none⟩) n cv, .int .i64 K] (w.alloc (.cells #[.int .i64 c, .slice (some ⟨g, 0, none⟩) n cv] 45)) fun e w' => e = .returned (.int .i64 (K + 5 * (n : Int))) ∧ Below g (w.alloc (.cells #[.int .i64 c, .slice (some ⟨g, 0, none⟩) n cv] 45)) w' ∧ ∀ b t l, b ≠ g → Row (w.alloc (.cells #[.int .i64 c, .slice (some ⟨g, 0, none⟩) n cv] 45)) b t l → Row w' b t l) := markEntryK g n cv l K _ hn h8 h0 h1 (hr.alloc _)
  clear hr hn h8 h0 h1
  go_enter Tryz.func19, Tryz.ntmps19
  go_wp2_with fail
  refine (HM.out).mono ?_
  rintro e w1 ⟨rfl, hb, hot⟩
  have hBB : Below B w w1 := ((Below.refl B w).alloc hB _).trans (hb.mono hg)
  have HOT : Hid (∀ b t l, b ≠ g → Row w b t l → Row w1 b t l) := fun b t l hp h => hot b t l hp (h.alloc _)
  clear hb hot
  go_wp2
  go_ret
  exact ⟨rfl, hBB, HOT.out⟩
end Go.Proofs.YtifckpncpjijiaaGreat
/- The laws' own looks at an Inst and an InstOut that are handed back: alike, marked, held. (Written by gen_iout.py.) -/
namespace Go.Proofs.YtifckpncpjijiaaGreat
open Go.RowKit Go.Sort

theorem ownsR_keptK {w w' : World} {base : Nat} {p : Option Addr} {n cv : Nat} {xs : List Value} (h : w.ownsRow base 98 9 (.slice p n cv) n xs) (hk : ∀ b t l, p = some ⟨b, 0, none⟩ → Row w b t l → Row w' b t l) : w'.ownsRow base 98 9 (.slice p n cv) n xs := by
  refine ⟨h.1, ?_⟩
  rcases h.2 with h2 | ⟨g, cap, cur, e1, e2, e3, e4⟩
  · exact .inl h2
  · simp only [Value.slice.injEq] at e1
    obtain ⟨rfl, _, rfl⟩ := e1
    have := hk g 98 cur.toList rfl (by unfold Row; simpa using e3)
    exact .inr ⟨g, _, cur, rfl, e2, by unfold Row at this; simpa using this, e4⟩
set_option maxRecDepth 100000 in
set_option maxHeartbeats 2000000 in
theorem markInst_any (K : Nat) (p : Option Addr) (n c : Nat) (q : Option Addr) (m d : Nat) (now : Int) (base : Nat) (is : List If) (rs : List Rt) (w : World) (hn : n = is.length) (hm : m = rs.length) (hK : K ≤ 1000) (h8 : n ≤ 10000000) (h9 : m ≤ 100000000) (hi : w.ownsRow base 89 5 (.slice p n c) n (rowI is)) (hr : w.ownsRow base 98 9 (.slice q m d) m (rowR rs)) (hbs : base ≤ w.heap.size) :
    Calls Tryz.prog 18 #[.agg #[.slice p n c, .slice q m d, .int .i64 now], .int .i64 K] w fun e w' => e = .returned (.int .i64 ((K : Int) + 5 * (n : Int) + 9 * (m : Int))) ∧ w'.ownsRow base 89 5 (.slice p n c) n (rowI (marksI K n)) ∧ w'.ownsRow base 98 9 (.slice q m d) m (rowR (marksR (K + 5 * n) m)) ∧ Below base w w' ∧ ∀ b t l, p ≠ some ⟨b, 0, none⟩ → q ≠ some ⟨b, 0, none⟩ → Row w b t l → Row w' b t l := by
  have HM : Hid (Calls Tryz.prog 63 #[.slice p n c, .int .i64 K] (w.alloc (.cells #[.slice p n c, .slice q m d, .int .i64 now] 38)) fun e w' => e = .returned (.int .i64 ((K : Int) + 5 * (n : Int))) ∧ w'.ownsRow base 89 5 (.slice p n c) n (rowI (marksI K n)) ∧ Below base (w.alloc (.cells #[.slice p n c, .slice q m d, .int .i64 now] 38)) w' ∧ ∀ b t l, p ≠ some ⟨b, 0, none⟩ → Row (w.alloc (.cells #[.slice p n c, .slice q m d, .int .i64 now] 38)) b t l → Row w' b t l) := markIfaceS_any K p n c base is _ hn (by omega) (by omega) (World.ownsRow.alloc hi _)
  have HR : Hid (∀ w1 : World, w1.ownsRow base 98 9 (.slice q m d) m (rowR rs) → base ≤ w1.heap.size → Calls Tryz.prog 64 #[.agg #[.slice q m d], .int .i64 ((K : Int) + 5 * (n : Int))] w1 fun e w' => e = .returned (.int .i64 ((K : Int) + 5 * (n : Int) + 9 * (m : Int))) ∧ w'.ownsRow base 98 9 (.slice q m d) m (rowR (marksR (K + 5 * n) m)) ∧ Below base w1 w' ∧ ∀ b t l, q ≠ some ⟨b, 0, none⟩ → Row w1 b t l → Row w' b t l) := fun w1 h1 h2 => by
    have := markRib_any (K + 5 * n) q m d base rs w1 hm (by omega) h9 h1 h2
    simpa using this
  have hr := World.ownsRow.alloc hr (.cells #[.slice p n c, .slice q m d, .int .i64 now] 38)
  have hi := World.ownsRow.alloc hi (.cells #[.slice p n c, .slice q m d, .int .i64 now] 38)
  have r0 := Row.new w 38 [.slice p n c, .slice q m d, .int .i64 now]
  have hB0 := (Below.refl base w).alloc hbs (.cells #[.slice p n c, .slice q m d, .int .i64 now] 38)
  have HK : Hid (∀ b t l, Row w b t l → Row (w.alloc (.cells #[.slice p n c, .slice q m d, .int .i64 now] 38)) b t l) := fun b t l h => h.alloc _
  have HA : Hid _ := And.intro hr (And.intro hi (And.intro r0 hB0))
  clear hr hi r0 hB0 hn hm hK h8 h9
  go_enter Tryz.func18, Tryz.ntmps18
  go_wp2_with fail
  obtain ⟨hr, hi, r0, hB⟩ := HA.out
  generalize w.alloc (.cells #[.slice p n c, .slice q m d, .int .i64 now] 38) = W at *
  refine (HM.out).mono ?_
  rintro e w1 ⟨rfl, oi, hb1, hk1⟩
  have hr := ownsR_keptK hr (fun b t l e h => hk1 b t l (ownsIR_ne hi hr e) h)
  have r0 := hk1 _ _ _ (ownsI_ne hi r0 (by decide)) r0
  have hB := hB.trans hb1
  have HK1 : Hid (∀ b t l, p ≠ some ⟨b, 0, none⟩ → Row w b t l → Row w1 b t l) := fun b t l hp h => hk1 b t l hp (HK.out b t l h)
  have hs1 := hb1.size
  have hsB := hB.size
  clear hb1 hk1 HM HA HK hi
  have y1 : w1.cell? ⟨w.heap.size, 1, none⟩ = some (.slice q m d) := r0.cell 1
  go_wp2_with fail
  refine (HR.out w1 hr (by omega)).mono ?_
  rintro e w2 ⟨rfl, or2, hb2, hk2⟩
  have oi := ownsI_kept oi (fun b t l e h => hk2 b t l (ownsRI_ne oi hr e) h)
  have hB := hB.trans hb2
  have HK2 : Hid (∀ b t l, p ≠ some ⟨b, 0, none⟩ → q ≠ some ⟨b, 0, none⟩ → Row w b t l → Row w2 b t l) := fun b t l hp hq h => hk2 b t l hq (HK1.out b t l hp h)
  clear hb2 hk2 HR HK1 y1 r0 hr
  go_wp2
  go_ret
  exact ⟨rfl, oi, or2, hB, HK2.out⟩
set_option maxRecDepth 100000 in
set_option maxHeartbeats 2000000 in
theorem markInstOut_any (K : Nat) (cc : Int) (p : Option Addr) (n c : Nat) (q : Option Addr) (m d : Nat) (now : Int) (base : Nat) (is : List If) (rs : List Rt) (w : World) (hn : n = is.length) (hm : m = rs.length) (hK : K ≤ 1000) (h8 : n ≤ 10000000) (h9 : m ≤ 100000000) (hi : w.ownsRow base 89 5 (.slice p n c) n (rowI is)) (hr : w.ownsRow base 98 9 (.slice q m d) m (rowR rs)) (hbs : base ≤ w.heap.size) :
    Calls Tryz.prog 20 #[.agg #[.slice p n c, .slice q m d, .int .i64 now, .int .i64 cc], .int .i64 K] w fun e w' => e = .returned (.int .i64 ((K : Int) + 5 * (n : Int) + 9 * (m : Int))) ∧ w'.ownsRow base 89 5 (.slice p n c) n (rowI (marksI K n)) ∧ w'.ownsRow base 98 9 (.slice q m d) m (rowR (marksR (K + 5 * n) m)) ∧ Below base w w' ∧ ∀ b t l, p ≠ some ⟨b, 0, none⟩ → q ≠ some ⟨b, 0, none⟩ → Row w b t l → Row w' b t l := by
  have HM : Hid (Calls Tryz.prog 18 #[.agg #[.slice p n c, .slice q m d, .int .i64 now], .int .i64 K] (w.alloc (.cells #[.slice p n c, .slice q m d, .int .i64 now, .int .i64 cc] 40)) fun e w' => e = .returned (.int .i64 ((K : Int) + 5 * (n : Int) + 9 * (m : Int))) ∧ w'.ownsRow base 89 5 (.slice p n c) n (rowI (marksI K n)) ∧ w'.ownsRow base 98 9 (.slice q m d) m (rowR (marksR (K + 5 * n) m)) ∧ Below base (w.alloc (.cells #[.slice p n c, .slice q m d, .int .i64 now, .int .i64 cc] 40)) w' ∧ ∀ b t l, p ≠ some ⟨b, 0, none⟩ → q ≠ some ⟨b, 0, none⟩ → Row (w.alloc (.cells #[.slice p n c, .slice q m d, .int .i64 now, .int .i64 cc] 40)) b t l → Row w' b t l) := markInst_any K p n c q m d now base is rs _ hn hm hK h8 h9 (World.ownsRow.alloc hi _) (World.ownsRow.alloc hr _) (by simp; omega)
  have hB0 := (Below.refl base w).alloc hbs (.cells #[.slice p n c, .slice q m d, .int .i64 now, .int .i64 cc] 40)
  have HK : Hid (∀ b t l, Row w b t l → Row (w.alloc (.cells #[.slice p n c, .slice q m d, .int .i64 now, .int .i64 cc] 40)) b t l) := fun b t l h => h.alloc _
  clear hi hr hn hm hK h8 h9
  go_enter Tryz.func20, Tryz.ntmps20
  go_wp2_with fail
  refine (HM.out).mono ?_
  rintro e w1 ⟨rfl, oi, orr, hb1, hk1⟩
  have hB := hB0.trans hb1
  have HK1 : Hid (∀ b t l, p ≠ some ⟨b, 0, none⟩ → q ≠ some ⟨b, 0, none⟩ → Row w b t l → Row w1 b t l) := fun b t l hp hq h => hk1 b t l hp hq (HK.out b t l h)
  clear hb1 hk1 HM HK hB0
  go_wp2
  go_ret
  exact ⟨rfl, oi, orr, hB, HK1.out⟩
set_option maxRecDepth 100000 in
set_option maxHeartbeats 2000000 in
theorem heldInst_any (K : Nat) (p : Option Addr) (n c : Nat) (q : Option Addr) (m d : Nat) (now : Int) (w : World) (hK : K ≤ 1000) (h8 : n ≤ 10000000) (h9 : m ≤ 100000000) (hi : IfsIn w p (marksI K n)) (hr : RtsIn w q (marksR (K + 5 * n) m)) :
    Calls Tryz.prog 66 #[.agg #[.slice p n c, .slice q m d, .int .i64 now], .int .i64 K] w fun e w' => e = .returned (.int .i64 ((K : Int) + 5 * (n : Int) + 9 * (m : Int))) ∧ Below w.heap.size w w' := by
  have HM : Hid (Calls Tryz.prog 113 #[.slice p n c, .int .i64 K] (w.alloc (.cells #[.slice p n c, .slice q m d, .int .i64 now] 38)) fun e w' => e = .returned (.int .i64 ((K : Int) + 5 * (n : Int))) ∧ (w.alloc (.cells #[.slice p n c, .slice q m d, .int .i64 now] 38)) = w') := heldIfaceS_in K p n c _ (by omega) (by omega) (hi.alloc _)
  have HR : Hid (Calls Tryz.prog 114 #[.agg #[.slice q m d], .int .i64 ((K : Int) + 5 * (n : Int))] (w.alloc (.cells #[.slice p n c, .slice q m d, .int .i64 now] 38)) fun e w' => e = .returned (.int .i64 ((K : Int) + 5 * (n : Int) + 9 * (m : Int))) ∧ Below (w.alloc (.cells #[.slice p n c, .slice q m d, .int .i64 now] 38)).heap.size (w.alloc (.cells #[.slice p n c, .slice q m d, .int .i64 now] 38)) w') := by
    have := heldRib_any (K + 5 * n) q m d (w.alloc (.cells #[.slice p n c, .slice q m d, .int .i64 now] 38)) (by omega) h9 (hr.alloc _)
    unfold Hid
    simpa using this
  have r0 := Row.new w 38 [.slice p n c, .slice q m d, .int .i64 now]
  have y1 : (w.alloc (.cells #[.slice p n c, .slice q m d, .int .i64 now] 38)).cell? ⟨w.heap.size, 1, none⟩ = some (.slice q m d) := r0.cell 1
  have hB0 := ent_new0 w (.cells #[.slice p n c, .slice q m d, .int .i64 now] 38)
  have d1 : decide ((K : Int) + 5 * (n : Int) < 0) = false := by simp; omega
  have d2 : decide (((K : Int) + 5 * (n : Int) + 9 * (m : Int)) < 0) = false := by simp; omega
  clear hi hr hK h8 h9 r0
  go_enter Tryz.func66, Tryz.ntmps66
  go_wp2_with fail
  refine (HM.out).mono ?_
  rintro e w1 ⟨rfl, rfl⟩
  go_wp2_with fail
  refine (HR.out).mono ?_
  rintro e w2 ⟨rfl, hb2⟩
  have hB := hB0.trans (hb2.mono (by simp))
  clear hb2
  go_wp2
  go_ret
  exact ⟨rfl, hB⟩
set_option maxRecDepth 100000 in
set_option maxHeartbeats 2000000 in
theorem heldInstOut_any (K : Nat) (cc : Int) (p : Option Addr) (n c : Nat) (q : Option Addr) (m d : Nat) (now : Int) (w : World) (hK : K ≤ 1000) (h8 : n ≤ 10000000) (h9 : m ≤ 100000000) (hi : IfsIn w p (marksI K n)) (hr : RtsIn w q (marksR (K + 5 * n) m)) :
    Calls Tryz.prog 21 #[.agg #[.slice p n c, .slice q m d, .int .i64 now, .int .i64 cc], .int .i64 K] w fun e w' => e = .returned (.int .i64 ((K : Int) + 5 * (n : Int) + 9 * (m : Int))) ∧ Below w.heap.size w w' := by
  have HM : Hid (Calls Tryz.prog 66 #[.agg #[.slice p n c, .slice q m d, .int .i64 now], .int .i64 K] (w.alloc (.cells #[.slice p n c, .slice q m d, .int .i64 now, .int .i64 cc] 40)) fun e w' => e = .returned (.int .i64 ((K : Int) + 5 * (n : Int) + 9 * (m : Int))) ∧ Below (w.alloc (.cells #[.slice p n c, .slice q m d, .int .i64 now, .int .i64 cc] 40)).heap.size (w.alloc (.cells #[.slice p n c, .slice q m d, .int .i64 now, .int .i64 cc] 40)) w') := heldInst_any K p n c q m d now _ hK h8 h9 (hi.alloc _) (hr.alloc _)
  have hB0 := ent_new0 w (.cells #[.slice p n c, .slice q m d, .int .i64 now, .int .i64 cc] 40)
  have d2 : decide (((K : Int) + 5 * (n : Int) + 9 * (m : Int)) < 0) = false := by simp; omega
  clear hi hr hK h8 h9
  go_enter Tryz.func21, Tryz.ntmps21
  go_wp2_with fail
  refine (HM.out).mono ?_
  rintro e w2 ⟨rfl, hb2⟩
  have hB := hB0.trans (hb2.mono (by simp))
  clear hb2
  go_wp2
  go_ret
  exact ⟨rfl, hB⟩
set_option maxRecDepth 100000 in
set_option maxHeartbeats 2000000 in
theorem eqInstOut_any (cc : Int) (p p' : Option Addr) (n c c' : Nat) (q q' : Option Addr) (m d d' : Nat) (now : Int) (is : List If) (rs : List Rt) (w : World) (hn : n = is.length) (hm : m = rs.length) (h8 : n ≤ 100000000) (h9 : m ≤ 100000000) (h1 : IfsIn w p is) (h2 : IfsIn w p' is) (h3 : RtsIn w q rs) (h4 : RtsIn w q' rs) :
    Calls Tryz.prog 15 #[.agg #[.slice p n c, .slice q m d, .int .i64 now, .int .i64 cc], .agg #[.slice p' n c', .slice q' m d', .int .i64 now, .int .i64 cc]] w fun e w' => e = .returned (.bool true) ∧ Below w.heap.size w w' := by
  subst hn hm
  have HE : Hid (∀ w, IfsIn w p is → IfsIn w p' is → RtsIn w q rs → RtsIn w q' rs → Calls Tryz.prog 16 #[.agg #[.slice p is.length c, .slice q rs.length d, .int .i64 now], .agg #[.slice p' is.length c', .slice q' rs.length d', .int .i64 now]] w fun e w' => e = .returned (.bool true) ∧ Below w.heap.size w w') := fun w a b e f => eqInst_any p p' c c' q q' d d' is rs now w a b e f h8 h9
  have HX : Hid _ := And.intro h1 (And.intro h2 (And.intro h3 h4))
  have q0 := (Row.new w 40 [.slice p is.length c, .slice q rs.length d, .int .i64 now, .int .i64 cc]).alloc (.cells #[.slice p' is.length c', .slice q' rs.length d', .int .i64 now, .int .i64 cc] 40)
  have q1 := Row.new (w.alloc (.cells #[.slice p is.length c, .slice q rs.length d, .int .i64 now, .int .i64 cc] 40)) 40 [.slice p' is.length c', .slice q' rs.length d', .int .i64 now, .int .i64 cc]
  clear h1 h2 h3 h4 h8 h9
  go_enter Tryz.func15, Tryz.ntmps15
  go_wp2_with fail
  refine (HE.out _ ((HX.out.1.alloc _).alloc _) ((HX.out.2.1.alloc _).alloc _) ((HX.out.2.2.1.alloc _).alloc _) ((HX.out.2.2.2.alloc _).alloc _)).mono ?_
  rintro e w1 ⟨rfl, hb1⟩
  have p0 := q0.below hb1 q0.lt
  have p1 := q1.below hb1 q1.lt
  rw [show (w.alloc (.cells #[.slice p is.length c, .slice q rs.length d, .int .i64 now, .int .i64 cc] 40)).heap.size = w.heap.size + 1 by simp] at p1
  have hB : Below w.heap.size w w1 := ((ent_new0 w _).alloc (by simp) _).trans (hb1.mono (by simp; omega))
  have c1 : w1.cell? ⟨w.heap.size, 3, none⟩ = some (.int .i64 cc) := p0.cell 3
  have d1 : w1.cell? ⟨w.heap.size + 1, 3, none⟩ = some (.int .i64 cc) := p1.cell 3
  clear hb1 HE HX q0 q1 p0 p1
  go_wp2
  go_ret
  exact ⟨rfl, hB⟩
end Go.Proofs.YtifckpncpjijiaaGreat
/- An Inst handed over: its lists are new. (Written by gen_iout.py.) -/
namespace Go.Proofs.YtifckpncpjijiaaGreat
open Go.RowKit Go.Sort

set_option maxRecDepth 100000 in
set_option maxHeartbeats 4000000 in
theorem toInst_new (x : Option Addr) (c1 : Nat) (y : Option Addr) (c2 : Nat) (is : List If) (rs : List Rt) (now : Int) (w : World) (h1 : ArgI w x is.length is) (h2 : ArgR w y rs.length rs) (hn1 : is.length ≤ 1048576) (hn2 : rs.length ≤ 1048576) :
    Calls Tryz.prog 12 #[instV x is.length c1 y rs.length c2 now] w fun e w' => ∃ g h, e = .returned (instV (some ⟨g, 0, none⟩) is.length is.length (some ⟨h, 0, none⟩) rs.length rs.length now) ∧ w.heap.size ≤ g ∧ w.heap.size ≤ h ∧ Row w' g 89 (rowI is) ∧ Row w' h 98 (rowR rs) ∧ Below w.heap.size w w' := by
  have HI : Hid (∀ w, ArgI w x is.length is → Calls Tryz.prog 49 #[.slice x is.length c1] w fun e w' => ∃ g, e = .returned (.slice (some ⟨g, 0, none⟩) is.length is.length) ∧ w.heap.size ≤ g ∧ Row w' g 89 (rowI is) ∧ Below w.heap.size w w') := fun w h => toIfaceS_any x c1 is w h hn1
  have HR : Hid (∀ w, ArgR w y rs.length rs → Calls Tryz.prog 50 #[.agg #[.slice y rs.length c2]] w fun e w' => ∃ g, e = .returned (.agg #[.slice (some ⟨g, 0, none⟩) rs.length rs.length]) ∧ w.heap.size ≤ g ∧ Row w' g 98 (rowR rs) ∧ Below w.heap.size w w') := fun w h => toRib_any y c2 rs w h hn2
  have HX : Hid (ArgI w x is.length is ∧ ArgR w y rs.length rs) := ⟨h1, h2⟩
  clear h1 h2 hn1 hn2
  unfold instV
  generalize is.length = n1 at *
  generalize rs.length = n2 at *
  obtain ⟨W, hW, q0, q1, q2, hB, hS⟩ := three_new w [.slice x n1 c1, .slice y n2 c2, .int .i64 now] [.slice none 0 0, .slice none 0 0, .int .i64 0] [.slice none 0 0, .slice none 0 0, .int .i64 0] 27 38 38
  have HW : Hid _ := hW
  have HQ : Hid _ := And.intro q0 (And.intro q1 (And.intro q2 hB))
  clear hW q0 q1 q2 hB
  go_enter Tryz.func12, Tryz.ntmps12
  go_wp2_with fail
  rw [← HW.out]
  obtain ⟨q0, q1, q2, hB⟩ := HQ.out
  refine (HI.out _ (HX.out.1.below hB)).mono ?_
  rintro e w1 ⟨g, rfl, hg, rg, hb1⟩
  have q0 := q0.below hb1 q0.lt
  have q1 := q1.below hb1 q1.lt
  have q2 := q2.below hb1 q2.lt
  have hB := hB.trans (hb1.mono (by omega))
  have hs1 := hb1.size
  clear hb1 HI HW HQ
  have x1 : w1.cell? ⟨w.heap.size, 1, none⟩ = some (.slice y n2 c2) := q0.cell 1
  have f0 : w1.frozen? ⟨w.heap.size + 1 + 1, 0, none⟩ = false := q2.frozen 0
  have z0 : w1.cell? ⟨w.heap.size + 1 + 1, 0, none⟩ = some (.slice none 0 0) := q2.cell 0
  have HE : Hid _ := And.intro (q0.other 0 (.slice (some ⟨g, 0, none⟩) n1 n1) (show w.heap.size ≠ w.heap.size + 1 + 1 by omega)) (And.intro (q1.other 0 (.slice (some ⟨g, 0, none⟩) n1 n1) (show w.heap.size + 1 ≠ w.heap.size + 1 + 1 by omega)) (And.intro (q2.set 0 (.slice (some ⟨g, 0, none⟩) n1 n1)) (And.intro (rg.other 0 (.slice (some ⟨g, 0, none⟩) n1 n1) (show g ≠ w.heap.size + 1 + 1 by omega)) (hB.setCell (p := ⟨w.heap.size + 1 + 1, 0, none⟩) (by show w.heap.size ≤ w.heap.size + 1 + 1; omega) (.slice (some ⟨g, 0, none⟩) n1 n1)))))
  clear q0 q1 q2 rg hB
  go_wp2_with fail
  clear x1 f0 z0
  have hsz : (w1.setCell ⟨w.heap.size + 1 + 1, 0, none⟩ (.slice (some ⟨g, 0, none⟩) n1 n1)).heap.size = w1.heap.size := by simp
  generalize w1.setCell ⟨w.heap.size + 1 + 1, 0, none⟩ (.slice (some ⟨g, 0, none⟩) n1 n1) = W1 at *
  obtain ⟨q0, q1, q2, rg, hB⟩ := HE.out
  clear HE
  refine (HR.out _ (HX.out.2.below hB)).mono ?_
  rintro e w2 ⟨h, rfl, hh, rh, hb2⟩
  have q0 := q0.below hb2 q0.lt
  have q1 := q1.below hb2 q1.lt
  have q2 := q2.below hb2 q2.lt
  have rg := rg.below hb2 rg.lt
  have hB := hB.trans (hb2.mono hB.size)
  clear hb2 HR
  have x2 : w2.cell? ⟨w.heap.size, 2, none⟩ = some (.int .i64 now) := q0.cell 2
  have a0 : w2.cell? ⟨w.heap.size + 1 + 1, 0, none⟩ = some (.slice (some ⟨g, 0, none⟩) n1 n1) := q2.cell 0
  have f0 : w2.frozen? ⟨w.heap.size + 1 + 1, 0, none⟩ = false := q2.frozen 0
  have a1 : w2.cell? ⟨w.heap.size + 1 + 1, 1, none⟩ = some (.slice none 0 0) := q2.cell 1
  have f1 : w2.frozen? ⟨w.heap.size + 1 + 1, 1, none⟩ = false := q2.frozen 1
  have a2 : w2.cell? ⟨w.heap.size + 1 + 1, 2, none⟩ = some (.int .i64 0) := q2.cell 2
  have f2 : w2.frozen? ⟨w.heap.size + 1 + 1, 2, none⟩ = false := q2.frozen 2
  have b0 : w2.cell? ⟨w.heap.size + 1, 0, none⟩ = some (.slice none 0 0) := q1.cell 0
  have e0 : w2.frozen? ⟨w.heap.size + 1, 0, none⟩ = false := q1.frozen 0
  have b1 : w2.cell? ⟨w.heap.size + 1, 1, none⟩ = some (.slice none 0 0) := q1.cell 1
  have e1 : w2.frozen? ⟨w.heap.size + 1, 1, none⟩ = false := q1.frozen 1
  have b2 : w2.cell? ⟨w.heap.size + 1, 2, none⟩ = some (.int .i64 0) := q1.cell 2
  have e2 : w2.frozen? ⟨w.heap.size + 1, 2, none⟩ = false := q1.frozen 2
  have hGG : w.heap.size ≤ g := by omega
  have hHH : w.heap.size ≤ h := by omega
  have ng2 : g ≠ w.heap.size + 1 + 1 := by omega
  have ng1 : g ≠ w.heap.size + 1 := by omega
  have nh2 : h ≠ w.heap.size + 1 + 1 := by omega
  have nh1 : h ≠ w.heap.size + 1 := by omega
  have n12 : w.heap.size + 1 ≠ w.heap.size + 1 + 1 := by omega
  have HF : Hid (Row (((((w2.setCell ⟨w.heap.size + 1 + 1, 1, none⟩ (.slice (some ⟨h, 0, none⟩) n2 n2)).setCell ⟨w.heap.size + 1 + 1, 2, none⟩ (.int .i64 now)).setCell ⟨w.heap.size + 1, 0, none⟩ (.slice (some ⟨g, 0, none⟩) n1 n1)).setCell ⟨w.heap.size + 1, 1, none⟩ (.slice (some ⟨h, 0, none⟩) n2 n2)).setCell ⟨w.heap.size + 1, 2, none⟩ (.int .i64 now)) (w.heap.size + 1) 38 [.slice (some ⟨g, 0, none⟩) n1 n1, .slice (some ⟨h, 0, none⟩) n2 n2, .int .i64 now] ∧ Row (((((w2.setCell ⟨w.heap.size + 1 + 1, 1, none⟩ (.slice (some ⟨h, 0, none⟩) n2 n2)).setCell ⟨w.heap.size + 1 + 1, 2, none⟩ (.int .i64 now)).setCell ⟨w.heap.size + 1, 0, none⟩ (.slice (some ⟨g, 0, none⟩) n1 n1)).setCell ⟨w.heap.size + 1, 1, none⟩ (.slice (some ⟨h, 0, none⟩) n2 n2)).setCell ⟨w.heap.size + 1, 2, none⟩ (.int .i64 now)) g 89 (rowI is) ∧ Row (((((w2.setCell ⟨w.heap.size + 1 + 1, 1, none⟩ (.slice (some ⟨h, 0, none⟩) n2 n2)).setCell ⟨w.heap.size + 1 + 1, 2, none⟩ (.int .i64 now)).setCell ⟨w.heap.size + 1, 0, none⟩ (.slice (some ⟨g, 0, none⟩) n1 n1)).setCell ⟨w.heap.size + 1, 1, none⟩ (.slice (some ⟨h, 0, none⟩) n2 n2)).setCell ⟨w.heap.size + 1, 2, none⟩ (.int .i64 now)) h 98 (rowR rs) ∧ Below w.heap.size w (((((w2.setCell ⟨w.heap.size + 1 + 1, 1, none⟩ (.slice (some ⟨h, 0, none⟩) n2 n2)).setCell ⟨w.heap.size + 1 + 1, 2, none⟩ (.int .i64 now)).setCell ⟨w.heap.size + 1, 0, none⟩ (.slice (some ⟨g, 0, none⟩) n1 n1)).setCell ⟨w.heap.size + 1, 1, none⟩ (.slice (some ⟨h, 0, none⟩) n2 n2)).setCell ⟨w.heap.size + 1, 2, none⟩ (.int .i64 now))) := ⟨((((((q1.other 1 (.slice (some ⟨h, 0, none⟩) n2 n2) n12).other 2 (.int .i64 now) n12).set 0 (.slice (some ⟨g, 0, none⟩) n1 n1)).set 1 (.slice (some ⟨h, 0, none⟩) n2 n2)).set 2 (.int .i64 now))), ((((((rg).other 1 (.slice (some ⟨h, 0, none⟩) n2 n2) ng2).other 2 (.int .i64 now) ng2).other 0 (.slice (some ⟨g, 0, none⟩) n1 n1) ng1).other 1 (.slice (some ⟨h, 0, none⟩) n2 n2) ng1).other 2 (.int .i64 now) ng1), ((((((rh).other 1 (.slice (some ⟨h, 0, none⟩) n2 n2) nh2).other 2 (.int .i64 now) nh2).other 0 (.slice (some ⟨g, 0, none⟩) n1 n1) nh1).other 1 (.slice (some ⟨h, 0, none⟩) n2 n2) nh1).other 2 (.int .i64 now) nh1), (((((hB.setCell (p := ⟨w.heap.size + 1 + 1, 1, none⟩) (by show w.heap.size ≤ w.heap.size + 1 + 1; omega) (.slice (some ⟨h, 0, none⟩) n2 n2)).setCell (p := ⟨w.heap.size + 1 + 1, 2, none⟩) (by show w.heap.size ≤ w.heap.size + 1 + 1; omega) (.int .i64 now)).setCell (p := ⟨w.heap.size + 1, 0, none⟩) (by show w.heap.size ≤ w.heap.size + 1; omega) (.slice (some ⟨g, 0, none⟩) n1 n1)).setCell (p := ⟨w.heap.size + 1, 1, none⟩) (by show w.heap.size ≤ w.heap.size + 1; omega) (.slice (some ⟨h, 0, none⟩) n2 n2)).setCell (p := ⟨w.heap.size + 1, 2, none⟩) (by show w.heap.size ≤ w.heap.size + 1; omega) (.int .i64 now))⟩
  clear q0 q1 q2 rg rh hB
  go_wp2_with fail
  have hF := HF.out
  clear HF x2 a0 f0 b0 e0 a1 f1 b1 e1 a2 f2 b2 e2
  generalize (((((w2.setCell ⟨w.heap.size + 1 + 1, 1, none⟩ (.slice (some ⟨h, 0, none⟩) n2 n2)).setCell ⟨w.heap.size + 1 + 1, 2, none⟩ (.int .i64 now)).setCell ⟨w.heap.size + 1, 0, none⟩ (.slice (some ⟨g, 0, none⟩) n1 n1)).setCell ⟨w.heap.size + 1, 1, none⟩ (.slice (some ⟨h, 0, none⟩) n2 n2)).setCell ⟨w.heap.size + 1, 2, none⟩ (.int .i64 now)) = Z at *
  obtain ⟨k1, k2, k3, k4⟩ := hF
  have e0 : Z.cell? ⟨w.heap.size + 1, 0, none⟩ = some (.slice (some ⟨g, 0, none⟩) n1 n1) := k1.cell 0
  have e1 : Z.cell? ⟨w.heap.size + 1, 1, none⟩ = some (.slice (some ⟨h, 0, none⟩) n2 n2) := k1.cell 1
  have e2 : Z.cell? ⟨w.heap.size + 1, 2, none⟩ = some (.int .i64 now) := k1.cell 2
  exact bodyPost_ret (v := .agg #[.slice (some ⟨g, 0, none⟩) n1 n1, .slice (some ⟨h, 0, none⟩) n2 n2, .int .i64 now]) (by simp [results, Tryz.results12, go_sem, e0, e1, e2]) rfl ⟨g, h, rfl, hGG, hHH, k2, k3, k4⟩
end Go.Proofs.YtifckpncpjijiaaGreat
/- An Inst handed over is kept. (Written by gen_near2.py.) -/
namespace Go.Proofs.YtifckpncpjijiaaGreat
open Go.RowKit Go.Sort

theorem stab_inst (n1 n2 : Nat) (now : Int) (is : List If) (rs : List Rt) : ∀ (v : Value) (w1 w2 : World), (∃ g h, v = .agg #[.slice (some ⟨g, 0, none⟩) n1 n1, .slice (some ⟨h, 0, none⟩) n2 n2, .int .i64 now] ∧ Row w1 g 89 (rowI is) ∧ Row w1 h 98 (rowR rs)) → Below w1.heap.size w1 w2 → ∃ g h, v = .agg #[.slice (some ⟨g, 0, none⟩) n1 n1, .slice (some ⟨h, 0, none⟩) n2 n2, .int .i64 now] ∧ Row w2 g 89 (rowI is) ∧ Row w2 h 98 (rowR rs) := by
  rintro v w1 w2 ⟨g, h, e, a, b⟩ hb
  exact ⟨g, h, e, a.below hb a.lt, b.below hb b.lt⟩
end Go.Proofs.YtifckpncpjijiaaGreat
