/- Texts that stand on each other, in one file: NewS. -/
import Derived.Test.YtialedffpaoacaaGreatDoorPack36
import Derived.Test.YtialedffpaoacaaGreatDoorPack28
import Derived.Test.YtialedffpaoacaaGreatDoorPack29
import Derived.Test.YtialedffpaoacaaGreatDoorPack2
import Derived.Test.YtialedffpaoacaaGreatDoorPack21
/- InstNew of the model. (Written by gen_new.py.) -/
namespace Go.Proofs.YtialedffpaoacaaGreatDoor
open Go.RowKit Go.Sort

theorem cell_other (w : World) (p q : Addr) (v : Value) (h : q.block ≠ p.block) : (w.setCell p v).cell? q = w.cell? q := by
  unfold World.cell?
  rw [Below.heap_setCell w p v q.block h]
theorem outI_ofN {base n d1 d2 : Nat} {cc now : Int} {is : List If} {rs : List Rt} {e : Ending} {w : World} {p q : Option Addr} (hn : is.length = n) (he : e = .returned (.agg #[.slice p n d1, .slice q rs.length d2, .int .i64 now, .int .i64 cc])) (oi : w.ownsRow base 72 5 (.slice p n d1) n (rowI is)) (orr : w.ownsRow base 144 9 (.slice q rs.length d2) rs.length (rowR rs)) : OutI base (cc, is, rs, now) e w := by
  subst hn
  exact ⟨p, d1, q, d2, he, oi, orr⟩
theorem ownsI_atU {w : World} {base cv n : Nat} {p : Option Addr} {is : List If} (h : w.ownsRow base 72 5 (.slice p n cv) n (rowI is)) (k : Nat) (hk : k < is.length) (hn : n = is.length) : ∃ b, p = some ⟨b, 0, none⟩ ∧ base ≤ b ∧ (∃ u, w.cell? ⟨b, k * 5 + 4, none⟩ = some u) ∧ w.frozen? ⟨b, k * 5 + 4, none⟩ = false ∧ b < w.heap.size ∧ ∀ t l, Row w b t l → t = 72 := by
  subst hn
  rcases ownsI_opened h with h0 | ⟨b, rest, rfl, hb, h1, h2, hrb, hl⟩
  · subst h0
    simp at hk
  · have hlt : k * 5 + 4 < (rowI is ++ rest).length := by rw [List.length_append, rowI_length]; omega
    refine ⟨b, rfl, hb, Row.someI hrb _ hlt, hrb.frozen _, hrb.lt, fun t l ht => ?_⟩
    unfold Row at ht hrb
    rw [hrb] at ht
    simp only [Option.some.injEq, Obj.cells.injEq] at ht
    exact ht.2.1.symm
theorem stab_outN (B M : Nat) (cc : Int) (qs : List Rt) : ∀ (x : Value) (w1 w2 : World), (∃ q c, x = .agg #[.slice q M c, .int .i64 cc] ∧ w1.ownsRow B 144 9 (.slice q M c) M (rowR qs)) → Below w1.heap.size w1 w2 → ∃ q c, x = .agg #[.slice q M c, .int .i64 cc] ∧ w2.ownsRow B 144 9 (.slice q M c) M (rowR qs) := by
  rintro x w1 w2 ⟨q, c, e, h⟩ hb
  exact ⟨q, c, e, ownsR_below h hb⟩
theorem ownsR_belowR {w w' : World} {base : Nat} {p : Option Addr} {n cv : Nat} {rs : List Rt} (h : w.ownsRow base 144 9 (.slice p n cv) n (rowR rs)) (hb : Below w.heap.size w w') : w'.ownsRow base 144 9 (.slice p n cv) n (rowR rs) := ownsR_below h hb
theorem ownsR_caps {w : World} {base n cv : Nat} {p : Option Addr} {xs : List Value} (h : w.ownsRow base 144 9 (.slice p n cv) n xs) : (p = none → cv = 0) ∧ n ≤ cv := by
  rcases h.2 with ⟨h1, h2⟩ | ⟨g, cap, cur, h1, _, _, h4, _⟩
  · simp only [Value.slice.injEq] at h1
    obtain ⟨rfl, rfl, rfl⟩ := h1
    exact ⟨fun _ => rfl, Nat.le_refl _⟩
  · simp only [Value.slice.injEq] at h1
    obtain ⟨rfl, _, rfl⟩ := h1
    exact ⟨(fun e => by cases e), h4⟩
set_option maxRecDepth 100000 in
set_option maxHeartbeats 2000000 in
theorem specNew_any (x : Option Addr) (c1 : Nat) (is : List If) (w : World) (h1 : IfsIn w x is) (hc1 : x = none → c1 = 0) (hn1 : is.length ≤ 100000000) :
    Calls Tryz.prog 31 #[.slice x is.length c1] w fun e w' => OutI w.heap.size (newO is) e w' ∧ Below w.heap.size w w' := by
  have HR : Hid (∀ w, IfsIn w x is → Calls Tryz.prog 63 #[.slice x is.length c1] w fun e w' => e = .returned (.bool (ifsB is)) ∧ Below w.heap.size w w') := fun w p => l07Ifaces_any x c1 is w p hn1
  have HIl : Hid (∀ c w, Calls Tryz.prog 62 #[.int .i64 c] w fun e w' => e = .returned (.agg #[.slice none 0 0, .slice none 0 0, .int .i64 0, .int .i64 c]) ∧ Below w.heap.size w w') := l07Ill_any
  have HO : Hid (ifsB is = true → ∀ k (hk : k < is.length) q2 k2 w base, w.ownsRow base 144 9 (.slice q2 (ribN is k).length k2) (ribN is k).length (rowR (ribN is k)) → Calls Tryz.prog 64 #[.agg #[.slice q2 (ribN is k).length k2], .agg #[.int .i64 is[k].a, .int .i64 is[k].l], .int .i64 (k : Int)] w fun e w' => (∃ q c, e = .returned (.agg #[.slice q (ribN is (k + 1)).length c, .int .i64 0]) ∧ w'.ownsRow w.heap.size 144 9 (.slice q (ribN is (k + 1)).length c) (ribN is (k + 1)).length (rowR (ribN is (k + 1)))) ∧ Below w.heap.size w w') := fun hI k hk q2 k2 w base h => by
    obtain ⟨b1, b2⟩ := ribN_right hI k (by omega)
    have b3 := ifsB_le hI
    have hl := insR_le b1 (ownRt is[k].a is[k].l k)
    obtain ⟨hc0, hcl⟩ := ownsR_caps h
    have := l06Own_any q2 k2 (ribN is k) is[k].a is[k].l k w (ownsR_in rfl h) hc0 hcl b1
    rw [if_pos (by omega), if_pos (by omega)] at this
    have e : ribN is (k + 1) = insR (ribN is k) (ownRt is[k].a is[k].l k) := by
      show (if h : k < is.length then insR (ribN is k) (ownRt is[k].a is[k].l k) else ribN is k) = _
      rw [dif_pos hk]
    rw [e]
    exact this
  have HX : Hid (IfsIn w x is) := h1
  have HD : Hid (newO is = if 400 < is.length then (2, [], [], 0) else if ifsB is = true then (0, upsI is is.length, ribN is is.length, 0) else (1, [], [], 0)) := rfl
  generalize newO is = RES at *
  have qz := Row.new w 74 [.slice none 0 0, .slice none 0 0, .int .i64 0, .int .i64 0]
  have hB := ent_new0 w (.cells #[.slice none 0 0, .slice none 0 0, .int .i64 0, .int .i64 0] 74)
  have hX0 := h1.below hB
  have HQ : Hid _ := And.intro qz hB
  clear qz hB h1
  by_cases h4 : 400 < is.length
  · have z4 : decide ((is.length : Int) > 400) = true := by simp; omega
    have hR := HD.out
    rw [if_pos h4] at hR
    clear h4 HD HR HX HO hX0
    go_enter Tryz.func31, Tryz.ntmps31
    go_wp2_with fail
    obtain ⟨qz, hB⟩ := HQ.out
    refine (HIl.out 2 _).mono ?_
    rintro e w9 ⟨rfl, hb9⟩
    have qz := qz.below hb9 qz.lt
    have hB := hB.trans (hb9.mono hB.size)
    clear hb9 HIl HQ
    have f0 : w9.frozen? ⟨w.heap.size, 0, none⟩ = false := qz.frozen 0
    have f1 : w9.frozen? ⟨w.heap.size, 1, none⟩ = false := qz.frozen 1
    have f2 : w9.frozen? ⟨w.heap.size, 2, none⟩ = false := qz.frozen 2
    have f3 : w9.frozen? ⟨w.heap.size, 3, none⟩ = false := qz.frozen 3
    have z0 : w9.cell? ⟨w.heap.size, 0, none⟩ = some (.slice none 0 0) := qz.cell 0
    have z1 : w9.cell? ⟨w.heap.size, 1, none⟩ = some (.slice none 0 0) := qz.cell 1
    have z2 : w9.cell? ⟨w.heap.size, 2, none⟩ = some (.int .i64 0) := qz.cell 2
    have z3 : w9.cell? ⟨w.heap.size, 3, none⟩ = some (.int .i64 0) := qz.cell 3
    have HE : Hid _ := out4 (p := none) (q := none) (now := 0) (cc := 2) qz rfl (Nat.le_refl _) hB (ownsI_nil w9 w.heap.size) (ownsR_nil w9 w.heap.size) rfl _ rfl
    clear qz hB 
    go_wp2_with fail
    generalize (((w9.setCell ⟨w.heap.size, 0, none⟩ (.slice none 0 0)).setCell ⟨w.heap.size, 1, none⟩ (.slice none 0 0)).setCell ⟨w.heap.size, 2, none⟩ (.int .i64 0)).setCell ⟨w.heap.size, 3, none⟩ (.int .i64 2) = Z at *
    obtain ⟨m1, m2, m3, m4⟩ := HE.out
    clear HE f0 f1 f2 f3 z0 z1 z2 z3
    have e0 : Z.cell? ⟨w.heap.size, 0, none⟩ = some (.slice none 0 0) := m1.cell 0
    have e1 : Z.cell? ⟨w.heap.size, 1, none⟩ = some (.slice none 0 0) := m1.cell 1
    have e2 : Z.cell? ⟨w.heap.size, 2, none⟩ = some (.int .i64 0) := m1.cell 2
    have e3 : Z.cell? ⟨w.heap.size, 3, none⟩ = some (.int .i64 2) := m1.cell 3
    exact bodyPost_ret (v := .agg #[.slice none 0 0, .slice none 0 0, .int .i64 0, .int .i64 2]) (by simp [results, Tryz.results31, go_sem, e0, e1, e2, e3]) rfl ⟨by rw [hR]; exact outI_no _ _ _, m2⟩
  · have z4 : decide ((is.length : Int) > 400) = false := by simp; omega
    have hR := HD.out
    rw [if_neg h4] at hR
    clear h4 HD
    go_enter Tryz.func31, Tryz.ntmps31
    go_wp2_with fail
    obtain ⟨qz, hB⟩ := HQ.out
    refine (HR.out _ hX0).mono ?_
    rintro e w1 ⟨rfl, hb1⟩
    have qz := qz.below hb1 qz.lt
    have hB := hB.trans (hb1.mono hB.size)
    have hX1 := hX0.below hb1
    clear hb1 HR HQ hX0
    cases hIB : ifsB is
    · rw [hIB] at hR
      simp only [Bool.false_eq_true, if_false] at hR
      clear HX HO hIB hX1
      go_wp2_with fail
      refine (HIl.out 1 _).mono ?_
      rintro e w9 ⟨rfl, hb9⟩
      have qz := qz.below hb9 qz.lt
      have hB := hB.trans (hb9.mono hB.size)
      clear hb9 HIl
      have f0 : w9.frozen? ⟨w.heap.size, 0, none⟩ = false := qz.frozen 0
      have f1 : w9.frozen? ⟨w.heap.size, 1, none⟩ = false := qz.frozen 1
      have f2 : w9.frozen? ⟨w.heap.size, 2, none⟩ = false := qz.frozen 2
      have f3 : w9.frozen? ⟨w.heap.size, 3, none⟩ = false := qz.frozen 3
      have z0 : w9.cell? ⟨w.heap.size, 0, none⟩ = some (.slice none 0 0) := qz.cell 0
      have z1 : w9.cell? ⟨w.heap.size, 1, none⟩ = some (.slice none 0 0) := qz.cell 1
      have z2 : w9.cell? ⟨w.heap.size, 2, none⟩ = some (.int .i64 0) := qz.cell 2
      have z3 : w9.cell? ⟨w.heap.size, 3, none⟩ = some (.int .i64 0) := qz.cell 3
      have HE : Hid _ := out4 (p := none) (q := none) (now := 0) (cc := 1) qz rfl (Nat.le_refl _) hB (ownsI_nil w9 w.heap.size) (ownsR_nil w9 w.heap.size) rfl _ rfl
      clear qz hB 
      go_wp2_with fail
      generalize (((w9.setCell ⟨w.heap.size, 0, none⟩ (.slice none 0 0)).setCell ⟨w.heap.size, 1, none⟩ (.slice none 0 0)).setCell ⟨w.heap.size, 2, none⟩ (.int .i64 0)).setCell ⟨w.heap.size, 3, none⟩ (.int .i64 1) = Z at *
      obtain ⟨m1, m2, m3, m4⟩ := HE.out
      clear HE f0 f1 f2 f3 z0 z1 z2 z3
      have e0 : Z.cell? ⟨w.heap.size, 0, none⟩ = some (.slice none 0 0) := m1.cell 0
      have e1 : Z.cell? ⟨w.heap.size, 1, none⟩ = some (.slice none 0 0) := m1.cell 1
      have e2 : Z.cell? ⟨w.heap.size, 2, none⟩ = some (.int .i64 0) := m1.cell 2
      have e3 : Z.cell? ⟨w.heap.size, 3, none⟩ = some (.int .i64 1) := m1.cell 3
      exact bodyPost_ret (v := .agg #[.slice none 0 0, .slice none 0 0, .int .i64 0, .int .i64 1]) (by simp [results, Tryz.results31, go_sem, e0, e1, e2, e3]) rfl ⟨by rw [hR]; exact outI_no _ _ _, m2⟩
    · rw [hIB] at hR
      simp only [if_true] at hR
      have HOI : Hid _ := HO.out hIB
      have h3 := ifsB_le hIB
      clear HO HIl hIB
      obtain ⟨q0, c0, w2, happ, o1, hb2⟩ := run_append_ifs0 (w1.alloc (.cells #[] 72)) w1.heap.size w1.heap.size x c1 is 46 (by have ho := World.ownsRow_lit (base := w1.heap.size) (e := 72) (size := 5) w1 #[] 0 (Nat.le_refl _) (Nat.zero_le _) (by simp); simpa [rowI] using ho) (hX1.alloc _) hc1 hn1 (by simp)
      have L1 := qz.lt
      have hBs := hB.size
      have qz := (qz.alloc (.cells #[] 72)).below hb2 (by simp; omega)
      have hB := (hB.alloc hB.size (.cells #[] 72)).trans (hb2.mono (by simp; omega))
      have o1 := ownsI_mono (base' := w.heap.size) o1 hBs
      have hs2 : w1.heap.size < w2.heap.size := by have := hb2.size; simp at this; omega
      clear hb2
      have rI := Row.new w2 51 [.slice q0 is.length c0, .slice none 0 0, .int .i64 0]
      have qz := qz.alloc (.cells #[.slice q0 is.length c0, .slice none 0 0, .int .i64 0] 51)
      have o1 := World.ownsRow.alloc o1 (.cells #[.slice q0 is.length c0, .slice none 0 0, .int .i64 0] 51)
      have hB := hB.alloc hB.size (.cells #[.slice q0 is.length c0, .slice none 0 0, .int .i64 0] 51)
      have HA : Hid _ := And.intro rI (And.intro qz (And.intro o1 hB))
      clear rI qz o1 hB hX1
      go_wp2_with (at_builtin; refine wpList_append_runs rfl _ _ 46 rfl _ _ rfl rfl happ ?_)
      generalize hbI : w2.heap.size = bI at *
      generalize w2.alloc (.cells #[.slice q0 is.length c0, .slice none 0 0, .int .i64 0] 51) = W2 at *
      clear hbI happ
      go_loopw [4] (fun i wr => ∃ (k : Nat) (q1 : Option Addr) (k1 : Nat) (q2 : Option Addr) (k2 : Nat), k ≤ is.length ∧ i = .int .i64 k ∧ Row wr bI 51 [.slice q1 is.length k1, .slice q2 (ribN is k).length k2, .int .i64 0] ∧ wr.ownsRow w.heap.size 72 5 (.slice q1 is.length k1) is.length (rowI (upsI is k)) ∧ wr.ownsRow w.heap.size 144 9 (.slice q2 (ribN is k).length k2) (ribN is k).length (rowR (ribN is k)) ∧ Row wr w.heap.size 74 [.slice none 0 0, .slice none 0 0, .int .i64 0, .int .i64 0] ∧ Below w.heap.size w wr) (fun i _ => is.length - (intOf i).toNat)
      case atStart => exact ⟨0, q0, c0, none, 0, Nat.zero_le _, rfl, HA.out.1, HA.out.2.2.1, ownsR_nil _ _, HA.out.2.1, HA.out.2.2.2⟩
      case round =>
        obtain ⟨k, q1, k1, q2, k2, hk, rfl, rI, o1, o2, qz, hB⟩ := hrel
        clear HA
        by_cases hlt : k < is.length
        · have d1 : decide ((k : Int) < (is.length : Int)) = true := by simpa using hlt
          have hXr := HX.out.below hB
          obtain ⟨b0, d, a, l, c, u, rfl, hbl, hek, e0, e1, e2, e3, e4⟩ := hXr.at k hlt
          obtain ⟨g1, rfl, hg1, ⟨u1, x1⟩, x2, hg1l, hgt⟩ := ownsI_atU o1 k (by rw [upsI_length]; exact hlt) (upsI_length is k).symm
          have HOk : Hid (∀ w base, w.ownsRow base 144 9 (.slice q2 (ribN is k).length k2) (ribN is k).length (rowR (ribN is k)) → Calls Tryz.prog 64 #[.agg #[.slice q2 (ribN is k).length k2], .agg #[.int .i64 a, .int .i64 l], .int .i64 (k : Int)] w fun e w' => (∃ q c, e = .returned (.agg #[.slice q (ribN is (k + 1)).length c, .int .i64 0]) ∧ w'.ownsRow w.heap.size 144 9 (.slice q (ribN is (k + 1)).length c) (ribN is (k + 1)).length (rowR (ribN is (k + 1)))) ∧ Below w.heap.size w w') := fun w base h => by
            have := HOI.out k hlt q2 k2 w base h
            rw [hek] at this
            exact this
          have zk : (k : Int) < (is.length : Int) := by omega
          have y0 : wr.cell? ⟨bI, 0, none⟩ = some (.slice (some ⟨g1, 0, none⟩) is.length k1) := rI.cell 0
          have nI : bI ≠ g1 := fun e => by have := hgt _ _ (e ▸ rI); exact absurd this (by decide)
          have nz : w.heap.size ≠ g1 := fun e => by have := hgt _ _ (e ▸ qz); exact absurd this (by decide)
          have rI := rI.other (k * 5 + 4) (.bool true) nI
          have qz := qz.other (k * 5 + 4) (.bool true) nz
          have o2 := ownsR_kept rfl o2 (fun g t l e h => h.other (k * 5 + 4) (.bool true) (fun e2 => ownsIR_ne o1 o2 e (by rw [e2])))
          have o1 := ownsI_setU o1 (upsI_length is k).symm k (by rw [upsI_length]; exact hlt) true
          have hB := hB.setCell (p := ⟨g1, k * 5 + 4, none⟩) hg1 (.bool true)
          have hxx : b0 ≠ g1 := by
            rintro rfl
            have := HX.out
            rcases this with h0 | ⟨gg, e, hl, _⟩
            · subst h0; simp at hlt
            · cases e
              omega
          have e1 : (wr.setCell ⟨g1, k * 5 + 4, none⟩ (.bool true)).cell? ⟨b0, k * 5 + 1, none⟩ = some (.int .i64 a) := by rw [cell_other wr _ _ _ (by simpa using hxx)]; exact e1
          have e2 : (wr.setCell ⟨g1, k * 5 + 4, none⟩ (.bool true)).cell? ⟨b0, k * 5 + 2, none⟩ = some (.int .i64 l) := by rw [cell_other wr _ _ _ (by simpa using hxx)]; exact e2
          have hbl : b0 < (wr.setCell ⟨g1, k * 5 + 4, none⟩ (.bool true)).heap.size := by simpa using hbl
          have HH : Hid _ := And.intro rI (And.intro qz (And.intro o1 (And.intro o2 (And.intro hB (And.intro e1 (And.intro e2 hbl))))))
          clear rI qz o1 o2 hB e1 e2 hbl e0 e3 e4 hek hXr HOI hgt nI nz hxx hg1 hg1l
          go_wp2_with fail
          generalize wr.setCell ⟨g1, k * 5 + 4, none⟩ (.bool true) = W3 at *
          obtain ⟨rI, qz, o1, o2, hB, e1, e2, hbl⟩ := HH.out
          clear HH x1 x2 y0
          have o1 : W3.ownsRow w.heap.size 72 5 (.slice (some ⟨g1, 0, none⟩) is.length k1) is.length (rowI (upsI is (k + 1))) := o1
          generalize hQQ : ribN is (k + 1) = qs at *
          have hQ : Hid (ribN is (k + 1) = qs) := hQQ
          clear hQQ
          generalize hMM : qs.length = M at *
          have hM : Hid (M = qs.length) := hMM.symm
          clear hMM
          generalize ribN is k = rsk at *
          generalize hNN : rsk.length = N2 at *
          clear hNN
          generalize hUU : upsI is (k + 1) = is2 at *
          have hU : Hid (upsI is (k + 1) = is2) := hUU
          clear hUU
          have hGN : (([(29, Is (.pointer (some ⟨bI, 1, none⟩))), (30, Is (.agg #[.slice q2 N2 k2])), (31, Is (.slice (some ⟨b0, 0, none⟩) is.length c1)), (32, Is (.int .i64 (k : Int))), (33, Is (.pointer (some ⟨b0, k * 5, none⟩))), (34, Is (.pointer (some ⟨b0, k * 5 + 1, none⟩))), (35, Is (.agg #[.int .i64 a, .int .i64 l])), (36, Is (.int .i64 (k : Int))), (37, fun v W => ∃ q c, v = .agg #[.slice q M c, .int .i64 0] ∧ W.ownsRow w.heap.size 144 9 (.slice q M c) M (rowR qs)), (5, fun v W => ∃ g, v = .pointer (some ⟨g, 0, none⟩) ∧ W3.heap.size ≤ g ∧ Row W g 126 [.slice none 0 0, .int .i64 0])] : List (Nat × (Value → World → Prop))).map (·.1)).Nodup := by simp
          refine wp_region_steady 10 (SlotG [(29, Is (.pointer (some ⟨bI, 1, none⟩))), (30, Is (.agg #[.slice q2 N2 k2])), (31, Is (.slice (some ⟨b0, 0, none⟩) is.length c1)), (32, Is (.int .i64 (k : Int))), (33, Is (.pointer (some ⟨b0, k * 5, none⟩))), (34, Is (.pointer (some ⟨b0, k * 5 + 1, none⟩))), (35, Is (.agg #[.int .i64 a, .int .i64 l])), (36, Is (.int .i64 (k : Int))), (37, fun v W => ∃ q c, v = .agg #[.slice q M c, .int .i64 0] ∧ W.ownsRow w.heap.size 144 9 (.slice q M c) M (rowR qs)), (5, fun v W => ∃ g, v = .pointer (some ⟨g, 0, none⟩) ∧ W3.heap.size ≤ g ∧ Row W g 126 [.slice none 0 0, .int .i64 0])]) (by kernel_rfl) (by kernel_rfl) (Stabs.all ⟨stab_is _, stab_is _, stab_is _, stab_is _, stab_is _, stab_is _, stab_is _, stab_is _, stab_outN w.heap.size M 0 qs, stab_new W3.heap.size 126 [.slice none 0 0, .int .i64 0], trivial⟩) ?_ ?_
          · intro o ho
            simp only [List.take_succ_cons, List.take_zero, List.mem_cons, List.not_mem_nil, or_false] at ho
            rcases ho with rfl | rfl | rfl | rfl | rfl | rfl | rfl | rfl | rfl | rfl
            · intro a' w' hb ha hdep
              have d3 : a'.tmps.getD 3 undef = .pointer (some ⟨bI, 0, none⟩) := ha.at 3 (by kernel_rfl)
              have hmk := fun (x : Value) (W : World) => SlotG.mk (x := x) (w := W) 0 rfl hGN
              clear hGN ha hdep
              go_simp
              exact ⟨_, rfl, Below.refl _ _, hmk _ _ rfl⟩
            · intro a' w' hb ha hdep
              have d29 : a'.tmps.getD 29 undef = .pointer (some ⟨bI, 1, none⟩) := (hdep 29 (of_decide_eq_true (by kernel_rfl))).is 0 rfl
              have hmk := fun (x : Value) (W : World) => SlotG.mk (x := x) (w := W) 1 rfl hGN
              clear hGN ha hdep
              have y1 : w'.cell? ⟨bI, 1, none⟩ = some (.slice q2 N2 k2) := (rI.below hb rI.lt).cell 1
              go_simp
              exact ⟨_, rfl, Below.refl _ _, hmk _ _ rfl⟩
            · intro a' w' hb ha hdep
              have d0 : a'.tmps.getD 0 undef = .slice (some ⟨b0, 0, none⟩) is.length c1 := ha.at 0 (by kernel_rfl)
              have hmk := fun (x : Value) (W : World) => SlotG.mk (x := x) (w := W) 2 rfl hGN
              clear hGN ha hdep
              go_simp
              exact ⟨_, rfl, Below.refl _ _, hmk _ _ rfl⟩
            · intro a' w' hb ha hdep
              have d4 : a'.tmps.getD 4 undef = .int .i64 (k : Int) := ha.at 4 (by kernel_rfl)
              have hmk := fun (x : Value) (W : World) => SlotG.mk (x := x) (w := W) 3 rfl hGN
              clear hGN ha hdep
              go_simp
              exact ⟨_, rfl, Below.refl _ _, hmk _ _ rfl⟩
            · intro a' w' hb ha hdep
              have d31 : a'.tmps.getD 31 undef = .slice (some ⟨b0, 0, none⟩) is.length c1 := (hdep 31 (of_decide_eq_true (by kernel_rfl))).is 2 rfl
              have d32 : a'.tmps.getD 32 undef = .int .i64 (k : Int) := (hdep 32 (of_decide_eq_true (by kernel_rfl))).is 3 rfl
              have hmk := fun (x : Value) (W : World) => SlotG.mk (x := x) (w := W) 4 rfl hGN
              clear hGN ha hdep
              go_simp
              exact ⟨_, rfl, Below.refl _ _, hmk _ _ rfl⟩
            · intro a' w' hb ha hdep
              have d33 : a'.tmps.getD 33 undef = .pointer (some ⟨b0, k * 5, none⟩) := (hdep 33 (of_decide_eq_true (by kernel_rfl))).is 4 rfl
              have hmk := fun (x : Value) (W : World) => SlotG.mk (x := x) (w := W) 5 rfl hGN
              clear hGN ha hdep
              go_simp
              exact ⟨_, rfl, Below.refl _ _, hmk _ _ rfl⟩
            · intro a' w' hb ha hdep
              have d34 : a'.tmps.getD 34 undef = .pointer (some ⟨b0, k * 5 + 1, none⟩) := (hdep 34 (of_decide_eq_true (by kernel_rfl))).is 5 rfl
              have hmk := fun (x : Value) (W : World) => SlotG.mk (x := x) (w := W) 6 rfl hGN
              clear hGN ha hdep
              have x1 : w'.cell? ⟨b0, k * 5 + 1, none⟩ = some (.int .i64 a) := by rw [hb.cell (p := ⟨b0, k * 5 + 1, none⟩) hbl]; exact e1
              have x2 : w'.cell? ⟨b0, k * 5 + 2, none⟩ = some (.int .i64 l) := by rw [hb.cell (p := ⟨b0, k * 5 + 2, none⟩) hbl]; exact e2
              go_simp
              exact ⟨_, rfl, Below.refl _ _, hmk _ _ rfl⟩
            · intro a' w' hb ha hdep
              have d4 : a'.tmps.getD 4 undef = .int .i64 (k : Int) := ha.at 4 (by kernel_rfl)
              have hmk := fun (x : Value) (W : World) => SlotG.mk (x := x) (w := W) 7 rfl hGN
              clear hGN ha hdep
              go_simp
              exact ⟨_, rfl, Below.refl _ _, hmk _ _ rfl⟩
            · intro a' w' hb ha hdep
              have d30 : a'.tmps.getD 30 undef = .agg #[.slice q2 N2 k2] := (hdep 30 (of_decide_eq_true (by kernel_rfl))).is 1 rfl
              have d35 : a'.tmps.getD 35 undef = .agg #[.int .i64 a, .int .i64 l] := (hdep 35 (of_decide_eq_true (by kernel_rfl))).is 6 rfl
              have d36 : a'.tmps.getD 36 undef = .int .i64 (k : Int) := (hdep 36 (of_decide_eq_true (by kernel_rfl))).is 7 rfl
              have hmk := fun (x : Value) (W : World) => SlotG.mk (x := x) (w := W) 8 rfl hGN
              clear hGN ha hdep
              go_simp
              refine (HOk.out _ _ (ownsR_belowR o2 hb)).mono ?_
              rintro e w2 ⟨⟨q, c, rfl, ho⟩, hb2⟩
              exact ⟨_, rfl, hb2, hmk _ _ ⟨q, c, rfl, ownsR_mono ho (by have := hb.size; have := hB.size; omega)⟩⟩
            · intro a' w' hb ha hdep
              have hmk := fun (x : Value) (W : World) => SlotG.mk (x := x) (w := W) 9 rfl hGN
              clear hGN ha hdep
              go_simp
              exact ⟨_, rfl, ent_new0 _ _, hmk _ _ ⟨w'.heap.size, rfl, hb.size, Row.new w' 126 [.slice none 0 0, .int .i64 0]⟩⟩
          · intro a' w' hb ha hG
            clear hGN
            have D37 := (hG _ (List.mem_of_getElem? (i := 8) rfl) 37 rfl).get 8 rfl
            have D5 := (hG _ (List.mem_of_getElem? (i := 9) rfl) 5 rfl).get 9 rfl
            have d0 : a'.tmps.getD 0 undef = .slice (some ⟨b0, 0, none⟩) is.length c1 := ha.at 0 (by kernel_rfl)
            have d1 : a'.tmps.getD 1 undef = undef := ha.at 1 (by kernel_rfl)
            have d2 : a'.tmps.getD 2 undef = .pointer (some ⟨w.heap.size, 0, none⟩) := ha.at 2 (by kernel_rfl)
            have d3 : a'.tmps.getD 3 undef = .pointer (some ⟨bI, 0, none⟩) := ha.at 3 (by kernel_rfl)
            have d4 : a'.tmps.getD 4 undef = .int .i64 (k : Int) := ha.at 4 (by kernel_rfl)
            have d6 : a'.tmps.getD 6 undef = .slice (some ⟨b0, 0, none⟩) is.length c1 := ha.at 6 (by kernel_rfl)
            have d7 : a'.tmps.getD 7 undef = .int .i64 (is.length : Int) := ha.at 7 (by kernel_rfl)
            have d8 : a'.tmps.getD 8 undef = .bool false := ha.at 8 (by kernel_rfl)
            have d9 : a'.tmps.getD 9 undef = undef := ha.at 9 (by kernel_rfl)
            have d10 : a'.tmps.getD 10 undef = .slice (some ⟨b0, 0, none⟩) is.length c1 := ha.at 10 (by kernel_rfl)
            have d11 : a'.tmps.getD 11 undef = .bool true := ha.at 11 (by kernel_rfl)
            have d12 : a'.tmps.getD 12 undef = .bool false := ha.at 12 (by kernel_rfl)
            have d13 : a'.tmps.getD 13 undef = undef := ha.at 13 (by kernel_rfl)
            have d14 : a'.tmps.getD 14 undef = .slice (some ⟨w1.heap.size, 0, none⟩) 0 0 := ha.at 14 (by kernel_rfl)
            have d15 : a'.tmps.getD 15 undef = .slice (some ⟨b0, 0, none⟩) is.length c1 := ha.at 15 (by kernel_rfl)
            have d16 : a'.tmps.getD 16 undef = .slice q0 is.length c0 := ha.at 16 (by kernel_rfl)
            have d17 : a'.tmps.getD 17 undef = .agg #[.slice q0 is.length c0, .slice none 0 0, .int .i64 0] := ha.at 17 (by kernel_rfl)
            have d41 : a'.tmps.getD 41 undef = undef := ha.at 41 (by kernel_rfl)
            have d42 : a'.tmps.getD 42 undef = undef := ha.at 42 (by kernel_rfl)
            have e2 : a' = ⟨#[a'.tmps.getD 0 undef, a'.tmps.getD 1 undef, a'.tmps.getD 2 undef, a'.tmps.getD 3 undef, a'.tmps.getD 4 undef, a'.tmps.getD 5 undef, a'.tmps.getD 6 undef, a'.tmps.getD 7 undef, a'.tmps.getD 8 undef, a'.tmps.getD 9 undef, a'.tmps.getD 10 undef, a'.tmps.getD 11 undef, a'.tmps.getD 12 undef, a'.tmps.getD 13 undef, a'.tmps.getD 14 undef, a'.tmps.getD 15 undef, a'.tmps.getD 16 undef, a'.tmps.getD 17 undef, a'.tmps.getD 18 undef, a'.tmps.getD 19 undef, a'.tmps.getD 20 undef, a'.tmps.getD 21 undef, a'.tmps.getD 22 undef, a'.tmps.getD 23 undef, a'.tmps.getD 24 undef, a'.tmps.getD 25 undef, a'.tmps.getD 26 undef, a'.tmps.getD 27 undef, a'.tmps.getD 28 undef, a'.tmps.getD 29 undef, a'.tmps.getD 30 undef, a'.tmps.getD 31 undef, a'.tmps.getD 32 undef, a'.tmps.getD 33 undef, a'.tmps.getD 34 undef, a'.tmps.getD 35 undef, a'.tmps.getD 36 undef, a'.tmps.getD 37 undef, a'.tmps.getD 38 undef, a'.tmps.getD 39 undef, a'.tmps.getD 40 undef, a'.tmps.getD 41 undef, a'.tmps.getD 42 undef], []⟩ := by rw [← (show a'.defers = [] from ha.2.1)]; exact act_eq a' 43 ha.1
            rw [d0, d1, d2, d3, d4, d6, d7, d8, d9, d10, d11, d12, d13, d14, d15, d16, d17, d41, d42] at e2
            clear hG ha d0 d1 d2 d3 d4 d6 d7 d8 d9 d10 d11 d12 d13 d14 d15 d16 d17 d41 d42
            generalize a'.tmps.getD 5 undef = x5 at *
            generalize a'.tmps.getD 18 undef = x18 at *
            generalize a'.tmps.getD 19 undef = x19 at *
            generalize a'.tmps.getD 20 undef = x20 at *
            generalize a'.tmps.getD 21 undef = x21 at *
            generalize a'.tmps.getD 22 undef = x22 at *
            generalize a'.tmps.getD 23 undef = x23 at *
            generalize a'.tmps.getD 24 undef = x24 at *
            generalize a'.tmps.getD 25 undef = x25 at *
            generalize a'.tmps.getD 26 undef = x26 at *
            generalize a'.tmps.getD 27 undef = x27 at *
            generalize a'.tmps.getD 28 undef = x28 at *
            generalize a'.tmps.getD 29 undef = x29 at *
            generalize a'.tmps.getD 30 undef = x30 at *
            generalize a'.tmps.getD 31 undef = x31 at *
            generalize a'.tmps.getD 32 undef = x32 at *
            generalize a'.tmps.getD 33 undef = x33 at *
            generalize a'.tmps.getD 34 undef = x34 at *
            generalize a'.tmps.getD 35 undef = x35 at *
            generalize a'.tmps.getD 36 undef = x36 at *
            generalize a'.tmps.getD 37 undef = x37 at *
            generalize a'.tmps.getD 38 undef = x38 at *
            generalize a'.tmps.getD 39 undef = x39 at *
            generalize a'.tmps.getD 40 undef = x40 at *
            subst e2
            simp only [List.drop_succ_cons, List.drop_zero]
            obtain ⟨q, c, rfl, o3⟩ := D37
            obtain ⟨g6, rfl, hg6, r6⟩ := D5
            have LI := rI.lt
            have L0 := qz.lt
            have hBs := hB.size
            have rI := rI.below hb rI.lt
            have qz := qz.below hb qz.lt
            have o1 := ownsI_below o1 hb
            have hB := hB.trans (hb.mono hB.size)
            clear hb HOk e1 e2 hbl o2
            have hk6 : ∀ b t l, b ≠ g6 → b ≠ bI → Row w' b t l → Row (((w'.setCell ⟨g6, 0, none⟩ (.slice q M c)).setCell ⟨g6, 1, none⟩ (.int .i64 0)).setCell ⟨bI, 1, none⟩ (.slice q M c)) b t l := fun b t l hne hnI h => ((h.other 0 _ hne).other 1 _ hne).other 1 _ hnI
            have n6 : ¬ bI = g6 := by omega
            have n6' : ¬ g6 = bI := by omega
            have f60 : w'.frozen? ⟨g6, 0, none⟩ = false := r6.frozen 0
            have f61 : w'.frozen? ⟨g6, 1, none⟩ = false := r6.frozen 1
            have z60 : w'.cell? ⟨g6, 0, none⟩ = some (.slice none 0 0) := r6.cell 0
            have z61 : w'.cell? ⟨g6, 1, none⟩ = some (.int .i64 0) := r6.cell 1
            have fI : w'.frozen? ⟨bI, 1, none⟩ = false := rI.frozen 1
            have zI : w'.cell? ⟨bI, 1, none⟩ = some (.slice q2 N2 k2) := rI.cell 1
            have HE6 : Hid _ := And.intro (((rI.other 0 (.slice q M c) n6).other 1 (.int .i64 0) n6).set 1 (.slice q M c)) (And.intro (hk6 _ _ _ (show w.heap.size ≠ g6 by omega) (show w.heap.size ≠ bI by omega) qz) (And.intro (ownsI_kept o1 (fun b t l e h => hk6 b t l (fun e2 => ownsI_ne o1 r6 (by decide) (by rw [e, e2])) (fun e2 => ownsI_ne o1 rI (by decide) (by rw [e, e2])) h)) (And.intro (ownsR_kept hM.out o3 (fun b t l e h => hk6 b t l (fun e2 => ownsR_ne o3 r6 (by decide) (by rw [e, e2])) (fun e2 => ownsR_ne o3 rI (by decide) (by rw [e, e2])) h)) (((hB.setCell (p := ⟨g6, 0, none⟩) (by show w.heap.size ≤ g6; omega) (.slice q M c)).setCell (p := ⟨g6, 1, none⟩) (by show w.heap.size ≤ g6; omega) (.int .i64 0)).setCell (p := ⟨bI, 1, none⟩) (by show w.heap.size ≤ bI; omega) (.slice q M c)))))
            clear r6 rI qz o1 o3 hB hk6
            go_wp2_with fail
            go_roundw
            case rel => exact ⟨k + 1, some ⟨g1, 0, none⟩, k1, q, c, hlt, by go_num, by rw [hQ.out]; exact hM.out ▸ HE6.out.1, by rw [hU.out]; exact HE6.out.2.2.1, by rw [hQ.out]; exact hM.out ▸ HE6.out.2.2.2.1, HE6.out.2.1, HE6.out.2.2.2.2⟩
            case measure => simp [intOf]; omega
        · obtain rfl : k = is.length := by omega
          have d1 : decide ((is.length : Int) < (is.length : Int)) = false := by simp
          have t0 : wr.cell? ⟨bI, 0, none⟩ = some (.slice q1 is.length k1) := rI.cell 0
          have t1 : wr.cell? ⟨bI, 1, none⟩ = some (.slice q2 (ribN is is.length).length k2) := rI.cell 1
          have t2 : wr.cell? ⟨bI, 2, none⟩ = some (.int .i64 0) := rI.cell 2
          have hul := upsI_length is is.length
          clear hlt hk HOI rI h3
          generalize ribN is is.length = qs at *
          generalize upsI is is.length = is2 at *
          have f0 : wr.frozen? ⟨w.heap.size, 0, none⟩ = false := qz.frozen 0
          have f1 : wr.frozen? ⟨w.heap.size, 1, none⟩ = false := qz.frozen 1
          have f2 : wr.frozen? ⟨w.heap.size, 2, none⟩ = false := qz.frozen 2
          have f3 : wr.frozen? ⟨w.heap.size, 3, none⟩ = false := qz.frozen 3
          have z0 : wr.cell? ⟨w.heap.size, 0, none⟩ = some (.slice none 0 0) := qz.cell 0
          have z1 : wr.cell? ⟨w.heap.size, 1, none⟩ = some (.slice none 0 0) := qz.cell 1
          have z2 : wr.cell? ⟨w.heap.size, 2, none⟩ = some (.int .i64 0) := qz.cell 2
          have z3 : wr.cell? ⟨w.heap.size, 3, none⟩ = some (.int .i64 0) := qz.cell 3
          have HE : Hid _ := out4 (p := q1) (q := q2) (now := 0) (cc := 0) qz rfl (Nat.le_refl _) hB o1 o2 rfl _ rfl
          clear qz hB o1 o2
          go_wp2_with fail
          generalize (((wr.setCell ⟨w.heap.size, 0, none⟩ (.slice q1 is.length k1)).setCell ⟨w.heap.size, 1, none⟩ (.slice q2 qs.length k2)).setCell ⟨w.heap.size, 2, none⟩ (.int .i64 0)).setCell ⟨w.heap.size, 3, none⟩ (.int .i64 0) = Z at *
          obtain ⟨m1, m2, m3, m4⟩ := HE.out
          clear HE f0 f1 f2 f3 z0 z1 z2 z3
          have e0 : Z.cell? ⟨w.heap.size, 0, none⟩ = some (.slice q1 is.length k1) := m1.cell 0
          have e1 : Z.cell? ⟨w.heap.size, 1, none⟩ = some (.slice q2 qs.length k2) := m1.cell 1
          have e2 : Z.cell? ⟨w.heap.size, 2, none⟩ = some (.int .i64 0) := m1.cell 2
          have e3 : Z.cell? ⟨w.heap.size, 3, none⟩ = some (.int .i64 0) := m1.cell 3
          exact bodyPost_ret (v := .agg #[.slice q1 is.length k1, .slice q2 qs.length k2, .int .i64 0, .int .i64 0]) (by simp [results, Tryz.results31, go_sem, e0, e1, e2, e3]) rfl ⟨by rw [hR]; exact outI_ofN hul rfl m3 m4, m2⟩
end Go.Proofs.YtialedffpaoacaaGreatDoor
