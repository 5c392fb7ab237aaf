/- Texts that stand on each other, in one file: DownS. -/
import Derived.Test.YtifckpncpjijiaaGreatPack30
import Derived.Test.YtifckpncpjijiaaGreatPack32
import Derived.Test.YtifckpncpjijiaaGreatPack26
/- Down of the model. (Written by gen_insts.py.) -/
namespace Go.Proofs.YtifckpncpjijiaaGreat
open Go.RowKit Go.Sort

theorem outI_of {base n d1 d2 : Nat} {cc now : Int} {is : List If} {rs : List Rt} {e : Ending} {w : World} {p q : Option Addr} (hn : is.length = n) (he : e = .returned (.agg #[.slice p n d1, .slice q rs.length d2, .int .i64 now, .int .i64 cc])) (oi : w.ownsRow base 89 5 (.slice p n d1) n (rowI is)) (orr : w.ownsRow base 98 9 (.slice q rs.length d2) rs.length (rowR rs)) : OutI base (cc, is, rs, now) e w := by
  subst hn
  exact ⟨p, d1, q, d2, he, oi, orr⟩
theorem ownsI_at {w : World} {base cv : Nat} {p : Option Addr} {is : List If} (h : w.ownsRow base 89 5 (.slice p is.length cv) is.length (rowI is)) (k : Nat) (hk : k < is.length) : ∃ b, p = some ⟨b, 0, none⟩ ∧ base ≤ b ∧ (∃ u, w.cell? ⟨b, k * 5 + 4, none⟩ = some u) ∧ w.frozen? ⟨b, k * 5 + 4, none⟩ = false ∧ b < w.heap.size ∧ ∀ t l, Row w b t l → t = 89 := by
  rcases ownsI_opened h with h0 | ⟨b, rest, rfl, hb, h1, h2, hrb, hl⟩
  · subst h0
    simp at hk
  · have hlt : k * 5 + 4 < (rowI is ++ rest).length := by rw [List.length_append, rowI_length]; omega
    refine ⟨b, rfl, hb, Row.someI hrb _ hlt, hrb.frozen _, hrb.lt, fun t l ht => ?_⟩
    unfold Row at ht hrb
    rw [hrb] at ht
    simp only [Option.some.injEq, Obj.cells.injEq] at ht
    exact ht.2.1.symm
set_option maxRecDepth 100000 in
set_option maxHeartbeats 2000000 in
theorem specDown_any (x : Option Addr) (c1 : Nat) (y : Option Addr) (c2 : Nat) (is : List If) (rs : List Rt) (now : Int) (i : Int) (w : World) (h1 : IfsIn w x is) (hc : is.length ≤ c1) (hc1 : x = none → c1 = 0) (h2 : RtsIn w y rs) (hc2 : y = none → c2 = 0) (hl2 : rs.length ≤ c2) (hn1 : is.length ≤ 100000000) (hn2 : rs.length ≤ 100000000) :
    Calls Tryz.prog 24 #[instV x is.length c1 y rs.length c2 now, .int .i64 i] w fun e w' => OutI w.heap.size (downO is rs now i) e w' ∧ Below w.heap.size w w' := by
  have HX : Hid (IfsIn w x is ∧ RtsIn w y rs) := ⟨h1, h2⟩
  have HIl : Hid (∀ c w, Calls Tryz.prog 46 #[.int .i64 c] w fun e w' => e = .returned (.agg #[.slice none 0 0, .slice none 0 0, .int .i64 0, .int .i64 c]) ∧ Below w.heap.size w w') := l07Ill_any
  have HC : Hid (∀ w, IfsIn w x is → RtsIn w y rs → Calls Tryz.prog 70 #[instV x is.length c1 y rs.length c2 now] w fun e w' => ∃ q1 k1 q2 k2, e = .returned (.agg #[.slice q1 is.length k1, .slice q2 rs.length k2, .int .i64 now]) ∧ w'.ownsRow w.heap.size 89 5 (.slice q1 is.length k1) is.length (rowI is) ∧ w'.ownsRow w.heap.size 98 9 (.slice q2 rs.length k2) rs.length (rowR rs) ∧ Below w.heap.size w w') := fun w p q => l07Copy_any x _ c1 y _ c2 is rs now w rfl rfl p hc1 q hc2 hl2 hn1 hn2
  have HBg : Hid (∀ w, IfsIn w x is → RtsIn w y rs → Calls Tryz.prog 69 #[instV x is.length c1 y rs.length c2 now, .int .i64 i, .bool false] w fun e w' => e = .returned (.int .i64 (beginC is rs now i false)) ∧ Below w.heap.size w w') := fun w p q => l07Begin_any x c1 y c2 is rs now i false w p hc q hn1 hn2
  have HCC : Hid (beginC is rs now i false = if instB is rs now = true then (match ifAt is i with | none => (6 : Int) | some f => if f.u = false then (10 : Int) else 0) else 1) := rfl
  generalize beginC is rs now i false = CC at *
  have HLo : Hid (instB is rs now = true → ∀ w, RtsIn w y rs → Calls Tryz.prog 71 #[.agg #[.slice y rs.length c2], .int .i64 i, .int .i64 now] w fun e w' => ∃ q c, e = .returned (.agg #[.slice q (rs.filterMap (loseF i now)).length c]) ∧ w'.ownsRow w.heap.size 98 9 (.slice q (rs.filterMap (loseF i now)).length c) (rs.filterMap (loseF i now)).length (rowR (rs.filterMap (loseF i now))) ∧ Below w.heap.size w w') := fun hI w h => by
    obtain ⟨b1, b2, b3⟩ := instB_bd hI
    have := l06Lose_any y c2 rs i now w h hn2 b2 (by omega)
    rw [lose_lists b1] at this
    exact this
  have HD : Hid (downO is rs now i = if instB is rs now = true then (match ifAt is i with | none => ((6 : Int), [], [], (0 : Int)) | some f => if f.u = true then (0, setU is i.toNat false, rs.filterMap (loseF i now), now) else ((10 : Int), [], [], (0 : Int))) else (1, [], [], 0)) := rfl
  clear h1 h2 hc hc1 hc2 hl2
  generalize downO is rs now i = RES at *
  generalize instB is rs now = IB at *
  unfold instV at *
  obtain ⟨W, hW, q0, qz, hB, hS⟩ := rows2 w [.slice x is.length c1, .slice y rs.length c2, .int .i64 now] [.slice none 0 0, .slice none 0 0, .int .i64 0, .int .i64 0] 38 40
  have HW : Hid _ := hW
  have x0 : W.cell? ⟨w.heap.size, 0, none⟩ = some (.slice x is.length c1) := q0.cell 0
  have x1 : W.cell? ⟨w.heap.size, 1, none⟩ = some (.slice y rs.length c2) := q0.cell 1
  have x2 : W.cell? ⟨w.heap.size, 2, none⟩ = some (.int .i64 now) := q0.cell 2
  have HQ : Hid _ := And.intro q0 (And.intro qz hB)
  clear q0 qz hB hS
  go_enter Tryz.func24, Tryz.ntmps24
  rw [hW] at x0 x1 x2
  clear hW
  go_wp2_with fail
  rw [← HW.out]
  obtain ⟨q0, qz, hB⟩ := HQ.out
  clear x0 x1 x2 HW
  refine (HBg.out _ (HX.out.1.below hB) (HX.out.2.below hB)).mono ?_
  rintro e w1 ⟨rfl, hb1⟩
  have q0 := q0.below hb1 q0.lt
  have qz := qz.below hb1 qz.lt
  have hB := hB.trans (hb1.mono hB.size)
  clear hb1 HBg HQ
  clear hn1 hn2
  have hR := HD.out
  have hc := HCC.out
  clear HD HCC
  cases IB
  · simp only [Bool.false_eq_true, if_false] at hR hc
    subst hc
    clear HX q0 HC HLo
    go_wp2_with fail
    refine (HIl.out 1 _).mono ?_
    rintro e w9 ⟨rfl, hb9⟩
    have qz := qz.below hb9 qz.lt
    have hB := hB.trans (hb9.mono hB.size)
    clear hb9 HIl
    have f0 : w9.frozen? ⟨w.heap.size + 1, 0, none⟩ = false := qz.frozen 0
    have f1 : w9.frozen? ⟨w.heap.size + 1, 1, none⟩ = false := qz.frozen 1
    have f2 : w9.frozen? ⟨w.heap.size + 1, 2, none⟩ = false := qz.frozen 2
    have f3 : w9.frozen? ⟨w.heap.size + 1, 3, none⟩ = false := qz.frozen 3
    have z0 : w9.cell? ⟨w.heap.size + 1, 0, none⟩ = some (.slice none 0 0) := qz.cell 0
    have z1 : w9.cell? ⟨w.heap.size + 1, 1, none⟩ = some (.slice none 0 0) := qz.cell 1
    have z2 : w9.cell? ⟨w.heap.size + 1, 2, none⟩ = some (.int .i64 0) := qz.cell 2
    have z3 : w9.cell? ⟨w.heap.size + 1, 3, none⟩ = some (.int .i64 0) := qz.cell 3
    have HE : Hid _ := out4 (p := none) (q := none) (now := 0) (cc := 1) qz rfl (show w.heap.size ≤ w.heap.size + 1 by omega) hB (ownsI_nil w9 w.heap.size) (ownsR_nil w9 w.heap.size) rfl _ rfl
    clear qz hB 
    go_wp2_with fail
    generalize (((w9.setCell ⟨w.heap.size + 1, 0, none⟩ (.slice none 0 0)).setCell ⟨w.heap.size + 1, 1, none⟩ (.slice none 0 0)).setCell ⟨w.heap.size + 1, 2, none⟩ (.int .i64 0)).setCell ⟨w.heap.size + 1, 3, none⟩ (.int .i64 1) = Z at *
    obtain ⟨k1, k2, k3, k4⟩ := HE.out
    clear HE f0 f1 f2 f3 z0 z1 z2 z3
    have e0 : Z.cell? ⟨w.heap.size + 1, 0, none⟩ = some (.slice none 0 0) := k1.cell 0
    have e1 : Z.cell? ⟨w.heap.size + 1, 1, none⟩ = some (.slice none 0 0) := k1.cell 1
    have e2 : Z.cell? ⟨w.heap.size + 1, 2, none⟩ = some (.int .i64 0) := k1.cell 2
    have e3 : Z.cell? ⟨w.heap.size + 1, 3, none⟩ = some (.int .i64 1) := k1.cell 3
    exact bodyPost_ret (v := .agg #[.slice none 0 0, .slice none 0 0, .int .i64 0, .int .i64 1]) (by simp [results, Tryz.results24, go_sem, e0, e1, e2, e3]) rfl ⟨by rw [hR]; exact outI_no _ _ _, k2⟩
  · simp only [if_true] at hR hc
    cases hia : ifAt is i with
    | none =>
      rw [hia] at hc hR
      simp only at hc hR
      clear hia
      subst hc
      clear HX q0 HC HLo
      go_wp2_with fail
      refine (HIl.out 6 _).mono ?_
      rintro e w9 ⟨rfl, hb9⟩
      have qz := qz.below hb9 qz.lt
      have hB := hB.trans (hb9.mono hB.size)
      clear hb9 HIl
      have f0 : w9.frozen? ⟨w.heap.size + 1, 0, none⟩ = false := qz.frozen 0
      have f1 : w9.frozen? ⟨w.heap.size + 1, 1, none⟩ = false := qz.frozen 1
      have f2 : w9.frozen? ⟨w.heap.size + 1, 2, none⟩ = false := qz.frozen 2
      have f3 : w9.frozen? ⟨w.heap.size + 1, 3, none⟩ = false := qz.frozen 3
      have z0 : w9.cell? ⟨w.heap.size + 1, 0, none⟩ = some (.slice none 0 0) := qz.cell 0
      have z1 : w9.cell? ⟨w.heap.size + 1, 1, none⟩ = some (.slice none 0 0) := qz.cell 1
      have z2 : w9.cell? ⟨w.heap.size + 1, 2, none⟩ = some (.int .i64 0) := qz.cell 2
      have z3 : w9.cell? ⟨w.heap.size + 1, 3, none⟩ = some (.int .i64 0) := qz.cell 3
      have HE : Hid _ := out4 (p := none) (q := none) (now := 0) (cc := 6) qz rfl (show w.heap.size ≤ w.heap.size + 1 by omega) hB (ownsI_nil w9 w.heap.size) (ownsR_nil w9 w.heap.size) rfl _ rfl
      clear qz hB 
      go_wp2_with fail
      generalize (((w9.setCell ⟨w.heap.size + 1, 0, none⟩ (.slice none 0 0)).setCell ⟨w.heap.size + 1, 1, none⟩ (.slice none 0 0)).setCell ⟨w.heap.size + 1, 2, none⟩ (.int .i64 0)).setCell ⟨w.heap.size + 1, 3, none⟩ (.int .i64 6) = Z at *
      obtain ⟨k1, k2, k3, k4⟩ := HE.out
      clear HE f0 f1 f2 f3 z0 z1 z2 z3
      have e0 : Z.cell? ⟨w.heap.size + 1, 0, none⟩ = some (.slice none 0 0) := k1.cell 0
      have e1 : Z.cell? ⟨w.heap.size + 1, 1, none⟩ = some (.slice none 0 0) := k1.cell 1
      have e2 : Z.cell? ⟨w.heap.size + 1, 2, none⟩ = some (.int .i64 0) := k1.cell 2
      have e3 : Z.cell? ⟨w.heap.size + 1, 3, none⟩ = some (.int .i64 6) := k1.cell 3
      exact bodyPost_ret (v := .agg #[.slice none 0 0, .slice none 0 0, .int .i64 0, .int .i64 6]) (by simp [results, Tryz.results24, go_sem, e0, e1, e2, e3]) rfl ⟨by rw [hR]; exact outI_no _ _ _, k2⟩
    | some f =>
      rw [hia] at hc hR
      simp only at hc hR
      by_cases hu : f.u = false
      · rw [if_pos hu] at hc
        rw [if_neg (by rw [hu]; decide)] at hR
        clear hia hu
        subst hc
        clear HX q0 HC HLo
        go_wp2_with fail
        refine (HIl.out 10 _).mono ?_
        rintro e w9 ⟨rfl, hb9⟩
        have qz := qz.below hb9 qz.lt
        have hB := hB.trans (hb9.mono hB.size)
        clear hb9 HIl
        have f0 : w9.frozen? ⟨w.heap.size + 1, 0, none⟩ = false := qz.frozen 0
        have f1 : w9.frozen? ⟨w.heap.size + 1, 1, none⟩ = false := qz.frozen 1
        have f2 : w9.frozen? ⟨w.heap.size + 1, 2, none⟩ = false := qz.frozen 2
        have f3 : w9.frozen? ⟨w.heap.size + 1, 3, none⟩ = false := qz.frozen 3
        have z0 : w9.cell? ⟨w.heap.size + 1, 0, none⟩ = some (.slice none 0 0) := qz.cell 0
        have z1 : w9.cell? ⟨w.heap.size + 1, 1, none⟩ = some (.slice none 0 0) := qz.cell 1
        have z2 : w9.cell? ⟨w.heap.size + 1, 2, none⟩ = some (.int .i64 0) := qz.cell 2
        have z3 : w9.cell? ⟨w.heap.size + 1, 3, none⟩ = some (.int .i64 0) := qz.cell 3
        have HE : Hid _ := out4 (p := none) (q := none) (now := 0) (cc := 10) qz rfl (show w.heap.size ≤ w.heap.size + 1 by omega) hB (ownsI_nil w9 w.heap.size) (ownsR_nil w9 w.heap.size) rfl _ rfl
        clear qz hB 
        go_wp2_with fail
        generalize (((w9.setCell ⟨w.heap.size + 1, 0, none⟩ (.slice none 0 0)).setCell ⟨w.heap.size + 1, 1, none⟩ (.slice none 0 0)).setCell ⟨w.heap.size + 1, 2, none⟩ (.int .i64 0)).setCell ⟨w.heap.size + 1, 3, none⟩ (.int .i64 10) = Z at *
        obtain ⟨k1, k2, k3, k4⟩ := HE.out
        clear HE f0 f1 f2 f3 z0 z1 z2 z3
        have e0 : Z.cell? ⟨w.heap.size + 1, 0, none⟩ = some (.slice none 0 0) := k1.cell 0
        have e1 : Z.cell? ⟨w.heap.size + 1, 1, none⟩ = some (.slice none 0 0) := k1.cell 1
        have e2 : Z.cell? ⟨w.heap.size + 1, 2, none⟩ = some (.int .i64 0) := k1.cell 2
        have e3 : Z.cell? ⟨w.heap.size + 1, 3, none⟩ = some (.int .i64 10) := k1.cell 3
        exact bodyPost_ret (v := .agg #[.slice none 0 0, .slice none 0 0, .int .i64 0, .int .i64 10]) (by simp [results, Tryz.results24, go_sem, e0, e1, e2, e3]) rfl ⟨by rw [hR]; exact outI_no _ _ _, k2⟩
      · rw [if_neg hu] at hc
        rw [if_pos (by cases h : f.u <;> simp_all)] at hR
        subst hc
        obtain ⟨k, rfl, hk, he⟩ := ifAt_some hia
        simp only [Int.toNat_natCast] at hR
        clear hia hu HIl
        generalize hqs : rs.filterMap (loseF (k : Int) now) = qs at *
        clear hqs he
        have y0 : w1.cell? ⟨w.heap.size, 0, none⟩ = some (.slice x is.length c1) := q0.cell 0
        have y1 : w1.cell? ⟨w.heap.size, 1, none⟩ = some (.slice y rs.length c2) := q0.cell 1
        have y2 : w1.cell? ⟨w.heap.size, 2, none⟩ = some (.int .i64 now) := q0.cell 2
        go_wp2_with fail
        refine (HC.out _ (HX.out.1.below hB) (HX.out.2.below hB)).mono ?_
        rintro e w2 ⟨q1, k1, q2, k2, rfl, o1, -, hb2⟩
        have L1 := qz.lt
        have L0 := q0.lt
        have hBs := hB.size
        have q0 := q0.below hb2 q0.lt
        have qz := qz.below hb2 qz.lt
        have hB := hB.trans (hb2.mono hB.size)
        have o1 := ownsI_mono (base' := w.heap.size) o1 (by omega)
        have hL1 : w.heap.size + 1 < w2.heap.size := by have := qz.lt; omega
        clear hb2 HC y0 y1 y2
        obtain ⟨g1, rfl, hg1, ⟨u1, x1⟩, x2, hg1l, hgt⟩ := ownsI_at o1 k hk
        have o1 := ownsI_setU o1 rfl k hk false
        have zk : (k : Int) < (is.length : Int) := by omega
        have q0 := q0.other (k * 5 + 4) (.bool false) (fun e => by have := hgt _ _ (e ▸ q0); exact absurd this (by decide))
        have qz := qz.other (k * 5 + 4) (.bool false) (fun e => by have := hgt _ _ (e ▸ qz); exact absurd this (by decide))
        have hB := hB.setCell (p := ⟨g1, k * 5 + 4, none⟩) hg1 (.bool false)
        have hsz1 : (w2.setCell ⟨g1, k * 5 + 4, none⟩ (.bool false)).heap.size = w2.heap.size := by simp
        have xa : (w2.alloc (.cells #[.slice (some ⟨g1, 0, none⟩) is.length k1, .slice q2 rs.length k2, .int .i64 now] 38)).cell? ⟨g1, k * 5 + 4, none⟩ = some u1 := by rw [(ent_new0 w2 (.cells #[.slice (some ⟨g1, 0, none⟩) is.length k1, .slice q2 rs.length k2, .int .i64 now] 38)).cell (p := ⟨g1, k * 5 + 4, none⟩) hg1l]; exact x1
        have xf : (w2.alloc (.cells #[.slice (some ⟨g1, 0, none⟩) is.length k1, .slice q2 rs.length k2, .int .i64 now] 38)).frozen? ⟨g1, k * 5 + 4, none⟩ = false := by rw [(ent_new0 w2 (.cells #[.slice (some ⟨g1, 0, none⟩) is.length k1, .slice q2 rs.length k2, .int .i64 now] 38)).frozen (p := ⟨g1, k * 5 + 4, none⟩) hg1l]; exact x2
        clear x1 x2
        have rc := Row.new (w2.setCell ⟨g1, k * 5 + 4, none⟩ (.bool false)) 38 [.slice (some ⟨g1, 0, none⟩) is.length k1, .slice q2 rs.length k2, .int .i64 now]
        rw [hsz1] at rc
        have q0 := q0.alloc (.cells #[.slice (some ⟨g1, 0, none⟩) is.length k1, .slice q2 rs.length k2, .int .i64 now] 38)
        have qz := qz.alloc (.cells #[.slice (some ⟨g1, 0, none⟩) is.length k1, .slice q2 rs.length k2, .int .i64 now] 38)
        have o1 := World.ownsRow.alloc o1 (.cells #[.slice (some ⟨g1, 0, none⟩) is.length k1, .slice q2 rs.length k2, .int .i64 now] 38)
        have hB := hB.alloc (by have := hB.size; omega) (.cells #[.slice (some ⟨g1, 0, none⟩) is.length k1, .slice q2 rs.length k2, .int .i64 now] 38)
        have y1 : ((w2.setCell ⟨g1, k * 5 + 4, none⟩ (.bool false)).alloc (.cells #[.slice (some ⟨g1, 0, none⟩) is.length k1, .slice q2 rs.length k2, .int .i64 now] 38)).cell? ⟨w.heap.size, 1, none⟩ = some (.slice y rs.length c2) := q0.cell 1
        have y2 : ((w2.setCell ⟨g1, k * 5 + 4, none⟩ (.bool false)).alloc (.cells #[.slice (some ⟨g1, 0, none⟩) is.length k1, .slice q2 rs.length k2, .int .i64 now] 38)).cell? ⟨w.heap.size, 2, none⟩ = some (.int .i64 now) := q0.cell 2
        have hLb : w.heap.size + 1 ≠ w2.heap.size ∧ w.heap.size ≠ w2.heap.size := ⟨by omega, by omega⟩
        have HA : Hid _ := And.intro rc (And.intro q0 (And.intro qz (And.intro o1 hB)))
        clear rc q0 qz o1 hB
        go_wp2_with fail
        generalize w2.heap.size = b at *
        generalize (w2.setCell ⟨g1, k * 5 + 4, none⟩ (.bool false)).alloc (.cells #[.slice (some ⟨g1, 0, none⟩) is.length k1, .slice q2 rs.length k2, .int .i64 now] 38) = W3 at *
        obtain ⟨rc, q0, qz, o1, hB⟩ := HA.out
        clear HA y1 y2 xa xf
        have HLo2 := HLo.out trivial _ (HX.out.2.below hB)
        clear HLo HX
        refine HLo2.mono ?_
        rintro e w3 ⟨q, c, rfl, o3, hb3⟩
        have rc := rc.below hb3 rc.lt
        have q0 := q0.below hb3 q0.lt
        have qz := qz.below hb3 qz.lt
        have o1 := ownsI_below o1 hb3
        have o3 := ownsR_mono (base' := w.heap.size) o3 hB.size
        have hbW : w.heap.size ≤ b := by omega
        have hB := hB.trans (hb3.mono hB.size)
        clear hb3
        clear HLo2
        have t0 : w3.cell? ⟨b, 0, none⟩ = some (.slice (some ⟨g1, 0, none⟩) is.length k1) := rc.cell 0
        have t1 : w3.cell? ⟨b, 1, none⟩ = some (.slice q2 rs.length k2) := rc.cell 1
        have t2 : w3.cell? ⟨b, 2, none⟩ = some (.int .i64 now) := rc.cell 2
        have tf : w3.frozen? ⟨b, 1, none⟩ = false := rc.frozen 1
        have nb : ¬ b = w.heap.size + 1 := fun e => hLb.1 e.symm
        have nb' : ¬ w.heap.size + 1 = b := hLb.1
        have f0 : w3.frozen? ⟨w.heap.size + 1, 0, none⟩ = false := qz.frozen 0
        have f1 : w3.frozen? ⟨w.heap.size + 1, 1, none⟩ = false := qz.frozen 1
        have f2 : w3.frozen? ⟨w.heap.size + 1, 2, none⟩ = false := qz.frozen 2
        have f3 : w3.frozen? ⟨w.heap.size + 1, 3, none⟩ = false := qz.frozen 3
        have z0 : w3.cell? ⟨w.heap.size + 1, 0, none⟩ = some (.slice none 0 0) := qz.cell 0
        have z1 : w3.cell? ⟨w.heap.size + 1, 1, none⟩ = some (.slice none 0 0) := qz.cell 1
        have z2 : w3.cell? ⟨w.heap.size + 1, 2, none⟩ = some (.int .i64 0) := qz.cell 2
        have z3 : w3.cell? ⟨w.heap.size + 1, 3, none⟩ = some (.int .i64 0) := qz.cell 3
        have hk4 : ∀ g t l, g ≠ b → Row w3 g t l → Row (w3.setCell ⟨b, 1, none⟩ (.slice q qs.length c)) g t l := fun g t l hne h => h.other 1 _ hne
        have qz4 := hk4 _ _ _ hLb.1 qz
        have o14 := ownsI_kept o1 (fun g t l e h => hk4 g t l (fun e2 => ownsI_ne o1 rc (by decide) (by rw [e, e2])) h)
        have o34 := ownsR_kept rfl o3 (fun g t l e h => hk4 g t l (fun e2 => ownsR_ne o3 rc (by decide) (by rw [e, e2])) h)
        have hB4 := hB.setCell (p := ⟨b, 1, none⟩) (by show w.heap.size ≤ b; omega) (.slice q qs.length c)
        have HE : Hid _ := out4 (p := (some ⟨g1, 0, none⟩)) (q := q) (now := now) (cc := 0) qz4 rfl (show w.heap.size ≤ w.heap.size + 1 by omega) hB4 o14 o34 rfl _ rfl
        clear qz qz4 o1 o3 o14 o34 hB hB4 hk4 rc q0
        go_wp2_with fail
        generalize (((((w3.setCell ⟨b, 1, none⟩ (.slice q qs.length c))).setCell ⟨w.heap.size + 1, 0, none⟩ (.slice (some ⟨g1, 0, none⟩) is.length k1)).setCell ⟨w.heap.size + 1, 1, none⟩ (.slice q qs.length c)).setCell ⟨w.heap.size + 1, 2, none⟩ (.int .i64 now)).setCell ⟨w.heap.size + 1, 3, none⟩ (.int .i64 0) = Z at *
        obtain ⟨m1, m2, m3, m4⟩ := HE.out
        clear HE f0 f1 f2 f3 z0 z1 z2 z3 t0 t1 t2 tf nb nb'
        have e0 : Z.cell? ⟨w.heap.size + 1, 0, none⟩ = some (.slice (some ⟨g1, 0, none⟩) is.length k1) := m1.cell 0
        have e1 : Z.cell? ⟨w.heap.size + 1, 1, none⟩ = some (.slice q qs.length c) := m1.cell 1
        have e2 : Z.cell? ⟨w.heap.size + 1, 2, none⟩ = some (.int .i64 now) := m1.cell 2
        have e3 : Z.cell? ⟨w.heap.size + 1, 3, none⟩ = some (.int .i64 0) := m1.cell 3
        exact bodyPost_ret (v := .agg #[.slice (some ⟨g1, 0, none⟩) is.length k1, .slice q qs.length c, .int .i64 now, .int .i64 0]) (by simp [results, Tryz.results24, go_sem, e0, e1, e2, e3]) rfl ⟨by rw [hR]; exact outI_of (setU_length is k false) rfl m3 m4, m2⟩
end Go.Proofs.YtifckpncpjijiaaGreat
