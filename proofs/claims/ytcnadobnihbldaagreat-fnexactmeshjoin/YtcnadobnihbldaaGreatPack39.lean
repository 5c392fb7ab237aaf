/- Texts that stand on each other, in one file: DownS, UpS. -/
import Derived.Test.YtcnadobnihbldaaGreatPack37
import Derived.Test.YtcnadobnihbldaaGreatPack38
import Derived.Test.YtcnadobnihbldaaGreatPack31
import Derived.Test.YtcnadobnihbldaaGreatPack32
/- Down of the model. (Written by gen_insts.py.) -/
namespace Go.Proofs.YtcnadobnihbldaaGreat
open Go.RowKit Go.Sort

theorem outI_of {base n d1 d2 : Nat} {cc now : Int} {is : List If} {rs : List Rt} {e : Ending} {w : World} {p q : Option Addr} (hn : is.length = n) (he : e = .returned (.agg #[.slice p n d1, .slice q rs.length d2, .int .i64 now, .int .i64 cc])) (oi : w.ownsRow base 53 5 (.slice p n d1) n (rowI is)) (orr : w.ownsRow base 155 9 (.slice q rs.length d2) rs.length (rowR rs)) : OutI base (cc, is, rs, now) e w := by
  subst hn
  exact ⟨p, d1, q, d2, he, oi, orr⟩
theorem ownsI_at {w : World} {base cv : Nat} {p : Option Addr} {is : List If} (h : w.ownsRow base 53 5 (.slice p is.length cv) is.length (rowI is)) (k : Nat) (hk : k < is.length) : ∃ b, p = some ⟨b, 0, none⟩ ∧ base ≤ b ∧ (∃ u, w.cell? ⟨b, k * 5 + 4, none⟩ = some u) ∧ w.frozen? ⟨b, k * 5 + 4, none⟩ = false ∧ b < w.heap.size ∧ ∀ t l, Row w b t l → t = 53 := by
  rcases ownsI_opened h with h0 | ⟨b, rest, rfl, hb, h1, h2, hrb, hl⟩
  · subst h0
    simp at hk
  · have hlt : k * 5 + 4 < (rowI is ++ rest).length := by rw [List.length_append, rowI_length]; omega
    refine ⟨b, rfl, hb, Row.someI hrb _ hlt, hrb.frozen _, hrb.lt, fun t l ht => ?_⟩
    unfold Row at ht hrb
    rw [hrb] at ht
    simp only [Option.some.injEq, Obj.cells.injEq] at ht
    exact ht.2.1.symm
set_option maxRecDepth 100000 in
set_option maxHeartbeats 2000000 in
theorem specDown_any (x : Option Addr) (c1 : Nat) (y : Option Addr) (c2 : Nat) (is : List If) (rs : List Rt) (now : Int) (i : Int) (w : World) (h1 : IfsIn w x is) (hc : is.length ≤ c1) (hc1 : x = none → c1 = 0) (h2 : RtsIn w y rs) (hc2 : y = none → c2 = 0) (hl2 : rs.length ≤ c2) (hn1 : is.length ≤ 100000000) (hn2 : rs.length ≤ 100000000) :
    Calls Tryz.prog 86 #[instV x is.length c1 y rs.length c2 now, .int .i64 i] w fun e w' => OutI w.heap.size (downO is rs now i) e w' ∧ Below w.heap.size w w' := by
  have HX : Hid (IfsIn w x is ∧ RtsIn w y rs) := ⟨h1, h2⟩
  have HIl : Hid (∀ c w, Calls Tryz.prog 54 #[.int .i64 c] w fun e w' => e = .returned (.agg #[.slice none 0 0, .slice none 0 0, .int .i64 0, .int .i64 c]) ∧ Below w.heap.size w w') := l07Ill_any
  have HC : Hid (∀ w, IfsIn w x is → RtsIn w y rs → Calls Tryz.prog 69 #[instV x is.length c1 y rs.length c2 now] w fun e w' => ∃ q1 k1 q2 k2, e = .returned (.agg #[.slice q1 is.length k1, .slice q2 rs.length k2, .int .i64 now]) ∧ w'.ownsRow w.heap.size 53 5 (.slice q1 is.length k1) is.length (rowI is) ∧ w'.ownsRow w.heap.size 155 9 (.slice q2 rs.length k2) rs.length (rowR rs) ∧ Below w.heap.size w w') := fun w p q => l07Copy_any x _ c1 y _ c2 is rs now w rfl rfl p hc1 q hc2 hl2 hn1 hn2
  have HBg : Hid (∀ w, IfsIn w x is → RtsIn w y rs → Calls Tryz.prog 129 #[instV x is.length c1 y rs.length c2 now, .int .i64 i, .bool false] w fun e w' => e = .returned (.int .i64 (beginC is rs now i false)) ∧ Below w.heap.size w w') := fun w p q => l07Begin_any x c1 y c2 is rs now i false w p hc q hn1 hn2
  have HCC : Hid (beginC is rs now i false = if instB is rs now = true then (match ifAt is i with | none => (6 : Int) | some f => if f.u = false then (10 : Int) else 0) else 1) := rfl
  generalize beginC is rs now i false = CC at *
  have HLo : Hid (instB is rs now = true → ∀ w, RtsIn w y rs → Calls Tryz.prog 130 #[.agg #[.slice y rs.length c2], .int .i64 i, .int .i64 now] w fun e w' => ∃ q c, e = .returned (.agg #[.slice q (rs.filterMap (loseF i now)).length c]) ∧ w'.ownsRow w.heap.size 155 9 (.slice q (rs.filterMap (loseF i now)).length c) (rs.filterMap (loseF i now)).length (rowR (rs.filterMap (loseF i now))) ∧ Below w.heap.size w w') := fun hI w h => by
    obtain ⟨b1, b2, b3⟩ := instB_bd hI
    have := l06Lose_any y c2 rs i now w h hn2 b2 (by omega)
    rw [lose_lists b1] at this
    exact this
  have HD : Hid (downO is rs now i = if instB is rs now = true then (match ifAt is i with | none => ((6 : Int), [], [], (0 : Int)) | some f => if f.u = true then (0, setU is i.toNat false, rs.filterMap (loseF i now), now) else ((10 : Int), [], [], (0 : Int))) else (1, [], [], 0)) := rfl
  clear h1 h2 hc hc1 hc2 hl2
  generalize downO is rs now i = RES at *
  generalize instB is rs now = IB at *
  unfold instV at *
  obtain ⟨W, hW, q0, qz, hB, hS⟩ := rows2 w [.slice x is.length c1, .slice y rs.length c2, .int .i64 now] [.slice none 0 0, .slice none 0 0, .int .i64 0, .int .i64 0] 61 63
  have HW : Hid _ := hW
  have x0 : W.cell? ⟨w.heap.size, 0, none⟩ = some (.slice x is.length c1) := q0.cell 0
  have x1 : W.cell? ⟨w.heap.size, 1, none⟩ = some (.slice y rs.length c2) := q0.cell 1
  have x2 : W.cell? ⟨w.heap.size, 2, none⟩ = some (.int .i64 now) := q0.cell 2
  have HQ : Hid _ := And.intro q0 (And.intro qz hB)
  clear q0 qz hB hS
  go_enter Tryz.func86, Tryz.ntmps86
  rw [hW] at x0 x1 x2
  clear hW
  go_wp2_with fail
  rw [← HW.out]
  obtain ⟨q0, qz, hB⟩ := HQ.out
  clear x0 x1 x2 HW
  refine (HBg.out _ (HX.out.1.below hB) (HX.out.2.below hB)).mono ?_
  rintro e w1 ⟨rfl, hb1⟩
  have q0 := q0.below hb1 q0.lt
  have qz := qz.below hb1 qz.lt
  have hB := hB.trans (hb1.mono hB.size)
  clear hb1 HBg HQ
  clear hn1 hn2
  have hR := HD.out
  have hc := HCC.out
  clear HD HCC
  cases IB
  · simp only [Bool.false_eq_true, if_false] at hR hc
    subst hc
    clear HX q0 HC HLo
    go_wp2_with fail
    refine (HIl.out 1 _).mono ?_
    rintro e w9 ⟨rfl, hb9⟩
    have qz := qz.below hb9 qz.lt
    have hB := hB.trans (hb9.mono hB.size)
    clear hb9 HIl
    have f0 : w9.frozen? ⟨w.heap.size + 1, 0, none⟩ = false := qz.frozen 0
    have f1 : w9.frozen? ⟨w.heap.size + 1, 1, none⟩ = false := qz.frozen 1
    have f2 : w9.frozen? ⟨w.heap.size + 1, 2, none⟩ = false := qz.frozen 2
    have f3 : w9.frozen? ⟨w.heap.size + 1, 3, none⟩ = false := qz.frozen 3
    have z0 : w9.cell? ⟨w.heap.size + 1, 0, none⟩ = some (.slice none 0 0) := qz.cell 0
    have z1 : w9.cell? ⟨w.heap.size + 1, 1, none⟩ = some (.slice none 0 0) := qz.cell 1
    have z2 : w9.cell? ⟨w.heap.size + 1, 2, none⟩ = some (.int .i64 0) := qz.cell 2
    have z3 : w9.cell? ⟨w.heap.size + 1, 3, none⟩ = some (.int .i64 0) := qz.cell 3
    have HE : Hid _ := out4 (p := none) (q := none) (now := 0) (cc := 1) qz rfl (show w.heap.size ≤ w.heap.size + 1 by omega) hB (ownsI_nil w9 w.heap.size) (ownsR_nil w9 w.heap.size) rfl _ rfl
    clear qz hB 
    go_wp2_with fail
    generalize (((w9.setCell ⟨w.heap.size + 1, 0, none⟩ (.slice none 0 0)).setCell ⟨w.heap.size + 1, 1, none⟩ (.slice none 0 0)).setCell ⟨w.heap.size + 1, 2, none⟩ (.int .i64 0)).setCell ⟨w.heap.size + 1, 3, none⟩ (.int .i64 1) = Z at *
    obtain ⟨k1, k2, k3, k4⟩ := HE.out
    clear HE f0 f1 f2 f3 z0 z1 z2 z3
    have e0 : Z.cell? ⟨w.heap.size + 1, 0, none⟩ = some (.slice none 0 0) := k1.cell 0
    have e1 : Z.cell? ⟨w.heap.size + 1, 1, none⟩ = some (.slice none 0 0) := k1.cell 1
    have e2 : Z.cell? ⟨w.heap.size + 1, 2, none⟩ = some (.int .i64 0) := k1.cell 2
    have e3 : Z.cell? ⟨w.heap.size + 1, 3, none⟩ = some (.int .i64 1) := k1.cell 3
    exact bodyPost_ret (v := .agg #[.slice none 0 0, .slice none 0 0, .int .i64 0, .int .i64 1]) (by simp [results, Tryz.results86, go_sem, e0, e1, e2, e3]) rfl ⟨by rw [hR]; exact outI_no _ _ _, k2⟩
  · simp only [if_true] at hR hc
    cases hia : ifAt is i with
    | none =>
      rw [hia] at hc hR
      simp only at hc hR
      clear hia
      subst hc
      clear HX q0 HC HLo
      go_wp2_with fail
      refine (HIl.out 6 _).mono ?_
      rintro e w9 ⟨rfl, hb9⟩
      have qz := qz.below hb9 qz.lt
      have hB := hB.trans (hb9.mono hB.size)
      clear hb9 HIl
      have f0 : w9.frozen? ⟨w.heap.size + 1, 0, none⟩ = false := qz.frozen 0
      have f1 : w9.frozen? ⟨w.heap.size + 1, 1, none⟩ = false := qz.frozen 1
      have f2 : w9.frozen? ⟨w.heap.size + 1, 2, none⟩ = false := qz.frozen 2
      have f3 : w9.frozen? ⟨w.heap.size + 1, 3, none⟩ = false := qz.frozen 3
      have z0 : w9.cell? ⟨w.heap.size + 1, 0, none⟩ = some (.slice none 0 0) := qz.cell 0
      have z1 : w9.cell? ⟨w.heap.size + 1, 1, none⟩ = some (.slice none 0 0) := qz.cell 1
      have z2 : w9.cell? ⟨w.heap.size + 1, 2, none⟩ = some (.int .i64 0) := qz.cell 2
      have z3 : w9.cell? ⟨w.heap.size + 1, 3, none⟩ = some (.int .i64 0) := qz.cell 3
      have HE : Hid _ := out4 (p := none) (q := none) (now := 0) (cc := 6) qz rfl (show w.heap.size ≤ w.heap.size + 1 by omega) hB (ownsI_nil w9 w.heap.size) (ownsR_nil w9 w.heap.size) rfl _ rfl
      clear qz hB 
      go_wp2_with fail
      generalize (((w9.setCell ⟨w.heap.size + 1, 0, none⟩ (.slice none 0 0)).setCell ⟨w.heap.size + 1, 1, none⟩ (.slice none 0 0)).setCell ⟨w.heap.size + 1, 2, none⟩ (.int .i64 0)).setCell ⟨w.heap.size + 1, 3, none⟩ (.int .i64 6) = Z at *
      obtain ⟨k1, k2, k3, k4⟩ := HE.out
      clear HE f0 f1 f2 f3 z0 z1 z2 z3
      have e0 : Z.cell? ⟨w.heap.size + 1, 0, none⟩ = some (.slice none 0 0) := k1.cell 0
      have e1 : Z.cell? ⟨w.heap.size + 1, 1, none⟩ = some (.slice none 0 0) := k1.cell 1
      have e2 : Z.cell? ⟨w.heap.size + 1, 2, none⟩ = some (.int .i64 0) := k1.cell 2
      have e3 : Z.cell? ⟨w.heap.size + 1, 3, none⟩ = some (.int .i64 6) := k1.cell 3
      exact bodyPost_ret (v := .agg #[.slice none 0 0, .slice none 0 0, .int .i64 0, .int .i64 6]) (by simp [results, Tryz.results86, go_sem, e0, e1, e2, e3]) rfl ⟨by rw [hR]; exact outI_no _ _ _, k2⟩
    | some f =>
      rw [hia] at hc hR
      simp only at hc hR
      by_cases hu : f.u = false
      · rw [if_pos hu] at hc
        rw [if_neg (by rw [hu]; decide)] at hR
        clear hia hu
        subst hc
        clear HX q0 HC HLo
        go_wp2_with fail
        refine (HIl.out 10 _).mono ?_
        rintro e w9 ⟨rfl, hb9⟩
        have qz := qz.below hb9 qz.lt
        have hB := hB.trans (hb9.mono hB.size)
        clear hb9 HIl
        have f0 : w9.frozen? ⟨w.heap.size + 1, 0, none⟩ = false := qz.frozen 0
        have f1 : w9.frozen? ⟨w.heap.size + 1, 1, none⟩ = false := qz.frozen 1
        have f2 : w9.frozen? ⟨w.heap.size + 1, 2, none⟩ = false := qz.frozen 2
        have f3 : w9.frozen? ⟨w.heap.size + 1, 3, none⟩ = false := qz.frozen 3
        have z0 : w9.cell? ⟨w.heap.size + 1, 0, none⟩ = some (.slice none 0 0) := qz.cell 0
        have z1 : w9.cell? ⟨w.heap.size + 1, 1, none⟩ = some (.slice none 0 0) := qz.cell 1
        have z2 : w9.cell? ⟨w.heap.size + 1, 2, none⟩ = some (.int .i64 0) := qz.cell 2
        have z3 : w9.cell? ⟨w.heap.size + 1, 3, none⟩ = some (.int .i64 0) := qz.cell 3
        have HE : Hid _ := out4 (p := none) (q := none) (now := 0) (cc := 10) qz rfl (show w.heap.size ≤ w.heap.size + 1 by omega) hB (ownsI_nil w9 w.heap.size) (ownsR_nil w9 w.heap.size) rfl _ rfl
        clear qz hB 
        go_wp2_with fail
        generalize (((w9.setCell ⟨w.heap.size + 1, 0, none⟩ (.slice none 0 0)).setCell ⟨w.heap.size + 1, 1, none⟩ (.slice none 0 0)).setCell ⟨w.heap.size + 1, 2, none⟩ (.int .i64 0)).setCell ⟨w.heap.size + 1, 3, none⟩ (.int .i64 10) = Z at *
        obtain ⟨k1, k2, k3, k4⟩ := HE.out
        clear HE f0 f1 f2 f3 z0 z1 z2 z3
        have e0 : Z.cell? ⟨w.heap.size + 1, 0, none⟩ = some (.slice none 0 0) := k1.cell 0
        have e1 : Z.cell? ⟨w.heap.size + 1, 1, none⟩ = some (.slice none 0 0) := k1.cell 1
        have e2 : Z.cell? ⟨w.heap.size + 1, 2, none⟩ = some (.int .i64 0) := k1.cell 2
        have e3 : Z.cell? ⟨w.heap.size + 1, 3, none⟩ = some (.int .i64 10) := k1.cell 3
        exact bodyPost_ret (v := .agg #[.slice none 0 0, .slice none 0 0, .int .i64 0, .int .i64 10]) (by simp [results, Tryz.results86, go_sem, e0, e1, e2, e3]) rfl ⟨by rw [hR]; exact outI_no _ _ _, k2⟩
      · rw [if_neg hu] at hc
        rw [if_pos (by cases h : f.u <;> simp_all)] at hR
        subst hc
        obtain ⟨k, rfl, hk, he⟩ := ifAt_some hia
        simp only [Int.toNat_natCast] at hR
        clear hia hu HIl
        generalize hqs : rs.filterMap (loseF (k : Int) now) = qs at *
        clear hqs he
        have y0 : w1.cell? ⟨w.heap.size, 0, none⟩ = some (.slice x is.length c1) := q0.cell 0
        have y1 : w1.cell? ⟨w.heap.size, 1, none⟩ = some (.slice y rs.length c2) := q0.cell 1
        have y2 : w1.cell? ⟨w.heap.size, 2, none⟩ = some (.int .i64 now) := q0.cell 2
        go_wp2_with fail
        refine (HC.out _ (HX.out.1.below hB) (HX.out.2.below hB)).mono ?_
        rintro e w2 ⟨q1, k1, q2, k2, rfl, o1, -, hb2⟩
        have L1 := qz.lt
        have L0 := q0.lt
        have hBs := hB.size
        have q0 := q0.below hb2 q0.lt
        have qz := qz.below hb2 qz.lt
        have hB := hB.trans (hb2.mono hB.size)
        have o1 := ownsI_mono (base' := w.heap.size) o1 (by omega)
        have hL1 : w.heap.size + 1 < w2.heap.size := by have := qz.lt; omega
        clear hb2 HC y0 y1 y2
        obtain ⟨g1, rfl, hg1, ⟨u1, x1⟩, x2, hg1l, hgt⟩ := ownsI_at o1 k hk
        have o1 := ownsI_setU o1 rfl k hk false
        have zk : (k : Int) < (is.length : Int) := by omega
        have q0 := q0.other (k * 5 + 4) (.bool false) (fun e => by have := hgt _ _ (e ▸ q0); exact absurd this (by decide))
        have qz := qz.other (k * 5 + 4) (.bool false) (fun e => by have := hgt _ _ (e ▸ qz); exact absurd this (by decide))
        have hB := hB.setCell (p := ⟨g1, k * 5 + 4, none⟩) hg1 (.bool false)
        have hsz1 : (w2.setCell ⟨g1, k * 5 + 4, none⟩ (.bool false)).heap.size = w2.heap.size := by simp
        have xa : (w2.alloc (.cells #[.slice (some ⟨g1, 0, none⟩) is.length k1, .slice q2 rs.length k2, .int .i64 now] 61)).cell? ⟨g1, k * 5 + 4, none⟩ = some u1 := by rw [(ent_new0 w2 (.cells #[.slice (some ⟨g1, 0, none⟩) is.length k1, .slice q2 rs.length k2, .int .i64 now] 61)).cell (p := ⟨g1, k * 5 + 4, none⟩) hg1l]; exact x1
        have xf : (w2.alloc (.cells #[.slice (some ⟨g1, 0, none⟩) is.length k1, .slice q2 rs.length k2, .int .i64 now] 61)).frozen? ⟨g1, k * 5 + 4, none⟩ = false := by rw [(ent_new0 w2 (.cells #[.slice (some ⟨g1, 0, none⟩) is.length k1, .slice q2 rs.length k2, .int .i64 now] 61)).frozen (p := ⟨g1, k * 5 + 4, none⟩) hg1l]; exact x2
        clear x1 x2
        have rc := Row.new (w2.setCell ⟨g1, k * 5 + 4, none⟩ (.bool false)) 61 [.slice (some ⟨g1, 0, none⟩) is.length k1, .slice q2 rs.length k2, .int .i64 now]
        rw [hsz1] at rc
        have q0 := q0.alloc (.cells #[.slice (some ⟨g1, 0, none⟩) is.length k1, .slice q2 rs.length k2, .int .i64 now] 61)
        have qz := qz.alloc (.cells #[.slice (some ⟨g1, 0, none⟩) is.length k1, .slice q2 rs.length k2, .int .i64 now] 61)
        have o1 := World.ownsRow.alloc o1 (.cells #[.slice (some ⟨g1, 0, none⟩) is.length k1, .slice q2 rs.length k2, .int .i64 now] 61)
        have hB := hB.alloc (by have := hB.size; omega) (.cells #[.slice (some ⟨g1, 0, none⟩) is.length k1, .slice q2 rs.length k2, .int .i64 now] 61)
        have y1 : ((w2.setCell ⟨g1, k * 5 + 4, none⟩ (.bool false)).alloc (.cells #[.slice (some ⟨g1, 0, none⟩) is.length k1, .slice q2 rs.length k2, .int .i64 now] 61)).cell? ⟨w.heap.size, 1, none⟩ = some (.slice y rs.length c2) := q0.cell 1
        have y2 : ((w2.setCell ⟨g1, k * 5 + 4, none⟩ (.bool false)).alloc (.cells #[.slice (some ⟨g1, 0, none⟩) is.length k1, .slice q2 rs.length k2, .int .i64 now] 61)).cell? ⟨w.heap.size, 2, none⟩ = some (.int .i64 now) := q0.cell 2
        have hLb : w.heap.size + 1 ≠ w2.heap.size ∧ w.heap.size ≠ w2.heap.size := ⟨by omega, by omega⟩
        have HA : Hid _ := And.intro rc (And.intro q0 (And.intro qz (And.intro o1 hB)))
        clear rc q0 qz o1 hB
        go_wp2_with fail
        generalize w2.heap.size = b at *
        generalize (w2.setCell ⟨g1, k * 5 + 4, none⟩ (.bool false)).alloc (.cells #[.slice (some ⟨g1, 0, none⟩) is.length k1, .slice q2 rs.length k2, .int .i64 now] 61) = W3 at *
        obtain ⟨rc, q0, qz, o1, hB⟩ := HA.out
        clear HA y1 y2 xa xf
        have HLo2 := HLo.out trivial _ (HX.out.2.below hB)
        clear HLo HX
        refine HLo2.mono ?_
        rintro e w3 ⟨q, c, rfl, o3, hb3⟩
        have rc := rc.below hb3 rc.lt
        have q0 := q0.below hb3 q0.lt
        have qz := qz.below hb3 qz.lt
        have o1 := ownsI_below o1 hb3
        have o3 := ownsR_mono (base' := w.heap.size) o3 hB.size
        have hbW : w.heap.size ≤ b := by omega
        have hB := hB.trans (hb3.mono hB.size)
        clear hb3
        clear HLo2
        have t0 : w3.cell? ⟨b, 0, none⟩ = some (.slice (some ⟨g1, 0, none⟩) is.length k1) := rc.cell 0
        have t1 : w3.cell? ⟨b, 1, none⟩ = some (.slice q2 rs.length k2) := rc.cell 1
        have t2 : w3.cell? ⟨b, 2, none⟩ = some (.int .i64 now) := rc.cell 2
        have tf : w3.frozen? ⟨b, 1, none⟩ = false := rc.frozen 1
        have nb : ¬ b = w.heap.size + 1 := fun e => hLb.1 e.symm
        have nb' : ¬ w.heap.size + 1 = b := hLb.1
        have f0 : w3.frozen? ⟨w.heap.size + 1, 0, none⟩ = false := qz.frozen 0
        have f1 : w3.frozen? ⟨w.heap.size + 1, 1, none⟩ = false := qz.frozen 1
        have f2 : w3.frozen? ⟨w.heap.size + 1, 2, none⟩ = false := qz.frozen 2
        have f3 : w3.frozen? ⟨w.heap.size + 1, 3, none⟩ = false := qz.frozen 3
        have z0 : w3.cell? ⟨w.heap.size + 1, 0, none⟩ = some (.slice none 0 0) := qz.cell 0
        have z1 : w3.cell? ⟨w.heap.size + 1, 1, none⟩ = some (.slice none 0 0) := qz.cell 1
        have z2 : w3.cell? ⟨w.heap.size + 1, 2, none⟩ = some (.int .i64 0) := qz.cell 2
        have z3 : w3.cell? ⟨w.heap.size + 1, 3, none⟩ = some (.int .i64 0) := qz.cell 3
        have hk4 : ∀ g t l, g ≠ b → Row w3 g t l → Row (w3.setCell ⟨b, 1, none⟩ (.slice q qs.length c)) g t l := fun g t l hne h => h.other 1 _ hne
        have qz4 := hk4 _ _ _ hLb.1 qz
        have o14 := ownsI_kept o1 (fun g t l e h => hk4 g t l (fun e2 => ownsI_ne o1 rc (by decide) (by rw [e, e2])) h)
        have o34 := ownsR_kept rfl o3 (fun g t l e h => hk4 g t l (fun e2 => ownsR_ne o3 rc (by decide) (by rw [e, e2])) h)
        have hB4 := hB.setCell (p := ⟨b, 1, none⟩) (by show w.heap.size ≤ b; omega) (.slice q qs.length c)
        have HE : Hid _ := out4 (p := (some ⟨g1, 0, none⟩)) (q := q) (now := now) (cc := 0) qz4 rfl (show w.heap.size ≤ w.heap.size + 1 by omega) hB4 o14 o34 rfl _ rfl
        clear qz qz4 o1 o3 o14 o34 hB hB4 hk4 rc q0
        go_wp2_with fail
        generalize (((((w3.setCell ⟨b, 1, none⟩ (.slice q qs.length c))).setCell ⟨w.heap.size + 1, 0, none⟩ (.slice (some ⟨g1, 0, none⟩) is.length k1)).setCell ⟨w.heap.size + 1, 1, none⟩ (.slice q qs.length c)).setCell ⟨w.heap.size + 1, 2, none⟩ (.int .i64 now)).setCell ⟨w.heap.size + 1, 3, none⟩ (.int .i64 0) = Z at *
        obtain ⟨m1, m2, m3, m4⟩ := HE.out
        clear HE f0 f1 f2 f3 z0 z1 z2 z3 t0 t1 t2 tf nb nb'
        have e0 : Z.cell? ⟨w.heap.size + 1, 0, none⟩ = some (.slice (some ⟨g1, 0, none⟩) is.length k1) := m1.cell 0
        have e1 : Z.cell? ⟨w.heap.size + 1, 1, none⟩ = some (.slice q qs.length c) := m1.cell 1
        have e2 : Z.cell? ⟨w.heap.size + 1, 2, none⟩ = some (.int .i64 now) := m1.cell 2
        have e3 : Z.cell? ⟨w.heap.size + 1, 3, none⟩ = some (.int .i64 0) := m1.cell 3
        exact bodyPost_ret (v := .agg #[.slice (some ⟨g1, 0, none⟩) is.length k1, .slice q qs.length c, .int .i64 now, .int .i64 0]) (by simp [results, Tryz.results86, go_sem, e0, e1, e2, e3]) rfl ⟨by rw [hR]; exact outI_of (setU_length is k false) rfl m3 m4, m2⟩
end Go.Proofs.YtcnadobnihbldaaGreat
/- Up of the model. (Written by gen_insts.py.) -/
namespace Go.Proofs.YtcnadobnihbldaaGreat
open Go.RowKit Go.Sort

theorem ifsB_three {is : List If} (h : ifsB is = true) : is.length ≤ 3 := by
  unfold ifsB at h
  simp only [Bool.and_eq_true, decide_eq_true_eq] at h
  exact h.1
theorem outI_of2 {base n m d1 d2 : Nat} {cc now : Int} {is : List If} {rs : List Rt} {e : Ending} {w : World} {p q : Option Addr} (hn : is.length = n) (hm : m = rs.length) (he : e = .returned (.agg #[.slice p n d1, .slice q m d2, .int .i64 now, .int .i64 cc])) (oi : w.ownsRow base 53 5 (.slice p n d1) n (rowI is)) (orr : w.ownsRow base 155 9 (.slice q m d2) m (rowR rs)) : OutI base (cc, is, rs, now) e w := by
  subst hn hm
  exact ⟨p, d1, q, d2, he, oi, orr⟩
theorem stab_outU (B M : Nat) (cc : Int) (qs : List Rt) : ∀ (x : Value) (w1 w2 : World), (∃ q c, x = .agg #[.slice q M c, .int .i64 cc] ∧ w1.ownsRow B 155 9 (.slice q M c) M (rowR qs)) → Below w1.heap.size w1 w2 → ∃ q c, x = .agg #[.slice q M c, .int .i64 cc] ∧ w2.ownsRow B 155 9 (.slice q M c) M (rowR qs) := by
  rintro x w1 w2 ⟨q, c, e, h⟩ hb
  exact ⟨q, c, e, ownsR_below h hb⟩
theorem stab_newU (B : Nat) (t : TypeId) (l : List Value) : ∀ (x : Value) (w1 w2 : World), (∃ g, x = .pointer (some ⟨g, 0, none⟩) ∧ B ≤ g ∧ Row w1 g t l) → Below w1.heap.size w1 w2 → ∃ g, x = .pointer (some ⟨g, 0, none⟩) ∧ B ≤ g ∧ Row w2 g t l := by
  rintro x w1 w2 ⟨g, e, hg, h⟩ hb
  exact ⟨g, e, hg, h.below hb h.lt⟩
set_option maxRecDepth 100000 in
set_option maxHeartbeats 2000000 in
theorem specUp_any (x : Option Addr) (c1 : Nat) (y : Option Addr) (c2 : Nat) (is : List If) (rs : List Rt) (now : Int) (i : Int) (w : World) (h1 : IfsIn w x is) (hc : is.length ≤ c1) (hc1 : x = none → c1 = 0) (h2 : RtsIn w y rs) (hc2 : y = none → c2 = 0) (hl2 : rs.length ≤ c2) (hn1 : is.length ≤ 100000000) (hn2 : rs.length ≤ 100000000) :
    Calls Tryz.prog 87 #[instV x is.length c1 y rs.length c2 now, .int .i64 i] w fun e w' => OutI w.heap.size (upO is rs now i) e w' ∧ Below w.heap.size w w' := by
  have HX : Hid (IfsIn w x is ∧ RtsIn w y rs) := ⟨h1, h2⟩
  have HIl : Hid (∀ c w, Calls Tryz.prog 54 #[.int .i64 c] w fun e w' => e = .returned (.agg #[.slice none 0 0, .slice none 0 0, .int .i64 0, .int .i64 c]) ∧ Below w.heap.size w w') := l07Ill_any
  have HC : Hid (∀ w, IfsIn w x is → RtsIn w y rs → Calls Tryz.prog 69 #[instV x is.length c1 y rs.length c2 now] w fun e w' => ∃ q1 k1 q2 k2, e = .returned (.agg #[.slice q1 is.length k1, .slice q2 rs.length k2, .int .i64 now]) ∧ w'.ownsRow w.heap.size 53 5 (.slice q1 is.length k1) is.length (rowI is) ∧ w'.ownsRow w.heap.size 155 9 (.slice q2 rs.length k2) rs.length (rowR rs) ∧ Below w.heap.size w w') := fun w p q => l07Copy_any x _ c1 y _ c2 is rs now w rfl rfl p hc1 q hc2 hl2 hn1 hn2
  have HBg : Hid (∀ w, IfsIn w x is → RtsIn w y rs → Calls Tryz.prog 129 #[instV x is.length c1 y rs.length c2 now, .int .i64 i, .bool true] w fun e w' => e = .returned (.int .i64 (beginC is rs now i true)) ∧ Below w.heap.size w w') := fun w p q => l07Begin_any x c1 y c2 is rs now i true w p hc q hn1 hn2
  have HCC : Hid (beginC is rs now i true = if instB is rs now = true then (match ifAt is i with | none => (6 : Int) | some f => if f.u = true then (10 : Int) else 0) else 1) := rfl
  generalize beginC is rs now i true = CC at *
  have HO : Hid (instB is rs now = true → ∀ k (hk : k < is.length) w, RtsIn w y rs → Calls Tryz.prog 56 #[.agg #[.slice y rs.length c2], .agg #[.int .i64 is[k].a, .int .i64 is[k].l], .int .i64 k] w fun e w' => OutR w.heap.size (ownO rs is[k].a is[k].l k).1 (ownO rs is[k].a is[k].l k).2 e w' ∧ Below w.heap.size w w') := fun hI k hk w h => by
    obtain ⟨b1, b2, b3⟩ := instB_ifs hI
    have hr := ifsB_right b1 k hk
    have h3 := ifsB_three b1
    have hif : inIf (k : Int) = true := by unfold inIf; simp only [decide_eq_true_eq]; omega
    have := l06Own_any y c2 rs is[k].a is[k].l k w h hc2 hl2 b2
    unfold ownO
    rw [b2, hr, hif]
    simp only [Bool.and_self, if_true]
    by_cases h8 : (insR rs (ownRt is[k].a is[k].l k)).length ≤ 8
    · rw [if_pos h8, if_pos h8] at this
      rw [if_pos h8]
      exact this
    · rw [if_neg h8, if_neg h8] at this
      rw [if_neg h8]
      exact this
  have HD : Hid (upO is rs now i = if instB is rs now = true then (match ifAt is i with | none => ((6 : Int), [], [], (0 : Int)) | some f => if f.u = false then outW (ownO rs f.a f.l i).1 (setU is i.toNat true) (ownO rs f.a f.l i).2 now else ((10 : Int), [], [], (0 : Int))) else (1, [], [], 0)) := rfl
  clear h1 h2 hc hc1 hc2 hl2
  generalize upO is rs now i = RES at *
  generalize instB is rs now = IB at *
  unfold instV at *
  obtain ⟨W, hW, q0, qz, hB, hS⟩ := rows2 w [.slice x is.length c1, .slice y rs.length c2, .int .i64 now] [.slice none 0 0, .slice none 0 0, .int .i64 0, .int .i64 0] 61 63
  have HW : Hid _ := hW
  have x0 : W.cell? ⟨w.heap.size, 0, none⟩ = some (.slice x is.length c1) := q0.cell 0
  have x1 : W.cell? ⟨w.heap.size, 1, none⟩ = some (.slice y rs.length c2) := q0.cell 1
  have x2 : W.cell? ⟨w.heap.size, 2, none⟩ = some (.int .i64 now) := q0.cell 2
  have HQ : Hid _ := And.intro q0 (And.intro qz hB)
  clear q0 qz hB hS
  go_enter Tryz.func87, Tryz.ntmps87
  rw [hW] at x0 x1 x2
  clear hW
  go_wp2_with fail
  rw [← HW.out]
  obtain ⟨q0, qz, hB⟩ := HQ.out
  clear x0 x1 x2 HW
  refine (HBg.out _ (HX.out.1.below hB) (HX.out.2.below hB)).mono ?_
  rintro e w1 ⟨rfl, hb1⟩
  have q0 := q0.below hb1 q0.lt
  have qz := qz.below hb1 qz.lt
  have hB := hB.trans (hb1.mono hB.size)
  clear hb1 HBg HQ
  clear hn1 hn2
  have hR := HD.out
  have hc := HCC.out
  clear HD HCC
  cases IB
  · simp only [Bool.false_eq_true, if_false] at hR hc
    subst hc
    clear HX q0 HC HO
    go_wp2_with fail
    refine (HIl.out 1 _).mono ?_
    rintro e w9 ⟨rfl, hb9⟩
    have qz := qz.below hb9 qz.lt
    have hB := hB.trans (hb9.mono hB.size)
    clear hb9 HIl
    have f0 : w9.frozen? ⟨w.heap.size + 1, 0, none⟩ = false := qz.frozen 0
    have f1 : w9.frozen? ⟨w.heap.size + 1, 1, none⟩ = false := qz.frozen 1
    have f2 : w9.frozen? ⟨w.heap.size + 1, 2, none⟩ = false := qz.frozen 2
    have f3 : w9.frozen? ⟨w.heap.size + 1, 3, none⟩ = false := qz.frozen 3
    have z0 : w9.cell? ⟨w.heap.size + 1, 0, none⟩ = some (.slice none 0 0) := qz.cell 0
    have z1 : w9.cell? ⟨w.heap.size + 1, 1, none⟩ = some (.slice none 0 0) := qz.cell 1
    have z2 : w9.cell? ⟨w.heap.size + 1, 2, none⟩ = some (.int .i64 0) := qz.cell 2
    have z3 : w9.cell? ⟨w.heap.size + 1, 3, none⟩ = some (.int .i64 0) := qz.cell 3
    have HE : Hid _ := out4 (p := none) (q := none) (now := 0) (cc := 1) qz rfl (show w.heap.size ≤ w.heap.size + 1 by omega) hB (ownsI_nil w9 w.heap.size) (ownsR_nil w9 w.heap.size) rfl _ rfl
    clear qz hB 
    go_wp2_with fail
    generalize (((w9.setCell ⟨w.heap.size + 1, 0, none⟩ (.slice none 0 0)).setCell ⟨w.heap.size + 1, 1, none⟩ (.slice none 0 0)).setCell ⟨w.heap.size + 1, 2, none⟩ (.int .i64 0)).setCell ⟨w.heap.size + 1, 3, none⟩ (.int .i64 1) = Z at *
    obtain ⟨k1, k2, k3, k4⟩ := HE.out
    clear HE f0 f1 f2 f3 z0 z1 z2 z3
    have e0 : Z.cell? ⟨w.heap.size + 1, 0, none⟩ = some (.slice none 0 0) := k1.cell 0
    have e1 : Z.cell? ⟨w.heap.size + 1, 1, none⟩ = some (.slice none 0 0) := k1.cell 1
    have e2 : Z.cell? ⟨w.heap.size + 1, 2, none⟩ = some (.int .i64 0) := k1.cell 2
    have e3 : Z.cell? ⟨w.heap.size + 1, 3, none⟩ = some (.int .i64 1) := k1.cell 3
    exact bodyPost_ret (v := .agg #[.slice none 0 0, .slice none 0 0, .int .i64 0, .int .i64 1]) (by simp [results, Tryz.results87, go_sem, e0, e1, e2, e3]) rfl ⟨by rw [hR]; exact outI_no _ _ _, k2⟩
  · simp only [if_true] at hR hc
    cases hia : ifAt is i with
    | none =>
      rw [hia] at hc hR
      simp only at hc hR
      clear hia
      subst hc
      clear HX q0 HC HO
      go_wp2_with fail
      refine (HIl.out 6 _).mono ?_
      rintro e w9 ⟨rfl, hb9⟩
      have qz := qz.below hb9 qz.lt
      have hB := hB.trans (hb9.mono hB.size)
      clear hb9 HIl
      have f0 : w9.frozen? ⟨w.heap.size + 1, 0, none⟩ = false := qz.frozen 0
      have f1 : w9.frozen? ⟨w.heap.size + 1, 1, none⟩ = false := qz.frozen 1
      have f2 : w9.frozen? ⟨w.heap.size + 1, 2, none⟩ = false := qz.frozen 2
      have f3 : w9.frozen? ⟨w.heap.size + 1, 3, none⟩ = false := qz.frozen 3
      have z0 : w9.cell? ⟨w.heap.size + 1, 0, none⟩ = some (.slice none 0 0) := qz.cell 0
      have z1 : w9.cell? ⟨w.heap.size + 1, 1, none⟩ = some (.slice none 0 0) := qz.cell 1
      have z2 : w9.cell? ⟨w.heap.size + 1, 2, none⟩ = some (.int .i64 0) := qz.cell 2
      have z3 : w9.cell? ⟨w.heap.size + 1, 3, none⟩ = some (.int .i64 0) := qz.cell 3
      have HE : Hid _ := out4 (p := none) (q := none) (now := 0) (cc := 6) qz rfl (show w.heap.size ≤ w.heap.size + 1 by omega) hB (ownsI_nil w9 w.heap.size) (ownsR_nil w9 w.heap.size) rfl _ rfl
      clear qz hB 
      go_wp2_with fail
      generalize (((w9.setCell ⟨w.heap.size + 1, 0, none⟩ (.slice none 0 0)).setCell ⟨w.heap.size + 1, 1, none⟩ (.slice none 0 0)).setCell ⟨w.heap.size + 1, 2, none⟩ (.int .i64 0)).setCell ⟨w.heap.size + 1, 3, none⟩ (.int .i64 6) = Z at *
      obtain ⟨k1, k2, k3, k4⟩ := HE.out
      clear HE f0 f1 f2 f3 z0 z1 z2 z3
      have e0 : Z.cell? ⟨w.heap.size + 1, 0, none⟩ = some (.slice none 0 0) := k1.cell 0
      have e1 : Z.cell? ⟨w.heap.size + 1, 1, none⟩ = some (.slice none 0 0) := k1.cell 1
      have e2 : Z.cell? ⟨w.heap.size + 1, 2, none⟩ = some (.int .i64 0) := k1.cell 2
      have e3 : Z.cell? ⟨w.heap.size + 1, 3, none⟩ = some (.int .i64 6) := k1.cell 3
      exact bodyPost_ret (v := .agg #[.slice none 0 0, .slice none 0 0, .int .i64 0, .int .i64 6]) (by simp [results, Tryz.results87, go_sem, e0, e1, e2, e3]) rfl ⟨by rw [hR]; exact outI_no _ _ _, k2⟩
    | some f =>
      rw [hia] at hc hR
      simp only at hc hR
      by_cases hu : f.u = true
      · rw [if_pos hu] at hc
        rw [if_neg (by rw [hu]; decide)] at hR
        clear hia hu
        subst hc
        clear HX q0 HC HO
        go_wp2_with fail
        refine (HIl.out 10 _).mono ?_
        rintro e w9 ⟨rfl, hb9⟩
        have qz := qz.below hb9 qz.lt
        have hB := hB.trans (hb9.mono hB.size)
        clear hb9 HIl
        have f0 : w9.frozen? ⟨w.heap.size + 1, 0, none⟩ = false := qz.frozen 0
        have f1 : w9.frozen? ⟨w.heap.size + 1, 1, none⟩ = false := qz.frozen 1
        have f2 : w9.frozen? ⟨w.heap.size + 1, 2, none⟩ = false := qz.frozen 2
        have f3 : w9.frozen? ⟨w.heap.size + 1, 3, none⟩ = false := qz.frozen 3
        have z0 : w9.cell? ⟨w.heap.size + 1, 0, none⟩ = some (.slice none 0 0) := qz.cell 0
        have z1 : w9.cell? ⟨w.heap.size + 1, 1, none⟩ = some (.slice none 0 0) := qz.cell 1
        have z2 : w9.cell? ⟨w.heap.size + 1, 2, none⟩ = some (.int .i64 0) := qz.cell 2
        have z3 : w9.cell? ⟨w.heap.size + 1, 3, none⟩ = some (.int .i64 0) := qz.cell 3
        have HE : Hid _ := out4 (p := none) (q := none) (now := 0) (cc := 10) qz rfl (show w.heap.size ≤ w.heap.size + 1 by omega) hB (ownsI_nil w9 w.heap.size) (ownsR_nil w9 w.heap.size) rfl _ rfl
        clear qz hB 
        go_wp2_with fail
        generalize (((w9.setCell ⟨w.heap.size + 1, 0, none⟩ (.slice none 0 0)).setCell ⟨w.heap.size + 1, 1, none⟩ (.slice none 0 0)).setCell ⟨w.heap.size + 1, 2, none⟩ (.int .i64 0)).setCell ⟨w.heap.size + 1, 3, none⟩ (.int .i64 10) = Z at *
        obtain ⟨k1, k2, k3, k4⟩ := HE.out
        clear HE f0 f1 f2 f3 z0 z1 z2 z3
        have e0 : Z.cell? ⟨w.heap.size + 1, 0, none⟩ = some (.slice none 0 0) := k1.cell 0
        have e1 : Z.cell? ⟨w.heap.size + 1, 1, none⟩ = some (.slice none 0 0) := k1.cell 1
        have e2 : Z.cell? ⟨w.heap.size + 1, 2, none⟩ = some (.int .i64 0) := k1.cell 2
        have e3 : Z.cell? ⟨w.heap.size + 1, 3, none⟩ = some (.int .i64 10) := k1.cell 3
        exact bodyPost_ret (v := .agg #[.slice none 0 0, .slice none 0 0, .int .i64 0, .int .i64 10]) (by simp [results, Tryz.results87, go_sem, e0, e1, e2, e3]) rfl ⟨by rw [hR]; exact outI_no _ _ _, k2⟩
      · rw [if_neg hu] at hc
        rw [if_pos (by cases h : f.u <;> simp_all)] at hR
        subst hc
        obtain ⟨k, rfl, hk, he⟩ := ifAt_some hia
        simp only [Int.toNat_natCast] at hR
        clear hia hu
        have HOk : Hid (∀ w, RtsIn w y rs → Calls Tryz.prog 56 #[.agg #[.slice y rs.length c2], .agg #[.int .i64 f.a, .int .i64 f.l], .int .i64 k] w fun e w' => OutR w.heap.size (ownO rs f.a f.l k).1 (ownO rs f.a f.l k).2 e w' ∧ Below w.heap.size w w') := fun w h => by
          have := HO.out rfl k hk w h
          rw [he] at this
          exact this
        clear HO
        obtain ⟨b0, d, a, l, c, u, rfl, hbl, hek, e0, e1, e2, e3, e4⟩ := (HX.out.1.below hB).at k hk
        rw [he] at hek
        subst hek
        simp only at HOk hR
        generalize ownO rs a l k = RO at *
        obtain ⟨cc, qs⟩ := RO
        unfold OutR at HOk
        simp only at HOk hR
        generalize hMM : qs.length = M at *
        have hM : Hid (M = qs.length) := hMM.symm
        clear hMM he e0 e3 e4
        have zk : (k : Int) < (is.length : Int) := by omega
        go_wp2_with fail
        have hGN : (([(15, Is (.pointer (some ⟨w.heap.size, 1, none⟩))), (16, Is (.agg #[.slice y rs.length c2])), (17, Is (.pointer (some ⟨w.heap.size, 0, none⟩))), (18, Is (.slice (some ⟨b0, 0, none⟩) is.length c1)), (19, Is (.int .i64 (k : Int))), (20, Is (.pointer (some ⟨b0, k * 5, none⟩))), (21, Is (.pointer (some ⟨b0, k * 5 + 1, none⟩))), (22, Is (.agg #[.int .i64 a, .int .i64 l])), (23, Is (.int .i64 (k : Int))), (24, fun v W => ∃ q c, v = .agg #[.slice q M c, .int .i64 cc] ∧ W.ownsRow w.heap.size 155 9 (.slice q M c) M (rowR qs)), (6, fun v W => ∃ g, v = .pointer (some ⟨g, 0, none⟩) ∧ w1.heap.size ≤ g ∧ Row W g 94 [.slice none 0 0, .int .i64 0])] : List (Nat × (Value → World → Prop))).map (·.1)).Nodup := by simp
        refine wp_region_steady 11 (SlotG [(15, Is (.pointer (some ⟨w.heap.size, 1, none⟩))), (16, Is (.agg #[.slice y rs.length c2])), (17, Is (.pointer (some ⟨w.heap.size, 0, none⟩))), (18, Is (.slice (some ⟨b0, 0, none⟩) is.length c1)), (19, Is (.int .i64 (k : Int))), (20, Is (.pointer (some ⟨b0, k * 5, none⟩))), (21, Is (.pointer (some ⟨b0, k * 5 + 1, none⟩))), (22, Is (.agg #[.int .i64 a, .int .i64 l])), (23, Is (.int .i64 (k : Int))), (24, fun v W => ∃ q c, v = .agg #[.slice q M c, .int .i64 cc] ∧ W.ownsRow w.heap.size 155 9 (.slice q M c) M (rowR qs)), (6, fun v W => ∃ g, v = .pointer (some ⟨g, 0, none⟩) ∧ w1.heap.size ≤ g ∧ Row W g 94 [.slice none 0 0, .int .i64 0])]) (by kernel_rfl) (by kernel_rfl) (Stabs.all ⟨stab_is _, stab_is _, stab_is _, stab_is _, stab_is _, stab_is _, stab_is _, stab_is _, stab_is _, stab_outU w.heap.size M cc qs, stab_newU w1.heap.size 94 [.slice none 0 0, .int .i64 0], trivial⟩) ?_ ?_
        · intro o ho
          simp only [List.take_succ_cons, List.take_zero, List.mem_cons, List.not_mem_nil, or_false] at ho
          rcases ho with rfl | rfl | rfl | rfl | rfl | rfl | rfl | rfl | rfl | rfl | rfl
          · intro a' w' hb ha hdep
            have d2 : a'.tmps.getD 2 undef = .pointer (some ⟨w.heap.size, 0, none⟩) := ha.at 2 (by kernel_rfl)
            have hmk := fun (x : Value) (W : World) => SlotG.mk (x := x) (w := W) 0 rfl hGN
            clear hGN ha hdep
            go_simp
            exact ⟨_, rfl, Below.refl _ _, hmk _ _ rfl⟩
          · intro a' w' hb ha hdep
            have d15 : a'.tmps.getD 15 undef = .pointer (some ⟨w.heap.size, 1, none⟩) := (hdep 15 (of_decide_eq_true (by kernel_rfl))).is 0 rfl
            have hmk := fun (x : Value) (W : World) => SlotG.mk (x := x) (w := W) 1 rfl hGN
            clear hGN ha hdep
            have y1 : w'.cell? ⟨w.heap.size, 1, none⟩ = some (.slice y rs.length c2) := (q0.below hb q0.lt).cell 1
            go_simp
            exact ⟨_, rfl, Below.refl _ _, hmk _ _ rfl⟩
          · intro a' w' hb ha hdep
            have d2 : a'.tmps.getD 2 undef = .pointer (some ⟨w.heap.size, 0, none⟩) := ha.at 2 (by kernel_rfl)
            have hmk := fun (x : Value) (W : World) => SlotG.mk (x := x) (w := W) 2 rfl hGN
            clear hGN ha hdep
            go_simp
            exact ⟨_, rfl, Below.refl _ _, hmk _ _ rfl⟩
          · intro a' w' hb ha hdep
            have d17 : a'.tmps.getD 17 undef = .pointer (some ⟨w.heap.size, 0, none⟩) := (hdep 17 (of_decide_eq_true (by kernel_rfl))).is 2 rfl
            have hmk := fun (x : Value) (W : World) => SlotG.mk (x := x) (w := W) 3 rfl hGN
            clear hGN ha hdep
            have y0 : w'.cell? ⟨w.heap.size, 0, none⟩ = some (.slice (some ⟨b0, 0, none⟩) is.length c1) := (q0.below hb q0.lt).cell 0
            go_simp
            exact ⟨_, rfl, Below.refl _ _, hmk _ _ rfl⟩
          · intro a' w' hb ha hdep
            have d1 : a'.tmps.getD 1 undef = .int .i64 (k : Int) := ha.at 1 (by kernel_rfl)
            have hmk := fun (x : Value) (W : World) => SlotG.mk (x := x) (w := W) 4 rfl hGN
            clear hGN ha hdep
            go_simp
            exact ⟨_, rfl, Below.refl _ _, hmk _ _ rfl⟩
          · intro a' w' hb ha hdep
            have d18 : a'.tmps.getD 18 undef = .slice (some ⟨b0, 0, none⟩) is.length c1 := (hdep 18 (of_decide_eq_true (by kernel_rfl))).is 3 rfl
            have d19 : a'.tmps.getD 19 undef = .int .i64 (k : Int) := (hdep 19 (of_decide_eq_true (by kernel_rfl))).is 4 rfl
            have hmk := fun (x : Value) (W : World) => SlotG.mk (x := x) (w := W) 5 rfl hGN
            clear hGN ha hdep
            go_simp
            exact ⟨_, rfl, Below.refl _ _, hmk _ _ rfl⟩
          · intro a' w' hb ha hdep
            have d20 : a'.tmps.getD 20 undef = .pointer (some ⟨b0, k * 5, none⟩) := (hdep 20 (of_decide_eq_true (by kernel_rfl))).is 5 rfl
            have hmk := fun (x : Value) (W : World) => SlotG.mk (x := x) (w := W) 6 rfl hGN
            clear hGN ha hdep
            go_simp
            exact ⟨_, rfl, Below.refl _ _, hmk _ _ rfl⟩
          · intro a' w' hb ha hdep
            have d21 : a'.tmps.getD 21 undef = .pointer (some ⟨b0, k * 5 + 1, none⟩) := (hdep 21 (of_decide_eq_true (by kernel_rfl))).is 6 rfl
            have hmk := fun (x : Value) (W : World) => SlotG.mk (x := x) (w := W) 7 rfl hGN
            clear hGN ha hdep
            have x1 : w'.cell? ⟨b0, k * 5 + 1, none⟩ = some (.int .i64 a) := by rw [hb.cell (p := ⟨b0, k * 5 + 1, none⟩) hbl]; exact e1
            have x2 : w'.cell? ⟨b0, k * 5 + 2, none⟩ = some (.int .i64 l) := by rw [hb.cell (p := ⟨b0, k * 5 + 2, none⟩) hbl]; exact e2
            go_simp
            exact ⟨_, rfl, Below.refl _ _, hmk _ _ rfl⟩
          · intro a' w' hb ha hdep
            have d1 : a'.tmps.getD 1 undef = .int .i64 (k : Int) := ha.at 1 (by kernel_rfl)
            have hmk := fun (x : Value) (W : World) => SlotG.mk (x := x) (w := W) 8 rfl hGN
            clear hGN ha hdep
            go_simp
            exact ⟨_, rfl, Below.refl _ _, hmk _ _ rfl⟩
          · intro a' w' hb ha hdep
            have d16 : a'.tmps.getD 16 undef = .agg #[.slice y rs.length c2] := (hdep 16 (of_decide_eq_true (by kernel_rfl))).is 1 rfl
            have d22 : a'.tmps.getD 22 undef = .agg #[.int .i64 a, .int .i64 l] := (hdep 22 (of_decide_eq_true (by kernel_rfl))).is 7 rfl
            have d23 : a'.tmps.getD 23 undef = .int .i64 (k : Int) := (hdep 23 (of_decide_eq_true (by kernel_rfl))).is 8 rfl
            have hmk := fun (x : Value) (W : World) => SlotG.mk (x := x) (w := W) 9 rfl hGN
            clear hGN ha hdep
            go_simp
            refine (HOk.out _ (HX.out.2.below (hB.trans (hb.mono hB.size)))).mono ?_
            rintro e w2 ⟨⟨q, c, rfl, ho⟩, hb2⟩
            exact ⟨_, rfl, hb2, hmk _ _ ⟨q, c, rfl, ownsR_mono ho (by have := hb.size; have := hB.size; omega)⟩⟩
          · intro a' w' hb ha hdep
            have hmk := fun (x : Value) (W : World) => SlotG.mk (x := x) (w := W) 10 rfl hGN
            clear hGN ha hdep
            go_simp
            exact ⟨_, rfl, ent_new0 _ _, hmk _ _ ⟨w'.heap.size, rfl, hb.size, Row.new w' 94 [.slice none 0 0, .int .i64 0]⟩⟩
        · intro a' w' hb ha hG
          clear hGN
          have D24 := (hG _ (List.mem_of_getElem? (i := 9) rfl) 24 rfl).get 9 rfl
          have D6 := (hG _ (List.mem_of_getElem? (i := 10) rfl) 6 rfl).get 10 rfl
          have d1 : a'.tmps.getD 1 undef = .int .i64 (k : Int) := ha.at 1 (by kernel_rfl)
          have d2 : a'.tmps.getD 2 undef = .pointer (some ⟨w.heap.size, 0, none⟩) := ha.at 2 (by kernel_rfl)
          have d4 : a'.tmps.getD 4 undef = .pointer (some ⟨w.heap.size + 1, 0, none⟩) := ha.at 4 (by kernel_rfl)
          have e2 : a' = ⟨#[a'.tmps.getD 0 undef, a'.tmps.getD 1 undef, a'.tmps.getD 2 undef, a'.tmps.getD 3 undef, a'.tmps.getD 4 undef, a'.tmps.getD 5 undef, a'.tmps.getD 6 undef, a'.tmps.getD 7 undef, a'.tmps.getD 8 undef, a'.tmps.getD 9 undef, a'.tmps.getD 10 undef, a'.tmps.getD 11 undef, a'.tmps.getD 12 undef, a'.tmps.getD 13 undef, a'.tmps.getD 14 undef, a'.tmps.getD 15 undef, a'.tmps.getD 16 undef, a'.tmps.getD 17 undef, a'.tmps.getD 18 undef, a'.tmps.getD 19 undef, a'.tmps.getD 20 undef, a'.tmps.getD 21 undef, a'.tmps.getD 22 undef, a'.tmps.getD 23 undef, a'.tmps.getD 24 undef, a'.tmps.getD 25 undef, a'.tmps.getD 26 undef, a'.tmps.getD 27 undef, a'.tmps.getD 28 undef, a'.tmps.getD 29 undef, a'.tmps.getD 30 undef, a'.tmps.getD 31 undef, a'.tmps.getD 32 undef, a'.tmps.getD 33 undef, a'.tmps.getD 34 undef, a'.tmps.getD 35 undef, a'.tmps.getD 36 undef, a'.tmps.getD 37 undef, a'.tmps.getD 38 undef, a'.tmps.getD 39 undef, a'.tmps.getD 40 undef, a'.tmps.getD 41 undef, a'.tmps.getD 42 undef], []⟩ := by rw [← (show a'.defers = [] from ha.2.1)]; exact act_eq a' 43 ha.1
          rw [d1, d2, d4] at e2
          clear hG ha d1 d2 d4
          generalize a'.tmps.getD 0 undef = x0 at *
          generalize a'.tmps.getD 3 undef = x3 at *
          generalize a'.tmps.getD 5 undef = x5 at *
          generalize a'.tmps.getD 6 undef = x6 at *
          generalize a'.tmps.getD 7 undef = x7 at *
          generalize a'.tmps.getD 8 undef = x8 at *
          generalize a'.tmps.getD 9 undef = x9 at *
          generalize a'.tmps.getD 10 undef = x10 at *
          generalize a'.tmps.getD 11 undef = x11 at *
          generalize a'.tmps.getD 12 undef = x12 at *
          generalize a'.tmps.getD 13 undef = x13 at *
          generalize a'.tmps.getD 14 undef = x14 at *
          generalize a'.tmps.getD 15 undef = x15 at *
          generalize a'.tmps.getD 16 undef = x16 at *
          generalize a'.tmps.getD 17 undef = x17 at *
          generalize a'.tmps.getD 18 undef = x18 at *
          generalize a'.tmps.getD 19 undef = x19 at *
          generalize a'.tmps.getD 20 undef = x20 at *
          generalize a'.tmps.getD 21 undef = x21 at *
          generalize a'.tmps.getD 22 undef = x22 at *
          generalize a'.tmps.getD 23 undef = x23 at *
          generalize a'.tmps.getD 24 undef = x24 at *
          generalize a'.tmps.getD 25 undef = x25 at *
          generalize a'.tmps.getD 26 undef = x26 at *
          generalize a'.tmps.getD 27 undef = x27 at *
          generalize a'.tmps.getD 28 undef = x28 at *
          generalize a'.tmps.getD 29 undef = x29 at *
          generalize a'.tmps.getD 30 undef = x30 at *
          generalize a'.tmps.getD 31 undef = x31 at *
          generalize a'.tmps.getD 32 undef = x32 at *
          generalize a'.tmps.getD 33 undef = x33 at *
          generalize a'.tmps.getD 34 undef = x34 at *
          generalize a'.tmps.getD 35 undef = x35 at *
          generalize a'.tmps.getD 36 undef = x36 at *
          generalize a'.tmps.getD 37 undef = x37 at *
          generalize a'.tmps.getD 38 undef = x38 at *
          generalize a'.tmps.getD 39 undef = x39 at *
          generalize a'.tmps.getD 40 undef = x40 at *
          generalize a'.tmps.getD 41 undef = x41 at *
          generalize a'.tmps.getD 42 undef = x42 at *
          subst e2
          simp only [List.drop_succ_cons, List.drop_zero]
          obtain ⟨q, c, rfl, o3⟩ := D24
          obtain ⟨g6, rfl, hg6, r6⟩ := D6
          have L1 := qz.lt
          have L0 := q0.lt
          have hBs := hB.size
          have q0 := q0.below hb q0.lt
          have qz := qz.below hb qz.lt
          have hB := hB.trans (hb.mono hB.size)
          clear hb HOk e1 e2 hbl
          have hk6 : ∀ b t l, b ≠ g6 → Row w' b t l → Row ((w'.setCell ⟨g6, 0, none⟩ (.slice q M c)).setCell ⟨g6, 1, none⟩ (.int .i64 cc)) b t l := fun b t l hne h => (h.other 0 _ hne).other 1 _ hne
          have f60 : w'.frozen? ⟨g6, 0, none⟩ = false := r6.frozen 0
          have f61 : w'.frozen? ⟨g6, 1, none⟩ = false := r6.frozen 1
          have z60 : w'.cell? ⟨g6, 0, none⟩ = some (.slice none 0 0) := r6.cell 0
          have z61 : w'.cell? ⟨g6, 1, none⟩ = some (.int .i64 0) := r6.cell 1
          have HE6 : Hid _ := And.intro ((r6.set 0 (.slice q M c)).set 1 (.int .i64 cc)) (And.intro (hk6 _ _ _ (show w.heap.size ≠ g6 by omega) q0) (And.intro (hk6 _ _ _ (show w.heap.size + 1 ≠ g6 by omega) qz) (And.intro (ownsR_kept hM.out o3 (fun b t l e h => hk6 b t l (fun e2 => ownsR_ne o3 r6 (by decide) (by rw [e, e2])) h)) ((hB.setCell (p := ⟨g6, 0, none⟩) (by show w.heap.size ≤ g6; omega) (.slice q M c)).setCell (p := ⟨g6, 1, none⟩) (by show w.heap.size ≤ g6; omega) (.int .i64 cc)))))
          have y61 : ((w'.setCell ⟨g6, 0, none⟩ (.slice q M c)).setCell ⟨g6, 1, none⟩ (.int .i64 cc)).cell? ⟨g6, 1, none⟩ = some (.int .i64 cc) := ((r6.set 0 (.slice q M c)).set 1 (.int .i64 cc)).cell 1
          clear r6 q0 qz o3 hB hk6
          by_cases hcc : cc = 0
          · subst hcc
            unfold outW at hR
            rw [if_pos rfl] at hR
            clear HIl
            have y0 : ((w'.setCell ⟨g6, 0, none⟩ (.slice q M c)).setCell ⟨g6, 1, none⟩ (.int .i64 0)).cell? ⟨w.heap.size, 0, none⟩ = some (.slice (some ⟨b0, 0, none⟩) is.length c1) := HE6.out.2.1.cell 0
            have y1 : ((w'.setCell ⟨g6, 0, none⟩ (.slice q M c)).setCell ⟨g6, 1, none⟩ (.int .i64 0)).cell? ⟨w.heap.size, 1, none⟩ = some (.slice y rs.length c2) := HE6.out.2.1.cell 1
            have y2 : ((w'.setCell ⟨g6, 0, none⟩ (.slice q M c)).setCell ⟨g6, 1, none⟩ (.int .i64 0)).cell? ⟨w.heap.size, 2, none⟩ = some (.int .i64 now) := HE6.out.2.1.cell 2
            go_wp2_with fail
            generalize ((w'.setCell ⟨g6, 0, none⟩ (.slice q M c)).setCell ⟨g6, 1, none⟩ (.int .i64 0)) = W6 at *
            obtain ⟨r6, q0, qz, o3, hB⟩ := HE6.out
            clear HE6 f60 f61 z60 z61
            refine (HC.out _ (HX.out.1.below hB) (HX.out.2.below hB)).mono ?_
            rintro e w2 ⟨q1, k1, q2, k2, rfl, o1, -, hb2⟩
            have L1 := qz.lt
            have L0 := q0.lt
            have hBs := hB.size
            have q0 := q0.below hb2 q0.lt
            have qz := qz.below hb2 qz.lt
            have r6 := r6.below hb2 r6.lt
            have o3 := ownsR_below o3 hb2
            have hB := hB.trans (hb2.mono hB.size)
            have o1 := ownsI_mono (base' := w.heap.size) o1 (by omega)
            have hL1 : w.heap.size + 1 < w2.heap.size := by have := qz.lt; omega
            clear hb2 HC y0 y1 y2 y61
            obtain ⟨g1, rfl, hg1, ⟨u1, x1⟩, x2, hg1l, hgt⟩ := ownsI_at o1 k hk
            have xa : (w2.alloc (.cells #[.slice (some ⟨g1, 0, none⟩) is.length k1, .slice q2 rs.length k2, .int .i64 now] 61)).cell? ⟨g1, k * 5 + 4, none⟩ = some u1 := by rw [(ent_new0 w2 (.cells #[.slice (some ⟨g1, 0, none⟩) is.length k1, .slice q2 rs.length k2, .int .i64 now] 61)).cell (p := ⟨g1, k * 5 + 4, none⟩) hg1l]; exact x1
            have xf : (w2.alloc (.cells #[.slice (some ⟨g1, 0, none⟩) is.length k1, .slice q2 rs.length k2, .int .i64 now] 61)).frozen? ⟨g1, k * 5 + 4, none⟩ = false := by rw [(ent_new0 w2 (.cells #[.slice (some ⟨g1, 0, none⟩) is.length k1, .slice q2 rs.length k2, .int .i64 now] 61)).frozen (p := ⟨g1, k * 5 + 4, none⟩) hg1l]; exact x2
            clear x1 x2
            have zk : (k : Int) < (is.length : Int) := by omega
            have n1 : ¬ w.heap.size + 1 = g1 := fun e => by have := hgt _ _ (e ▸ qz); exact absurd this (by decide)
            have n6 : ¬ g6 = g1 := fun e => by have := hgt _ _ (e ▸ r6); exact absurd this (by decide)
            have n1' : ¬ g1 = w.heap.size + 1 := fun e => n1 e.symm
            have n6' : ¬ g1 = g6 := fun e => n6 e.symm
            have L6 := r6.lt
            have Lz := qz.lt
            have nb : ¬ w.heap.size + 1 = w2.heap.size := by omega
            have nb' : ¬ w2.heap.size = w.heap.size + 1 := by omega
            have y6 : w2.cell? ⟨g6, 0, none⟩ = some (.slice q M c) := r6.cell 0
            have f0 : w2.frozen? ⟨w.heap.size + 1, 0, none⟩ = false := qz.frozen 0
            have f1 : w2.frozen? ⟨w.heap.size + 1, 1, none⟩ = false := qz.frozen 1
            have f2 : w2.frozen? ⟨w.heap.size + 1, 2, none⟩ = false := qz.frozen 2
            have f3 : w2.frozen? ⟨w.heap.size + 1, 3, none⟩ = false := qz.frozen 3
            have z0 : w2.cell? ⟨w.heap.size + 1, 0, none⟩ = some (.slice none 0 0) := qz.cell 0
            have z1 : w2.cell? ⟨w.heap.size + 1, 1, none⟩ = some (.slice none 0 0) := qz.cell 1
            have z2 : w2.cell? ⟨w.heap.size + 1, 2, none⟩ = some (.int .i64 0) := qz.cell 2
            have z3 : w2.cell? ⟨w.heap.size + 1, 3, none⟩ = some (.int .i64 0) := qz.cell 3
            have rb := Row.new w2 61 [.slice (some ⟨g1, 0, none⟩) is.length k1, .slice q2 rs.length k2, .int .i64 now]
            have qz := qz.alloc (.cells #[.slice (some ⟨g1, 0, none⟩) is.length k1, .slice q2 rs.length k2, .int .i64 now] 61)
            have o1 := World.ownsRow.alloc o1 (.cells #[.slice (some ⟨g1, 0, none⟩) is.length k1, .slice q2 rs.length k2, .int .i64 now] 61)
            have o3 := World.ownsRow.alloc o3 (.cells #[.slice (some ⟨g1, 0, none⟩) is.length k1, .slice q2 rs.length k2, .int .i64 now] 61)
            have hB := hB.alloc (by have := hB.size; omega) (.cells #[.slice (some ⟨g1, 0, none⟩) is.length k1, .slice q2 rs.length k2, .int .i64 now] 61)
            have nbg : w2.heap.size ≠ g1 := by omega
            have rb := rb.other (k * 5 + 4) (.bool true) nbg
            have qz := qz.other (k * 5 + 4) (.bool true) n1
            have o3 := ownsR_kept hM.out o3 (fun g t l e h => h.other (k * 5 + 4) (.bool true) (fun e2 => ownsIR_ne o1 o3 e (by rw [e2])))
            have o1 := ownsI_setU o1 rfl k hk true
            have hB := hB.setCell (p := ⟨g1, k * 5 + 4, none⟩) hg1 (.bool true)
            have qz := qz.other 1 (.slice q M c) nb
            have o1 := ownsI_kept o1 (fun g t l e h => h.other 1 (.slice q M c) (fun e2 => ownsI_ne o1 rb (by decide) (by rw [e, e2])))
            have o3 := ownsR_kept hM.out o3 (fun g t l e h => h.other 1 (.slice q M c) (fun e2 => ownsR_ne o3 rb (by decide) (by rw [e, e2])))
            have hB := hB.setCell (p := ⟨w2.heap.size, 1, none⟩) (by show w.heap.size ≤ w2.heap.size; omega) (.slice q M c)
            have HE : Hid _ := out4 (p := (some ⟨g1, 0, none⟩)) (q := q) (now := now) (cc := 0) qz rfl (show w.heap.size ≤ w.heap.size + 1 by omega) hB o1 o3 hM.out _ rfl
            clear qz q0 r6 o1 o3 hB HX hgt hg1 hg1l rb
            go_wp2_with fail
            generalize ((((((w2.alloc (.cells #[.slice (some ⟨g1, 0, none⟩) is.length k1, .slice q2 rs.length k2, .int .i64 now] 61)).setCell ⟨g1, k * 5 + 4, none⟩ (.bool true)).setCell ⟨w2.heap.size, 1, none⟩ (.slice q M c)).setCell ⟨w.heap.size + 1, 0, none⟩ (.slice (some ⟨g1, 0, none⟩) is.length k1)).setCell ⟨w.heap.size + 1, 1, none⟩ (.slice q M c)).setCell ⟨w.heap.size + 1, 2, none⟩ (.int .i64 now)).setCell ⟨w.heap.size + 1, 3, none⟩ (.int .i64 0) = Z at *
            obtain ⟨m1, m2, m3, m4⟩ := HE.out
            clear HE f0 f1 f2 f3 z0 z1 z2 z3 y6 xa xf n1 n6 n1' n6' nb nb' nbg
            have e0 : Z.cell? ⟨w.heap.size + 1, 0, none⟩ = some (.slice (some ⟨g1, 0, none⟩) is.length k1) := m1.cell 0
            have e1 : Z.cell? ⟨w.heap.size + 1, 1, none⟩ = some (.slice q M c) := m1.cell 1
            have e2 : Z.cell? ⟨w.heap.size + 1, 2, none⟩ = some (.int .i64 now) := m1.cell 2
            have e3 : Z.cell? ⟨w.heap.size + 1, 3, none⟩ = some (.int .i64 0) := m1.cell 3
            exact bodyPost_ret (v := .agg #[.slice (some ⟨g1, 0, none⟩) is.length k1, .slice q M c, .int .i64 now, .int .i64 0]) (by simp [results, Tryz.results87, go_sem, e0, e1, e2, e3]) rfl ⟨by rw [hR]; exact outI_of2 (setU_length is k true) hM.out rfl m3 m4, m2⟩
          · have zcc : (cc != 0) = true := by simpa using hcc
            unfold outW at hR
            rw [if_neg hcc] at hR
            have HF := HE6.out
            clear HX HC
            go_wp2_with fail
            generalize ((w'.setCell ⟨g6, 0, none⟩ (.slice q M c)).setCell ⟨g6, 1, none⟩ (.int .i64 cc)) = W6 at *
            obtain ⟨-, -, qz, -, hB⟩ := HF
            clear HE6 f60 f61 z60 z61 y61
            refine (HIl.out cc _).mono ?_
            rintro e w9 ⟨rfl, hb9⟩
            have qz := qz.below hb9 qz.lt
            have hB := hB.trans (hb9.mono hB.size)
            clear hb9 HIl
            have f0 : w9.frozen? ⟨w.heap.size + 1, 0, none⟩ = false := qz.frozen 0
            have f1 : w9.frozen? ⟨w.heap.size + 1, 1, none⟩ = false := qz.frozen 1
            have f2 : w9.frozen? ⟨w.heap.size + 1, 2, none⟩ = false := qz.frozen 2
            have f3 : w9.frozen? ⟨w.heap.size + 1, 3, none⟩ = false := qz.frozen 3
            have z0 : w9.cell? ⟨w.heap.size + 1, 0, none⟩ = some (.slice none 0 0) := qz.cell 0
            have z1 : w9.cell? ⟨w.heap.size + 1, 1, none⟩ = some (.slice none 0 0) := qz.cell 1
            have z2 : w9.cell? ⟨w.heap.size + 1, 2, none⟩ = some (.int .i64 0) := qz.cell 2
            have z3 : w9.cell? ⟨w.heap.size + 1, 3, none⟩ = some (.int .i64 0) := qz.cell 3
            have HE : Hid _ := out4 (p := none) (q := none) (now := 0) (cc := cc) qz rfl (show w.heap.size ≤ w.heap.size + 1 by omega) hB (ownsI_nil w9 w.heap.size) (ownsR_nil w9 w.heap.size) rfl _ rfl
            clear qz hB 
            go_wp2_with fail
            generalize (((w9.setCell ⟨w.heap.size + 1, 0, none⟩ (.slice none 0 0)).setCell ⟨w.heap.size + 1, 1, none⟩ (.slice none 0 0)).setCell ⟨w.heap.size + 1, 2, none⟩ (.int .i64 0)).setCell ⟨w.heap.size + 1, 3, none⟩ (.int .i64 cc) = Z at *
            obtain ⟨k1, k2, k3, k4⟩ := HE.out
            clear HE f0 f1 f2 f3 z0 z1 z2 z3
            have e0 : Z.cell? ⟨w.heap.size + 1, 0, none⟩ = some (.slice none 0 0) := k1.cell 0
            have e1 : Z.cell? ⟨w.heap.size + 1, 1, none⟩ = some (.slice none 0 0) := k1.cell 1
            have e2 : Z.cell? ⟨w.heap.size + 1, 2, none⟩ = some (.int .i64 0) := k1.cell 2
            have e3 : Z.cell? ⟨w.heap.size + 1, 3, none⟩ = some (.int .i64 cc) := k1.cell 3
            exact bodyPost_ret (v := .agg #[.slice none 0 0, .slice none 0 0, .int .i64 0, .int .i64 cc]) (by simp [results, Tryz.results87, go_sem, e0, e1, e2, e3]) rfl ⟨by rw [hR]; exact outI_no _ _ _, k2⟩
end Go.Proofs.YtcnadobnihbldaaGreat
