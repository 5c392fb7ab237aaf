/- Texts that stand on each other, in one file: HearM, FromI. -/
import Derived.Test.YtifckpncpjijiaaGreatPack29
import Derived.Test.YtifckpncpjijiaaGreatPack21
import Derived.Test.YtifckpncpjijiaaGreatPack13
import Derived.Test.YtifckpncpjijiaaGreatPack20
/- What is heard, in plain lists. -/
namespace Go.Proofs.YtifckpncpjijiaaGreat
open Go.RowKit Go.Sort

/-- The route that an entry comes to. -/
def wayE (f : If) (i fr : Int) (e : Ent) : Rt := ⟨e.a, e.l, min (e.m + f.c) 16, if e.n ≠ 0 ∧ nearF f e.n = true then e.n else fr, i, e.t, 0, 0, false⟩
/-- The table behind it. -/
def stepH (f : If) (i fr now : Int) (rs : List Rt) (e : Ent) : List Rt := if (learnO rs (wayE f i fr e) now).1 = 0 then (learnO rs (wayE f i fr e) now).2 else rs
def hearK (f : If) (i fr now : Int) (rs : List Rt) (es : List Ent) (k : Nat) : List Rt := (es.take k).foldl (stepH f i fr now) rs
theorem hearK_0 (f : If) (i fr now : Int) (rs : List Rt) (es : List Ent) : hearK f i fr now rs es 0 = rs := rfl
theorem hearK_next (f : If) (i fr now : Int) (rs : List Rt) (es : List Ent) (k : Nat) (hk : k < es.length) : hearK f i fr now rs es (k + 1) = stepH f i fr now (hearK f i fr now rs es k) es[k] := by
  unfold hearK
  rw [List.take_succ_eq_append_getElem hk, List.foldl_append]
  rfl
theorem near_addr {f : If} {x : Int} (h : nearF f x = true) : inAddr x = true := by
  unfold nearF coversB at h
  simp only [Bool.and_eq_true] at h
  exact h.1.2.1
theorem way_told {f : If} {i fr now : Int} {e : Ent} (hf : ifB f = true) (he : entB e = true) (hi : inIf i = true) (hfr : fr ≠ 0) (hn : nearF f fr = true) (hnow : inNow now = true) : toldB (wayE f i fr e) now = true := by
  have hc : 1 ≤ f.c ∧ f.c ≤ 15 := by
    unfold ifB at hf
    simp only [Bool.and_eq_true, decide_eq_true_eq] at hf
    exact hf.2
  unfold entB at he
  simp only [Bool.and_eq_true] at he
  obtain ⟨⟨⟨h1, h2⟩, h3⟩, h4⟩ := he
  have hm : inMet (min (e.m + f.c) 16) = true := by
    unfold inMet at h3 ⊢
    simp only [decide_eq_true_eq] at h3 ⊢
    omega
  have hnx : inAddr (if e.n ≠ 0 ∧ nearF f e.n = true then e.n else fr) = true ∧ (if e.n ≠ 0 ∧ nearF f e.n = true then e.n else fr) ≠ 0 := by
    split
    · rename_i h
      exact ⟨near_addr h.2, h.1⟩
    · exact ⟨near_addr hn, hfr⟩
  have e0 : toldB (wayE f i fr e) now = ((rightB e.a e.l && inAddr (if e.n ≠ 0 ∧ nearF f e.n = true then e.n else fr) && inMet (min (e.m + f.c) 16) && inTag e.t) && inIf i && (!decide ((if e.n ≠ 0 ∧ nearF f e.n = true then e.n else fr) = 0) && inNow now)) := rfl
  rw [e0, h1, hnx.1, hm, h4, hi, hnow, decide_eq_false hnx.2]
  rfl
theorem learn_of {rs : List Rt} {r : Rt} {now : Int} (h : ribB rs = true) (ht : toldB r now = true) : learnO rs r now = learnK rs r now := by
  unfold learnO learnK
  rw [h, ht]
  rfl
theorem learnK_right {rs : List Rt} {r : Rt} {now : Int} (h : ribB rs = true) (ht : toldB r now = true) (h0 : (learnK rs r now).1 = 0) : ribB (learnK rs r now).2 = true := by
  unfold toldB at ht
  simp only [Bool.and_eq_true, Bool.not_eq_true', decide_eq_false_iff_not] at ht
  obtain ⟨hs, hn, hnow⟩ := ht
  have hm := said_met hs
  unfold learnK at h0 ⊢
  cases hk : lookN rs r.a r.l with
  | some old =>
    obtain ⟨hmem, e1, e2⟩ := look_mem hk
    obtain ⟨n1, n2⟩ := heard_net (now := now) e1 e2
    have hlen : (insR rs (heardR old r now)).length ≤ 8 := by
      rw [insR_len_old h (by rw [n1, n2, hk]; rfl)]
      exact ribB_len h
    exact insR_right h (heard_right (rib_routes h old hmem) hs hn hnow) hlen
  | none =>
    rw [hk] at h0
    simp only at h0 ⊢
    by_cases h16 : r.m = 16
    · rw [if_pos h16]
      exact h
    · rw [if_neg h16] at h0 ⊢
      by_cases h8 : (insR rs (freshR r now)).length ≤ 8
      · rw [if_pos h8]
        exact insR_right h (fresh_right hs hn (by omega) hnow true) h8
      · rw [if_neg h8] at h0
        exact absurd h0 (by decide)
theorem stepH_right {f : If} {i fr now : Int} {rs : List Rt} {e : Ent} (h : ribB rs = true) (ht : toldB (wayE f i fr e) now = true) : ribB (stepH f i fr now rs e) = true := by
  unfold stepH
  rw [learn_of h ht]
  split
  · rename_i h0
    exact learnK_right h ht h0
  · exact h
theorem hearK_right {f : If} {i fr now : Int} {rs : List Rt} {es : List Ent} (hf : ifB f = true) (hi : inIf i = true) (hfr : fr ≠ 0) (hn : nearF f fr = true) (hnow : inNow now = true) (h : ribB rs = true) (he : es.all entB = true) : ∀ k, k ≤ es.length → ribB (hearK f i fr now rs es k) = true
  | 0, _ => h
  | k + 1, hk => by
    rw [hearK_next f i fr now rs es k (by omega)]
    have hek : entB es[k] = true := (List.all_eq_true.1 he) _ (List.getElem_mem _)
    exact stepH_right (hearK_right hf hi hfr hn hnow h he k (by omega)) (way_told hf hek hi hfr hn hnow)
/-- What HearRip answers. -/
def hearO (is : List If) (rs : List Rt) (now i fr c : Int) (es : List Ent) : Int × (List If × (List Rt × Int)) := if (instB is rs now && ripB c es) = true then (match ifAt is i with | none => ((6 : Int), [], [], (0 : Int)) | some f => if f.u = true then (if fr ≠ 0 ∧ nearF f fr = true then (0, is, (if c = 1 then rs else hearK f i fr now rs es es.length), now) else ((11 : Int), [], [], (0 : Int))) else ((10 : Int), [], [], (0 : Int))) else (1, [], [], 0)
theorem ifsB_if {is : List If} (h : ifsB is = true) (k : Nat) (hk : k < is.length) : ifB is[k] = true := by
  unfold ifsB at h
  simp only [Bool.and_eq_true, List.all_eq_true, List.mem_range] at h
  have := h.2 k hk
  unfold ifsOk at this
  rw [getElem!_pos is k hk] at this
  simp only [Bool.and_eq_true] at this
  exact this.1
theorem ifsB_inIf {is : List If} (h : ifsB is = true) (k : Nat) (hk : k < is.length) : inIf (k : Int) = true := by
  unfold ifsB at h
  simp only [Bool.and_eq_true, decide_eq_true_eq] at h
  unfold inIf
  simp only [decide_eq_true_eq]
  omega
end Go.Proofs.YtifckpncpjijiaaGreat
/- What a neighbour's entry comes to: by the program. (Written by gen_hear.py.) -/
namespace Go.Proofs.YtifckpncpjijiaaGreat
open Go.RowKit Go.Sort

set_option maxRecDepth 100000 in
set_option maxHeartbeats 2000000 in
theorem heardFrom_any (base : Nat) (is : List If) (rs : List Rt) (now fr : Int) (g k : Nat) (e : Ent) (w : World) (h : AtW base is rs now g w) (hk : k < is.length) (hf : ifB is[k] = true) (he : entB e = true) :
    Calls Tryz.prog 59 #[.pointer (some ⟨g, 0, none⟩), entV e, .int .i64 (k : Int), .int .i64 fr] w fun r w' => r = .returned (rtV (wayE is[k] k fr e)) ∧ Below w.heap.size w w' := by
  obtain ⟨q1, k1, q2, k2, y0, y1, y2, -, oi⟩ := atW_cells h
  obtain ⟨b, fd, fa, fl, fc, fu, rfl, hbl, hek, e0, e1, e2, e3, e4⟩ := (ownsI_in rfl oi).at k hk
  have hg := atW_lt h
  clear h oi
  rw [hek] at hf ⊢
  have hc : 1 ≤ fc ∧ fc ≤ 15 := by
    unfold ifB at hf
    simp only [Bool.and_eq_true, decide_eq_true_eq] at hf
    exact hf.2
  obtain ⟨a, l, n, m, t⟩ := e
  have hm : 1 ≤ m ∧ m ≤ 16 := by
    unfold entB at he
    simp only [Bool.and_eq_true, inMet, decide_eq_true_eq] at he
    exact he.1.2
  have HN : Hid (∀ w, Calls Tryz.prog 57 #[.agg #[.int .i64 fd, .int .i64 fa, .int .i64 fl, .int .i64 fc, .bool fu], .int .i64 n] w fun e w' => e = .returned (.bool (nearF ⟨fd, fa, fl, fc, fu⟩ n)) ∧ Below w.heap.size w w') := isNear_any ⟨fd, fa, fl, fc, fu⟩ n
  have HV : Hid (∀ nx, (if n ≠ 0 ∧ nearF ⟨fd, fa, fl, fc, fu⟩ n = true then n else fr) = nx → Ending.returned (.agg #[.int .i64 a, .int .i64 l, .int .i64 (min (m + fc) 16), .int .i64 (nx), .int .i64 (k : Int), .int .i64 t, .int .i64 0, .int .i64 0, .bool false]) = .returned (rtV (wayE ⟨fd, fa, fl, fc, fu⟩ k fr ⟨a, l, n, m, t⟩))) := fun nx h => by subst h; rfl
  generalize wayE ⟨fd, fa, fl, fc, fu⟩ (k : Int) fr ⟨a, l, n, m, t⟩ = WR at *
  generalize nearF ⟨fd, fa, fl, fc, fu⟩ n = NR at *
  clear hf he hek
  obtain ⟨hc1, hc2⟩ := hc
  obtain ⟨hm1, hm2⟩ := hm
  unfold entV
  simp only
  have zk : (k : Int) < (is.length : Int) := by omega
  obtain ⟨W, hW, q0, rz, qf, hB, hS, -⟩ := rows3 w [.int .i64 a, .int .i64 l, .int .i64 n, .int .i64 m, .int .i64 t] [.int .i64 0, .int .i64 0, .int .i64 0, .int .i64 0, .int .i64 0, .int .i64 0, .int .i64 0, .int .i64 0, .bool false] [.int .i64 fd, .int .i64 fa, .int .i64 fl, .int .i64 fc, .bool fu] 95 98 89
  have hkeep : ∀ j v, w.cell? ⟨b, j, none⟩ = some v → ((w.alloc (.cells #[.int .i64 a, .int .i64 l, .int .i64 n, .int .i64 m, .int .i64 t] 95)).alloc (.cells #[.int .i64 0, .int .i64 0, .int .i64 0, .int .i64 0, .int .i64 0, .int .i64 0, .int .i64 0, .int .i64 0, .bool false] 98)).cell? ⟨b, j, none⟩ = some v := fun j v hv => by rw [((ent_new0 w _).alloc (by simp) _).cell (p := ⟨b, j, none⟩) hbl]; exact hv
  have hkeg : ∀ j v, w.cell? ⟨g, j, none⟩ = some v → ((w.alloc (.cells #[.int .i64 a, .int .i64 l, .int .i64 n, .int .i64 m, .int .i64 t] 95)).alloc (.cells #[.int .i64 0, .int .i64 0, .int .i64 0, .int .i64 0, .int .i64 0, .int .i64 0, .int .i64 0, .int .i64 0, .bool false] 98)).cell? ⟨g, j, none⟩ = some v := fun j v hv => by rw [((ent_new0 w _).alloc (by simp) _).cell (p := ⟨g, j, none⟩) hg]; exact hv
  replace e0 := hkeep _ _ e0
  replace e1 := hkeep _ _ e1
  replace e2 := hkeep _ _ e2
  replace e3 := hkeep _ _ e3
  replace e4 := hkeep _ _ e4
  replace y1 := hkeg _ _ y1
  clear hkeep hkeg y0 y2
  by_cases hmn : m + fc ≤ 16
  · have eM : min (m + fc) 16 = m + fc := by omega
    rw [eM] at HV
    clear eM
    by_cases hn0 : n = 0
    · have zn : (n != 0) = false := by simpa using hn0
      have hRV := HV.out fr (if_neg (fun h => h.1 hn0))
      clear hn0 HV HN q0 rz qf hB hS hW
      go_enter Tryz.func59, Tryz.ntmps59
      go_wp2
      exact bodyPost_ret (v := .agg #[.int .i64 a, .int .i64 l, .int .i64 (m + fc), .int .i64 (fr), .int .i64 (k : Int), .int .i64 t, .int .i64 0, .int .i64 0, .bool false]) (by simp [results, Tryz.results59, go_sem]) rfl ⟨hRV, ((ent_new0 w _).alloc (by simp) _).alloc (by simp; omega) _⟩
    · have zn : (n != 0) = true := by simpa using hn0
      have HW : Hid _ := hW
      have HQ : Hid _ := And.intro q0 (And.intro rz (And.intro qf hB))
      clear q0 rz qf hB hW
      go_enter Tryz.func59, Tryz.ntmps59
      go_wp2_with fail
      rw [← HW.out]
      obtain ⟨q0, rz, qf, hB⟩ := HQ.out
      refine (HN.out _).mono ?_
      rintro e_ w1 ⟨rfl, hb1⟩
      have q0 := q0.below hb1 q0.lt
      have rz := rz.below hb1 rz.lt
      have qf := qf.below hb1 qf.lt
      have hB := hB.trans (hb1.mono hB.size)
      clear hb1 HN HQ HW e0 e1 e2 e3 e4 y1
      have c0 : w1.cell? ⟨w.heap.size, 0, none⟩ = some (.int .i64 a) := q0.cell 0
      have c1 : w1.cell? ⟨w.heap.size, 1, none⟩ = some (.int .i64 l) := q0.cell 1
      have c2 : w1.cell? ⟨w.heap.size, 2, none⟩ = some (.int .i64 n) := q0.cell 2
      have c3 : w1.cell? ⟨w.heap.size, 3, none⟩ = some (.int .i64 m) := q0.cell 3
      have c4 : w1.cell? ⟨w.heap.size, 4, none⟩ = some (.int .i64 t) := q0.cell 4
      have d3 : w1.cell? ⟨w.heap.size + 1 + 1, 3, none⟩ = some (.int .i64 fc) := qf.cell 3
      clear q0 qf
      cases NR
      · have hRV := HV.out fr (if_neg (by simp))
        clear HV hn0
        have f0_ : w1.frozen? ⟨w.heap.size + 1, 0, none⟩ = false := rz.frozen 0
        have f1_ : w1.frozen? ⟨w.heap.size + 1, 1, none⟩ = false := rz.frozen 1
        have f2_ : w1.frozen? ⟨w.heap.size + 1, 2, none⟩ = false := rz.frozen 2
        have f3_ : w1.frozen? ⟨w.heap.size + 1, 3, none⟩ = false := rz.frozen 3
        have f4_ : w1.frozen? ⟨w.heap.size + 1, 4, none⟩ = false := rz.frozen 4
        have f5_ : w1.frozen? ⟨w.heap.size + 1, 5, none⟩ = false := rz.frozen 5
        have f6_ : w1.frozen? ⟨w.heap.size + 1, 6, none⟩ = false := rz.frozen 6
        have f7_ : w1.frozen? ⟨w.heap.size + 1, 7, none⟩ = false := rz.frozen 7
        have f8_ : w1.frozen? ⟨w.heap.size + 1, 8, none⟩ = false := rz.frozen 8
        have z0_ : w1.cell? ⟨w.heap.size + 1, 0, none⟩ = some (.int .i64 0) := rz.cell 0
        have z1_ : w1.cell? ⟨w.heap.size + 1, 1, none⟩ = some (.int .i64 0) := rz.cell 1
        have z2_ : w1.cell? ⟨w.heap.size + 1, 2, none⟩ = some (.int .i64 0) := rz.cell 2
        have z3_ : w1.cell? ⟨w.heap.size + 1, 3, none⟩ = some (.int .i64 0) := rz.cell 3
        have z4_ : w1.cell? ⟨w.heap.size + 1, 4, none⟩ = some (.int .i64 0) := rz.cell 4
        have z5_ : w1.cell? ⟨w.heap.size + 1, 5, none⟩ = some (.int .i64 0) := rz.cell 5
        have z6_ : w1.cell? ⟨w.heap.size + 1, 6, none⟩ = some (.int .i64 0) := rz.cell 6
        have z7_ : w1.cell? ⟨w.heap.size + 1, 7, none⟩ = some (.int .i64 0) := rz.cell 7
        have z8_ : w1.cell? ⟨w.heap.size + 1, 8, none⟩ = some (.bool false) := rz.cell 8
        have hRow := nine0_row rz (.int .i64 a) (.int .i64 l) (.int .i64 (m + fc)) (.int .i64 (fr)) (.int .i64 (k : Int)) (.int .i64 t) (.int .i64 0) (.int .i64 0) (.bool false)
        have hBel := nine0_below hB (w.heap.size + 1) (by omega) (.int .i64 a) (.int .i64 l) (.int .i64 (m + fc)) (.int .i64 (fr)) (.int .i64 (k : Int)) (.int .i64 t) (.int .i64 0) (.int .i64 0) (.bool false)
        have HE : Hid _ := And.intro hRow hBel
        clear hRow hBel rz hB
        go_wp2_with fail
        obtain ⟨m1, m2⟩ := HE.out
        clear HE f0_ z0_ f1_ z1_ f2_ z2_ f3_ z3_ f4_ z4_ f5_ z5_ f6_ z6_ f7_ z7_ f8_ z8_
        unfold nine0 at m1 m2
        generalize (((((((((w1.setCell ⟨w.heap.size + 1, 0, none⟩ (.int .i64 a)).setCell ⟨w.heap.size + 1, 1, none⟩ (.int .i64 l)).setCell ⟨w.heap.size + 1, 2, none⟩ (.int .i64 (m + fc))).setCell ⟨w.heap.size + 1, 3, none⟩ (.int .i64 (fr))).setCell ⟨w.heap.size + 1, 4, none⟩ (.int .i64 (k : Int))).setCell ⟨w.heap.size + 1, 5, none⟩ (.int .i64 t)).setCell ⟨w.heap.size + 1, 6, none⟩ (.int .i64 0)).setCell ⟨w.heap.size + 1, 7, none⟩ (.int .i64 0)).setCell ⟨w.heap.size + 1, 8, none⟩ (.bool false)) = Z at *
        have e0_ : Z.cell? ⟨w.heap.size + 1, 0, none⟩ = some (.int .i64 a) := m1.cell 0
        have e1_ : Z.cell? ⟨w.heap.size + 1, 1, none⟩ = some (.int .i64 l) := m1.cell 1
        have e2_ : Z.cell? ⟨w.heap.size + 1, 2, none⟩ = some (.int .i64 (m + fc)) := m1.cell 2
        have e3_ : Z.cell? ⟨w.heap.size + 1, 3, none⟩ = some (.int .i64 (fr)) := m1.cell 3
        have e4_ : Z.cell? ⟨w.heap.size + 1, 4, none⟩ = some (.int .i64 (k : Int)) := m1.cell 4
        have e5_ : Z.cell? ⟨w.heap.size + 1, 5, none⟩ = some (.int .i64 t) := m1.cell 5
        have e6_ : Z.cell? ⟨w.heap.size + 1, 6, none⟩ = some (.int .i64 0) := m1.cell 6
        have e7_ : Z.cell? ⟨w.heap.size + 1, 7, none⟩ = some (.int .i64 0) := m1.cell 7
        have e8_ : Z.cell? ⟨w.heap.size + 1, 8, none⟩ = some (.bool false) := m1.cell 8
        exact bodyPost_ret (v := .agg #[.int .i64 a, .int .i64 l, .int .i64 (m + fc), .int .i64 (fr), .int .i64 (k : Int), .int .i64 t, .int .i64 0, .int .i64 0, .bool false]) (by simp [results, Tryz.results59, go_sem, e0_, e1_, e2_, e3_, e4_, e5_, e6_, e7_, e8_]) rfl ⟨hRV, m2⟩
      · have hRV := HV.out n (if_pos ⟨hn0, rfl⟩)
        clear HV hn0
        have f0_ : w1.frozen? ⟨w.heap.size + 1, 0, none⟩ = false := rz.frozen 0
        have f1_ : w1.frozen? ⟨w.heap.size + 1, 1, none⟩ = false := rz.frozen 1
        have f2_ : w1.frozen? ⟨w.heap.size + 1, 2, none⟩ = false := rz.frozen 2
        have f3_ : w1.frozen? ⟨w.heap.size + 1, 3, none⟩ = false := rz.frozen 3
        have f4_ : w1.frozen? ⟨w.heap.size + 1, 4, none⟩ = false := rz.frozen 4
        have f5_ : w1.frozen? ⟨w.heap.size + 1, 5, none⟩ = false := rz.frozen 5
        have f6_ : w1.frozen? ⟨w.heap.size + 1, 6, none⟩ = false := rz.frozen 6
        have f7_ : w1.frozen? ⟨w.heap.size + 1, 7, none⟩ = false := rz.frozen 7
        have f8_ : w1.frozen? ⟨w.heap.size + 1, 8, none⟩ = false := rz.frozen 8
        have z0_ : w1.cell? ⟨w.heap.size + 1, 0, none⟩ = some (.int .i64 0) := rz.cell 0
        have z1_ : w1.cell? ⟨w.heap.size + 1, 1, none⟩ = some (.int .i64 0) := rz.cell 1
        have z2_ : w1.cell? ⟨w.heap.size + 1, 2, none⟩ = some (.int .i64 0) := rz.cell 2
        have z3_ : w1.cell? ⟨w.heap.size + 1, 3, none⟩ = some (.int .i64 0) := rz.cell 3
        have z4_ : w1.cell? ⟨w.heap.size + 1, 4, none⟩ = some (.int .i64 0) := rz.cell 4
        have z5_ : w1.cell? ⟨w.heap.size + 1, 5, none⟩ = some (.int .i64 0) := rz.cell 5
        have z6_ : w1.cell? ⟨w.heap.size + 1, 6, none⟩ = some (.int .i64 0) := rz.cell 6
        have z7_ : w1.cell? ⟨w.heap.size + 1, 7, none⟩ = some (.int .i64 0) := rz.cell 7
        have z8_ : w1.cell? ⟨w.heap.size + 1, 8, none⟩ = some (.bool false) := rz.cell 8
        have hRow := nine0_row rz (.int .i64 a) (.int .i64 l) (.int .i64 (m + fc)) (.int .i64 (n)) (.int .i64 (k : Int)) (.int .i64 t) (.int .i64 0) (.int .i64 0) (.bool false)
        have hBel := nine0_below hB (w.heap.size + 1) (by omega) (.int .i64 a) (.int .i64 l) (.int .i64 (m + fc)) (.int .i64 (n)) (.int .i64 (k : Int)) (.int .i64 t) (.int .i64 0) (.int .i64 0) (.bool false)
        have HE : Hid _ := And.intro hRow hBel
        clear hRow hBel rz hB
        go_wp2_with fail
        obtain ⟨m1, m2⟩ := HE.out
        clear HE f0_ z0_ f1_ z1_ f2_ z2_ f3_ z3_ f4_ z4_ f5_ z5_ f6_ z6_ f7_ z7_ f8_ z8_
        unfold nine0 at m1 m2
        generalize (((((((((w1.setCell ⟨w.heap.size + 1, 0, none⟩ (.int .i64 a)).setCell ⟨w.heap.size + 1, 1, none⟩ (.int .i64 l)).setCell ⟨w.heap.size + 1, 2, none⟩ (.int .i64 (m + fc))).setCell ⟨w.heap.size + 1, 3, none⟩ (.int .i64 (n))).setCell ⟨w.heap.size + 1, 4, none⟩ (.int .i64 (k : Int))).setCell ⟨w.heap.size + 1, 5, none⟩ (.int .i64 t)).setCell ⟨w.heap.size + 1, 6, none⟩ (.int .i64 0)).setCell ⟨w.heap.size + 1, 7, none⟩ (.int .i64 0)).setCell ⟨w.heap.size + 1, 8, none⟩ (.bool false)) = Z at *
        have e0_ : Z.cell? ⟨w.heap.size + 1, 0, none⟩ = some (.int .i64 a) := m1.cell 0
        have e1_ : Z.cell? ⟨w.heap.size + 1, 1, none⟩ = some (.int .i64 l) := m1.cell 1
        have e2_ : Z.cell? ⟨w.heap.size + 1, 2, none⟩ = some (.int .i64 (m + fc)) := m1.cell 2
        have e3_ : Z.cell? ⟨w.heap.size + 1, 3, none⟩ = some (.int .i64 (n)) := m1.cell 3
        have e4_ : Z.cell? ⟨w.heap.size + 1, 4, none⟩ = some (.int .i64 (k : Int)) := m1.cell 4
        have e5_ : Z.cell? ⟨w.heap.size + 1, 5, none⟩ = some (.int .i64 t) := m1.cell 5
        have e6_ : Z.cell? ⟨w.heap.size + 1, 6, none⟩ = some (.int .i64 0) := m1.cell 6
        have e7_ : Z.cell? ⟨w.heap.size + 1, 7, none⟩ = some (.int .i64 0) := m1.cell 7
        have e8_ : Z.cell? ⟨w.heap.size + 1, 8, none⟩ = some (.bool false) := m1.cell 8
        exact bodyPost_ret (v := .agg #[.int .i64 a, .int .i64 l, .int .i64 (m + fc), .int .i64 (n), .int .i64 (k : Int), .int .i64 t, .int .i64 0, .int .i64 0, .bool false]) (by simp [results, Tryz.results59, go_sem, e0_, e1_, e2_, e3_, e4_, e5_, e6_, e7_, e8_]) rfl ⟨hRV, m2⟩
  · have eM : min (m + fc) 16 = 16 := by omega
    rw [eM] at HV
    clear eM
    by_cases hn0 : n = 0
    · have zn : (n != 0) = false := by simpa using hn0
      have hRV := HV.out fr (if_neg (fun h => h.1 hn0))
      clear hn0 HV HN q0 rz qf hB hS hW
      go_enter Tryz.func59, Tryz.ntmps59
      go_wp2
      exact bodyPost_ret (v := .agg #[.int .i64 a, .int .i64 l, .int .i64 (16), .int .i64 (fr), .int .i64 (k : Int), .int .i64 t, .int .i64 0, .int .i64 0, .bool false]) (by simp [results, Tryz.results59, go_sem]) rfl ⟨hRV, ((ent_new0 w _).alloc (by simp) _).alloc (by simp; omega) _⟩
    · have zn : (n != 0) = true := by simpa using hn0
      have HW : Hid _ := hW
      have HQ : Hid _ := And.intro q0 (And.intro rz (And.intro qf hB))
      clear q0 rz qf hB hW
      go_enter Tryz.func59, Tryz.ntmps59
      go_wp2_with fail
      rw [← HW.out]
      obtain ⟨q0, rz, qf, hB⟩ := HQ.out
      refine (HN.out _).mono ?_
      rintro e_ w1 ⟨rfl, hb1⟩
      have q0 := q0.below hb1 q0.lt
      have rz := rz.below hb1 rz.lt
      have qf := qf.below hb1 qf.lt
      have hB := hB.trans (hb1.mono hB.size)
      clear hb1 HN HQ HW e0 e1 e2 e3 e4 y1
      have c0 : w1.cell? ⟨w.heap.size, 0, none⟩ = some (.int .i64 a) := q0.cell 0
      have c1 : w1.cell? ⟨w.heap.size, 1, none⟩ = some (.int .i64 l) := q0.cell 1
      have c2 : w1.cell? ⟨w.heap.size, 2, none⟩ = some (.int .i64 n) := q0.cell 2
      have c3 : w1.cell? ⟨w.heap.size, 3, none⟩ = some (.int .i64 m) := q0.cell 3
      have c4 : w1.cell? ⟨w.heap.size, 4, none⟩ = some (.int .i64 t) := q0.cell 4
      have d3 : w1.cell? ⟨w.heap.size + 1 + 1, 3, none⟩ = some (.int .i64 fc) := qf.cell 3
      clear q0 qf
      cases NR
      · have hRV := HV.out fr (if_neg (by simp))
        clear HV hn0
        have f0_ : w1.frozen? ⟨w.heap.size + 1, 0, none⟩ = false := rz.frozen 0
        have f1_ : w1.frozen? ⟨w.heap.size + 1, 1, none⟩ = false := rz.frozen 1
        have f2_ : w1.frozen? ⟨w.heap.size + 1, 2, none⟩ = false := rz.frozen 2
        have f3_ : w1.frozen? ⟨w.heap.size + 1, 3, none⟩ = false := rz.frozen 3
        have f4_ : w1.frozen? ⟨w.heap.size + 1, 4, none⟩ = false := rz.frozen 4
        have f5_ : w1.frozen? ⟨w.heap.size + 1, 5, none⟩ = false := rz.frozen 5
        have f6_ : w1.frozen? ⟨w.heap.size + 1, 6, none⟩ = false := rz.frozen 6
        have f7_ : w1.frozen? ⟨w.heap.size + 1, 7, none⟩ = false := rz.frozen 7
        have f8_ : w1.frozen? ⟨w.heap.size + 1, 8, none⟩ = false := rz.frozen 8
        have z0_ : w1.cell? ⟨w.heap.size + 1, 0, none⟩ = some (.int .i64 0) := rz.cell 0
        have z1_ : w1.cell? ⟨w.heap.size + 1, 1, none⟩ = some (.int .i64 0) := rz.cell 1
        have z2_ : w1.cell? ⟨w.heap.size + 1, 2, none⟩ = some (.int .i64 0) := rz.cell 2
        have z3_ : w1.cell? ⟨w.heap.size + 1, 3, none⟩ = some (.int .i64 0) := rz.cell 3
        have z4_ : w1.cell? ⟨w.heap.size + 1, 4, none⟩ = some (.int .i64 0) := rz.cell 4
        have z5_ : w1.cell? ⟨w.heap.size + 1, 5, none⟩ = some (.int .i64 0) := rz.cell 5
        have z6_ : w1.cell? ⟨w.heap.size + 1, 6, none⟩ = some (.int .i64 0) := rz.cell 6
        have z7_ : w1.cell? ⟨w.heap.size + 1, 7, none⟩ = some (.int .i64 0) := rz.cell 7
        have z8_ : w1.cell? ⟨w.heap.size + 1, 8, none⟩ = some (.bool false) := rz.cell 8
        have hRow := nine0_row rz (.int .i64 a) (.int .i64 l) (.int .i64 (16)) (.int .i64 (fr)) (.int .i64 (k : Int)) (.int .i64 t) (.int .i64 0) (.int .i64 0) (.bool false)
        have hBel := nine0_below hB (w.heap.size + 1) (by omega) (.int .i64 a) (.int .i64 l) (.int .i64 (16)) (.int .i64 (fr)) (.int .i64 (k : Int)) (.int .i64 t) (.int .i64 0) (.int .i64 0) (.bool false)
        have HE : Hid _ := And.intro hRow hBel
        clear hRow hBel rz hB
        go_wp2_with fail
        obtain ⟨m1, m2⟩ := HE.out
        clear HE f0_ z0_ f1_ z1_ f2_ z2_ f3_ z3_ f4_ z4_ f5_ z5_ f6_ z6_ f7_ z7_ f8_ z8_
        unfold nine0 at m1 m2
        generalize (((((((((w1.setCell ⟨w.heap.size + 1, 0, none⟩ (.int .i64 a)).setCell ⟨w.heap.size + 1, 1, none⟩ (.int .i64 l)).setCell ⟨w.heap.size + 1, 2, none⟩ (.int .i64 (16))).setCell ⟨w.heap.size + 1, 3, none⟩ (.int .i64 (fr))).setCell ⟨w.heap.size + 1, 4, none⟩ (.int .i64 (k : Int))).setCell ⟨w.heap.size + 1, 5, none⟩ (.int .i64 t)).setCell ⟨w.heap.size + 1, 6, none⟩ (.int .i64 0)).setCell ⟨w.heap.size + 1, 7, none⟩ (.int .i64 0)).setCell ⟨w.heap.size + 1, 8, none⟩ (.bool false)) = Z at *
        have e0_ : Z.cell? ⟨w.heap.size + 1, 0, none⟩ = some (.int .i64 a) := m1.cell 0
        have e1_ : Z.cell? ⟨w.heap.size + 1, 1, none⟩ = some (.int .i64 l) := m1.cell 1
        have e2_ : Z.cell? ⟨w.heap.size + 1, 2, none⟩ = some (.int .i64 (16)) := m1.cell 2
        have e3_ : Z.cell? ⟨w.heap.size + 1, 3, none⟩ = some (.int .i64 (fr)) := m1.cell 3
        have e4_ : Z.cell? ⟨w.heap.size + 1, 4, none⟩ = some (.int .i64 (k : Int)) := m1.cell 4
        have e5_ : Z.cell? ⟨w.heap.size + 1, 5, none⟩ = some (.int .i64 t) := m1.cell 5
        have e6_ : Z.cell? ⟨w.heap.size + 1, 6, none⟩ = some (.int .i64 0) := m1.cell 6
        have e7_ : Z.cell? ⟨w.heap.size + 1, 7, none⟩ = some (.int .i64 0) := m1.cell 7
        have e8_ : Z.cell? ⟨w.heap.size + 1, 8, none⟩ = some (.bool false) := m1.cell 8
        exact bodyPost_ret (v := .agg #[.int .i64 a, .int .i64 l, .int .i64 (16), .int .i64 (fr), .int .i64 (k : Int), .int .i64 t, .int .i64 0, .int .i64 0, .bool false]) (by simp [results, Tryz.results59, go_sem, e0_, e1_, e2_, e3_, e4_, e5_, e6_, e7_, e8_]) rfl ⟨hRV, m2⟩
      · have hRV := HV.out n (if_pos ⟨hn0, rfl⟩)
        clear HV hn0
        have f0_ : w1.frozen? ⟨w.heap.size + 1, 0, none⟩ = false := rz.frozen 0
        have f1_ : w1.frozen? ⟨w.heap.size + 1, 1, none⟩ = false := rz.frozen 1
        have f2_ : w1.frozen? ⟨w.heap.size + 1, 2, none⟩ = false := rz.frozen 2
        have f3_ : w1.frozen? ⟨w.heap.size + 1, 3, none⟩ = false := rz.frozen 3
        have f4_ : w1.frozen? ⟨w.heap.size + 1, 4, none⟩ = false := rz.frozen 4
        have f5_ : w1.frozen? ⟨w.heap.size + 1, 5, none⟩ = false := rz.frozen 5
        have f6_ : w1.frozen? ⟨w.heap.size + 1, 6, none⟩ = false := rz.frozen 6
        have f7_ : w1.frozen? ⟨w.heap.size + 1, 7, none⟩ = false := rz.frozen 7
        have f8_ : w1.frozen? ⟨w.heap.size + 1, 8, none⟩ = false := rz.frozen 8
        have z0_ : w1.cell? ⟨w.heap.size + 1, 0, none⟩ = some (.int .i64 0) := rz.cell 0
        have z1_ : w1.cell? ⟨w.heap.size + 1, 1, none⟩ = some (.int .i64 0) := rz.cell 1
        have z2_ : w1.cell? ⟨w.heap.size + 1, 2, none⟩ = some (.int .i64 0) := rz.cell 2
        have z3_ : w1.cell? ⟨w.heap.size + 1, 3, none⟩ = some (.int .i64 0) := rz.cell 3
        have z4_ : w1.cell? ⟨w.heap.size + 1, 4, none⟩ = some (.int .i64 0) := rz.cell 4
        have z5_ : w1.cell? ⟨w.heap.size + 1, 5, none⟩ = some (.int .i64 0) := rz.cell 5
        have z6_ : w1.cell? ⟨w.heap.size + 1, 6, none⟩ = some (.int .i64 0) := rz.cell 6
        have z7_ : w1.cell? ⟨w.heap.size + 1, 7, none⟩ = some (.int .i64 0) := rz.cell 7
        have z8_ : w1.cell? ⟨w.heap.size + 1, 8, none⟩ = some (.bool false) := rz.cell 8
        have hRow := nine0_row rz (.int .i64 a) (.int .i64 l) (.int .i64 (16)) (.int .i64 (n)) (.int .i64 (k : Int)) (.int .i64 t) (.int .i64 0) (.int .i64 0) (.bool false)
        have hBel := nine0_below hB (w.heap.size + 1) (by omega) (.int .i64 a) (.int .i64 l) (.int .i64 (16)) (.int .i64 (n)) (.int .i64 (k : Int)) (.int .i64 t) (.int .i64 0) (.int .i64 0) (.bool false)
        have HE : Hid _ := And.intro hRow hBel
        clear hRow hBel rz hB
        go_wp2_with fail
        obtain ⟨m1, m2⟩ := HE.out
        clear HE f0_ z0_ f1_ z1_ f2_ z2_ f3_ z3_ f4_ z4_ f5_ z5_ f6_ z6_ f7_ z7_ f8_ z8_
        unfold nine0 at m1 m2
        generalize (((((((((w1.setCell ⟨w.heap.size + 1, 0, none⟩ (.int .i64 a)).setCell ⟨w.heap.size + 1, 1, none⟩ (.int .i64 l)).setCell ⟨w.heap.size + 1, 2, none⟩ (.int .i64 (16))).setCell ⟨w.heap.size + 1, 3, none⟩ (.int .i64 (n))).setCell ⟨w.heap.size + 1, 4, none⟩ (.int .i64 (k : Int))).setCell ⟨w.heap.size + 1, 5, none⟩ (.int .i64 t)).setCell ⟨w.heap.size + 1, 6, none⟩ (.int .i64 0)).setCell ⟨w.heap.size + 1, 7, none⟩ (.int .i64 0)).setCell ⟨w.heap.size + 1, 8, none⟩ (.bool false)) = Z at *
        have e0_ : Z.cell? ⟨w.heap.size + 1, 0, none⟩ = some (.int .i64 a) := m1.cell 0
        have e1_ : Z.cell? ⟨w.heap.size + 1, 1, none⟩ = some (.int .i64 l) := m1.cell 1
        have e2_ : Z.cell? ⟨w.heap.size + 1, 2, none⟩ = some (.int .i64 (16)) := m1.cell 2
        have e3_ : Z.cell? ⟨w.heap.size + 1, 3, none⟩ = some (.int .i64 (n)) := m1.cell 3
        have e4_ : Z.cell? ⟨w.heap.size + 1, 4, none⟩ = some (.int .i64 (k : Int)) := m1.cell 4
        have e5_ : Z.cell? ⟨w.heap.size + 1, 5, none⟩ = some (.int .i64 t) := m1.cell 5
        have e6_ : Z.cell? ⟨w.heap.size + 1, 6, none⟩ = some (.int .i64 0) := m1.cell 6
        have e7_ : Z.cell? ⟨w.heap.size + 1, 7, none⟩ = some (.int .i64 0) := m1.cell 7
        have e8_ : Z.cell? ⟨w.heap.size + 1, 8, none⟩ = some (.bool false) := m1.cell 8
        exact bodyPost_ret (v := .agg #[.int .i64 a, .int .i64 l, .int .i64 (16), .int .i64 (n), .int .i64 (k : Int), .int .i64 t, .int .i64 0, .int .i64 0, .bool false]) (by simp [results, Tryz.results59, go_sem, e0_, e1_, e2_, e3_, e4_, e5_, e6_, e7_, e8_]) rfl ⟨hRV, m2⟩
end Go.Proofs.YtifckpncpjijiaaGreat
