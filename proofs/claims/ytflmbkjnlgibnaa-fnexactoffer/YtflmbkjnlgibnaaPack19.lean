/- Texts that stand on each other, in one file: NearB, OfferM, NearL. -/
import Derived.Test.YtflmbkjnlgibnaaPack17
import Derived.Test.YtflmbkjnlgibnaaPack18
import Derived.Test.YtflmbkjnlgibnaaPack11
import Derived.Test.YtflmbkjnlgibnaaPack8
/- Whom an Iface is near: by the program. (Written by gen_near2.py.) -/
namespace Go.Proofs.Ytflmbkjnlgibnaa
open Go.RowKit Go.Sort

def nearF (f : If) (x : Int) : Bool := coversB f.a f.l x && decide (x ≠ f.d)
def nearB (is : List If) (rs : List Rt) (now i x : Int) : Bool := instB is rs now && (match ifAt is i with
  | none => false
  | some f => nearF f x)
set_option maxRecDepth 100000 in
set_option maxHeartbeats 2000000 in
theorem isNear_any (f : If) (x : Int) (w : World) : Calls Try.prog 58 #[ifV f, .int .i64 x] w fun e w' => e = .returned (.bool (nearF f x)) ∧ Below w.heap.size w w' := by
  have HC : Hid (∀ w, Calls Try.prog 91 #[.agg #[.int .i64 f.a, .int .i64 f.l], .int .i64 x] w fun e w' => e = .returned (.bool (coversB f.a f.l x)) ∧ Below w.heap.size w w') := implCovers_any f.a f.l x
  obtain ⟨d, a, l, c, u⟩ := f
  unfold ifV ifA nearF
  simp only at HC ⊢
  generalize coversB a l x = B at *
  go_enter Try.func58, Try.ntmps58
  go_wp2_with fail
  refine (HC.out _).mono ?_
  rintro e w1 ⟨rfl, hb1⟩
  obtain ⟨c0, c1, c2, c3, c4, hB⟩ := box5i hb1
  clear hb1 HC
  cases B
  · go_wp2
    go_ret
    exact ⟨ret_bool (by simp), hB⟩
  · by_cases h1 : x = d
    · have z : (x != d) = false := by simpa using h1
      go_wp2
      go_ret
      exact ⟨ret_bool (by simp [h1]), hB⟩
    · have z : (x != d) = true := by simpa using h1
      go_wp2
      go_ret
      exact ⟨ret_bool (by simp [h1]), hB⟩
end Go.Proofs.Ytflmbkjnlgibnaa
/- What is offered, in plain lists. (Written by gen_offer.py.) -/
namespace Go.Proofs.Ytflmbkjnlgibnaa
open Go.RowKit Go.Sort

/-- What is told of a route by an Iface. -/
def offE (i : Int) (r : Rt) : Ent := ⟨r.a, r.l, 0, if r.i = i then 16 else r.m, r.t⟩
def offF (i : Int) (all : Bool) (r : Rt) : Option Ent := if all || r.c then some (offE i r) else none
/-- What Offer answers. -/
def offerO (is : List If) (rs : List Rt) (now i : Int) (all : Bool) : List Ent := if instB is rs now = true then (match ifAt is i with | none => [] | some f => if f.u = true then rs.filterMap (offF i all) else []) else []
theorem off_next (f : Rt → Option Ent) (rs : List Rt) (k : Nat) (hk : k < rs.length) : (rs.take (k + 1)).filterMap f = (rs.take k).filterMap f ++ (f rs[k]).toList := by
  rw [List.take_succ_eq_append_getElem hk, List.filterMap_append]
  cases h : f rs[k] <;> simp [h]
theorem off_le (f : Rt → Option Ent) (rs : List Rt) (k : Nat) : ((rs.take k).filterMap f).length ≤ rs.length := Nat.le_trans (List.length_filterMap_le _ _) (by rw [List.length_take]; omega)
theorem offerO_le (is : List If) (rs : List Rt) (now i : Int) (all : Bool) : (offerO is rs now i all).length ≤ 1000 := by
  unfold offerO
  split
  · rename_i hI
    unfold instB at hI
    simp only [Bool.and_eq_true] at hI
    have h8 := (ribB_spec hI.2.1).1
    split
    · simp
    · split
      · exact Nat.le_trans (List.length_filterMap_le _ _) (by omega)
      · simp
  · simp
end Go.Proofs.Ytflmbkjnlgibnaa
/- Is there an Iface, and is it near: by the model. (Written by gen_near2.py.) -/
namespace Go.Proofs.Ytflmbkjnlgibnaa
open Go.RowKit Go.Sort

theorem ifsB_right {is : List If} (h : ifsB is = true) (k : Nat) (hk : k < is.length) : rightB is[k].a is[k].l = true := by
  unfold ifsB at h
  simp only [Bool.and_eq_true, List.all_eq_true, List.mem_range] at h
  have := h.2 k hk
  unfold ifsOk at this
  rw [getElem!_pos is k hk] at this
  simp only [Bool.and_eq_true] at this
  have h1 := this.1
  unfold ifB at h1
  simp only [Bool.and_eq_true] at h1
  have h2 := h1.1
  unfold coversB at h2
  simp only [Bool.and_eq_true] at h2
  exact h2.1
theorem instB_ifs {is : List If} {rs : List Rt} {now : Int} (h : instB is rs now = true) : ifsB is = true ∧ ribB rs = true ∧ 0 ≤ now ∧ now ≤ 999800 := by
  unfold instB at h
  simp only [Bool.and_eq_true, decide_eq_true_eq] at h
  exact h
set_option maxRecDepth 100000 in
set_option maxHeartbeats 2000000 in
theorem l07There_any (x : Option Addr) (n1 c1 : Nat) (y : Option Addr) (n2 c2 : Nat) (now i : Int) (w : World) (hn : n1 ≤ 100000000) :
    Calls Try.prog 55 #[instV x n1 c1 y n2 c2 now, .int .i64 i] w fun e w' => e = .returned (.bool (decide (0 ≤ i ∧ i ≤ (n1 : Int) - 1))) ∧ Below w.heap.size w w' := by
  have HI : Hid (∀ w, Calls Try.prog 42 #[.int .i64 i, .int .i64 0, .int .i64 ((n1 : Int) - 1)] w fun e w' => e = .returned (.bool (decide (0 ≤ i ∧ i ≤ (n1 : Int) - 1))) ∧ w = w') := fun w => l03Is_any i 0 ((n1 : Int) - 1) w
  generalize decide (0 ≤ i ∧ i ≤ (n1 : Int) - 1) = R at *
  unfold instV
  go_enter Try.func55, Try.ntmps55
  go_wp2_with fail
  refine (HI.out _).mono ?_
  rintro e w1 ⟨rfl, rfl⟩
  go_wp2
  go_ret
  exact ⟨rfl, ent_new0 w _⟩
set_option maxRecDepth 100000 in
set_option maxHeartbeats 2000000 in
theorem l07Near_any (x : Option Addr) (c1 : Nat) (y : Option Addr) (n2 c2 : Nat) (now fr : Int) (is : List If) (k : Nat) (hk : k < is.length) (hr : rightB is[k].a is[k].l = true) (w : World) (h : IfsIn w x is) (_hn : is.length ≤ 100000000) :
    Calls Try.prog 56 #[instV x is.length c1 y n2 c2 now, .int .i64 (k : Int), .int .i64 fr] w fun e w' => e = .returned (.bool (nearF is[k] fr)) ∧ Below w.heap.size w w' := by
  have HL : Hid (∀ w, Calls Try.prog 89 #[.int .i64 fr] w fun e w' => e = .returned (.bool (inAddr fr)) ∧ w = w') := l03Addr_any fr
  have hrr : 0 ≤ is[k].l ∧ is[k].l ≤ 32 := by simp [rightB] at hr; omega
  have HC : Hid (inAddr fr = true → ∀ w, Calls Try.prog 90 #[.agg #[.int .i64 is[k].a, .int .i64 is[k].l], .int .i64 fr] w fun e w' => e = .returned (.bool (cutV fr is[k].l == is[k].a)) ∧ Below w.heap.size w w') := fun hf w => l03Covers_any is[k].a is[k].l fr w (by simp [inAddr] at hf; omega) (by simp [inAddr] at hf; omega) hrr.1 hrr.2
  have HF : Hid (nearF is[k] fr = (inAddr fr && (cutV fr is[k].l == is[k].a) && decide (fr ≠ is[k].d))) := by show _ = _; unfold nearF coversB; rw [hr, Bool.true_and]
  obtain ⟨b, d, a, l, c, u, rfl, hbl, hek, e0, e1, e2, e3, e4⟩ := h.at k hk
  rw [hek] at HC HF ⊢
  simp only at HC HF
  generalize nearF ⟨d, a, l, c, u⟩ fr = R at *
  have q0 := e0
  have hd : ∀ j v, w.cell? ⟨b, j, none⟩ = some v → (w.alloc (.cells #[.slice (some ⟨b, 0, none⟩) is.length c1, .slice y n2 c2, .int .i64 now] 35)).cell? ⟨b, j, none⟩ = some v := fun j v hv => by rw [(ent_new0 w _).cell (p := ⟨b, j, none⟩) hbl]; exact hv
  replace e0 := hd _ _ e0
  replace e1 := hd _ _ e1
  replace e2 := hd _ _ e2
  replace e3 := hd _ _ e3
  replace e4 := hd _ _ e4
  have HQ : Hid _ := And.intro (Row.new (w.alloc (.cells #[.slice (some ⟨b, 0, none⟩) is.length c1, .slice y n2 c2, .int .i64 now] 35)) 82 [.int .i64 d, .int .i64 a, .int .i64 l, .int .i64 c, .bool u]) ((ent_new0 w (.cells #[.slice (some ⟨b, 0, none⟩) is.length c1, .slice y n2 c2, .int .i64 now] 35)).alloc (by simp) (.cells #[.int .i64 d, .int .i64 a, .int .i64 l, .int .i64 c, .bool u] 82))
  clear hd q0 h hek hr hrr
  unfold instV
  have zk : (k : Int) < (is.length : Int) := by omega
  go_enter Try.func56, Try.ntmps56
  go_wp2_with fail
  clear e0 e1 e2 e3 e4
  obtain ⟨r1, hB⟩ := HQ.out
  clear HQ
  rw [show (w.alloc (.cells #[.slice (some ⟨b, 0, none⟩) is.length c1, .slice y n2 c2, .int .i64 now] 35)).heap.size = w.heap.size + 1 by simp] at r1
  generalize (w.alloc (.cells #[.slice (some ⟨b, 0, none⟩) is.length c1, .slice y n2 c2, .int .i64 now] 35)).alloc (.cells #[.int .i64 d, .int .i64 a, .int .i64 l, .int .i64 c, .bool u] 82) = W at *
  refine (HL.out _).mono ?_
  rintro e w1 ⟨rfl, rfl⟩
  have hR := HF.out
  clear HL HF
  cases hA : inAddr fr
  · rw [hA] at hR
    simp only [Bool.false_and] at hR
    go_wp2
    go_ret
    exact ⟨by rw [hR]; rfl, hB⟩
  · have HC := HC.out hA
    rw [hA, Bool.true_and] at hR
    have z1 : W.cell? ⟨w.heap.size + 1, 1, none⟩ = some (.int .i64 a) := r1.cell 1
    have z2 : W.cell? ⟨w.heap.size + 1, 2, none⟩ = some (.int .i64 l) := r1.cell 2
    generalize (cutV fr l == a) = Q at *
    go_wp2_with fail
    refine (HC _).mono ?_
    rintro e w2 ⟨rfl, hb2⟩
    have r1 := r1.below hb2 r1.lt
    have hB := hB.trans (hb2.mono hB.size)
    clear hb2 z1 z2
    cases Q
    · simp only [Bool.false_and] at hR
      go_wp2
      go_ret
      exact ⟨by rw [hR]; rfl, hB⟩
    · rw [Bool.true_and] at hR
      have z0 : w2.cell? ⟨w.heap.size + 1, 0, none⟩ = some (.int .i64 d) := r1.cell 0
      have zz : (fr != d) = R := by rw [hR]; simp [bne, Bool.beq_eq_decide_eq]
      go_wp2
      go_ret
      exact ⟨ret_bool (by first | rfl | exact zz | simpa using zz), hB⟩
end Go.Proofs.Ytflmbkjnlgibnaa
