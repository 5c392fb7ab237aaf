/- Texts that stand on each other, in one file: SetU, NearB, NearL. -/
import Derived.Test.YtcnadobnihbldaaGreatPack20
import Derived.Test.YtcnadobnihbldaaGreatPack21
import Derived.Test.YtcnadobnihbldaaGreatPack19
import Derived.Test.YtcnadobnihbldaaGreatPack11
/- An Iface that goes up or down, in a list. (Written by gen_insti.py.) -/
namespace Go.Proofs.YtcnadobnihbldaaGreat
open Go.RowKit Go.Sort

/-- The list whose k-th Iface is up, or not. -/
def setU : List If → Nat → Bool → List If
  | [], _, _ => []
  | f :: t, 0, v => ⟨f.d, f.a, f.l, f.c, v⟩ :: t
  | f :: t, k + 1, v => f :: setU t k v
theorem setU_length : ∀ (is : List If) (k : Nat) (v : Bool), (setU is k v).length = is.length
  | [], _, _ => rfl
  | _ :: _, 0, _ => rfl
  | _ :: t, k + 1, v => by show (setU t k v).length + 1 = t.length + 1; rw [setU_length t k v]
theorem setU_get : ∀ (is : List If) (k j : Nat) (v : Bool) (h : j < is.length), (setU is k v)[j]'(by rw [setU_length]; exact h) = if j = k then ⟨is[j].d, is[j].a, is[j].l, is[j].c, v⟩ else is[j]
  | [], _, _, _, h => absurd h (by simp)
  | f :: t, 0, 0, v, _ => rfl
  | f :: t, 0, j + 1, v, _ => rfl
  | f :: t, k + 1, 0, v, _ => rfl
  | f :: t, k + 1, j + 1, v, h => by
    have := setU_get t k j v (by simpa using h)
    simp only [setU, List.getElem_cons_succ, Nat.add_right_cancel_iff]
    exact this
theorem rowI_setU : ∀ (is : List If) (k : Nat) (v : Bool) (rest : List Value), k < is.length → (rowI is ++ rest).set (k * 5 + 4) (.bool v) = rowI (setU is k v) ++ rest
  | [], _, _, _, h => absurd h (by simp)
  | f :: t, 0, v, rest, _ => by
    obtain ⟨d, a, l, c, u⟩ := f
    rfl
  | f :: t, k + 1, v, rest, h => by
    have hl : (ifL f).length = 5 := rfl
    show (rowI (f :: t) ++ rest).set ((k + 1) * 5 + 4) (.bool v) = rowI (f :: setU t k v) ++ rest
    rw [rowI_cons, rowI_cons, List.append_assoc, List.append_assoc, List.set_append_right _ _ (by rw [hl]; omega), hl, show (k + 1) * 5 + 4 - 5 = k * 5 + 4 by omega, rowI_setU t k v rest (by simpa using h)]
theorem ownsI_setU {w : World} {base b n cv : Nat} {is : List If} (h : w.ownsRow base 53 5 (.slice (some ⟨b, 0, none⟩) n cv) n (rowI is)) (hn : n = is.length) (k : Nat) (hk : k < is.length) (v : Bool) : (w.setCell ⟨b, k * 5 + 4, none⟩ (.bool v)).ownsRow base 53 5 (.slice (some ⟨b, 0, none⟩) n cv) n (rowI (setU is k v)) := by
  subst hn
  rcases ownsI_opened h with h0 | ⟨g, rest, e, hb, h1, h2, hr, hl⟩
  · subst h0
    simp at hk
  · simp only [Option.some.injEq, Addr.mk.injEq, and_true] at e
    subst e
    have hr2 := hr.set (k * 5 + 4) (.bool v)
    rw [rowI_setU is k v rest hk] at hr2
    refine ownsI_shut (setU_length is k v).symm hb h1 h2 hr2 ?_
    rw [List.length_append, rowI_length, setU_length]
    rw [List.length_append, rowI_length] at hl
    exact hl
theorem atW_up {base : Nat} {is : List If} {rs : List Rt} {now : Int} {g : Nat} {w : World} (h : AtW base is rs now g w) (k : Nat) (hk : k < is.length) : ∃ b k1, w.cell? ⟨g, 1, none⟩ = some (.slice (some ⟨b, 0, none⟩) is.length k1) ∧ (∃ u, w.cell? ⟨b, k * 5 + 4, none⟩ = some u) ∧ w.frozen? ⟨b, k * 5 + 4, none⟩ = false ∧ base ≤ b ∧ b < w.heap.size ∧ (∀ t l, Row w b t l → t = 53) ∧ ∀ v, AtW base (setU is k v) rs now g (w.setCell ⟨b, k * 5 + 4, none⟩ (.bool v)) := by
  obtain ⟨q1, k1, q2, k2, hg, hr, oi, orr⟩ := h
  rcases ownsI_opened oi with h0 | ⟨b, rest, rfl, hb, h1, h2, hrb, hl⟩
  · subst h0
    simp at hk
  · have hlt : k * 5 + 4 < (rowI is ++ rest).length := by rw [List.length_append, rowI_length]; omega
    refine ⟨b, k1, hr.cell 1, Row.someI hrb _ hlt, hrb.frozen _, hb, hrb.lt, fun t l ht => ?_, fun v => ?_⟩
    · unfold Row at ht hrb
      rw [hrb] at ht
      simp only [Option.some.injEq, Obj.cells.injEq] at ht
      exact ht.2.1.symm
    · have oi' := ownsI_setU oi rfl k hk v
      have hne : g ≠ b := row_ne hr hrb (by decide)
      have hr' := hr.other (k * 5 + 4) (.bool v) hne
      have or' := ownsR_kept rfl orr (fun c t l e h => h.other (k * 5 + 4) (.bool v) (fun e2 => ownsR_ne orr hrb (by decide) (by rw [e, e2])))
      rw [← setU_length is k v] at oi' hr'
      exact ⟨_, k1, q2, k2, hg, hr', oi', or'⟩
theorem lookW_any (base : Nat) (is : List If) (rs : List Rt) (now : Int) (g : Nat) (i : Int) (up : Bool) (w : World) (h : AtW base is rs now g w) (hn : is.length ≤ 100000000) :
    Calls Tryz.prog 123 #[.pointer (some ⟨g, 0, none⟩), .int .i64 i, .bool up] w fun e w' => e = .returned (.int .i64 (lookC is i up)) ∧ Below w.heap.size w w' := by
  obtain ⟨q1, k1, q2, k2, hg, hr, oi, orr⟩ := h
  exact look_any g q2 _ k2 q1 k1 now is i up w hr (ownsI_in rfl oi) hn
end Go.Proofs.YtcnadobnihbldaaGreat
/- Whom an Iface is near: by the program. (Written by gen_near2.py.) -/
namespace Go.Proofs.YtcnadobnihbldaaGreat
open Go.RowKit Go.Sort

def nearF (f : If) (x : Int) : Bool := coversB f.a f.l x && decide (x ≠ f.d)
def nearB (is : List If) (rs : List Rt) (now i x : Int) : Bool := instB is rs now && (match ifAt is i with
  | none => false
  | some f => nearF f x)
set_option maxRecDepth 100000 in
set_option maxHeartbeats 2000000 in
theorem isNear_any (f : If) (x : Int) (w : World) : Calls Tryz.prog 124 #[ifV f, .int .i64 x] w fun e w' => e = .returned (.bool (nearF f x)) ∧ Below w.heap.size w w' := by
  have HC : Hid (∀ w, Calls Tryz.prog 136 #[.agg #[.int .i64 f.a, .int .i64 f.l], .int .i64 x] w fun e w' => e = .returned (.bool (coversB f.a f.l x)) ∧ Below w.heap.size w w') := implCovers_any f.a f.l x
  obtain ⟨d, a, l, c, u⟩ := f
  unfold ifV ifA nearF
  simp only at HC ⊢
  generalize coversB a l x = B at *
  go_enter Tryz.func124, Tryz.ntmps124
  go_wp2_with fail
  refine (HC.out _).mono ?_
  rintro e w1 ⟨rfl, hb1⟩
  obtain ⟨c0, c1, c2, c3, c4, hB⟩ := box5i hb1
  clear hb1 HC
  cases B
  · go_wp2
    go_ret
    exact ⟨ret_bool (by simp), hB⟩
  · by_cases h1 : x = d
    · have z : (x != d) = false := by simpa using h1
      go_wp2
      go_ret
      exact ⟨ret_bool (by simp [h1]), hB⟩
    · have z : (x != d) = true := by simpa using h1
      go_wp2
      go_ret
      exact ⟨ret_bool (by simp [h1]), hB⟩
end Go.Proofs.YtcnadobnihbldaaGreat
/- Is there an Iface, and is it near: by the model. (Written by gen_near2.py.) -/
namespace Go.Proofs.YtcnadobnihbldaaGreat
open Go.RowKit Go.Sort
set_option maxRecDepth 100000 in
set_option maxHeartbeats 2000000 in
theorem l07Near_any (x : Option Addr) (c1 : Nat) (y : Option Addr) (n2 c2 : Nat) (now fr : Int) (is : List If) (k : Nat) (hk : k < is.length) (hr : rightB is[k].a is[k].l = true) (w : World) (h : IfsIn w x is) (_hn : is.length ≤ 100000000) :
    Calls Tryz.prog 165 #[instV x is.length c1 y n2 c2 now, .int .i64 (k : Int), .int .i64 fr] w fun e w' => e = .returned (.bool (nearF is[k] fr)) ∧ Below w.heap.size w w' := by
  have HL : Hid (∀ w, Calls Tryz.prog 52 #[.int .i64 fr] w fun e w' => e = .returned (.bool (inAddr fr)) ∧ w = w') := l03Addr_any fr
  have hrr : 0 ≤ is[k].l ∧ is[k].l ≤ 32 := by simp [rightB] at hr; omega
  have HC : Hid (inAddr fr = true → ∀ w, Calls Tryz.prog 158 #[.agg #[.int .i64 is[k].a, .int .i64 is[k].l], .int .i64 fr] w fun e w' => e = .returned (.bool (cutV fr is[k].l == is[k].a)) ∧ Below w.heap.size w w') := fun hf w => l03Covers_any is[k].a is[k].l fr w (by simp [inAddr] at hf; omega) (by simp [inAddr] at hf; omega) hrr.1 hrr.2
  have HF : Hid (nearF is[k] fr = (inAddr fr && (cutV fr is[k].l == is[k].a) && decide (fr ≠ is[k].d))) := by show _ = _; unfold nearF coversB; rw [hr, Bool.true_and]
  obtain ⟨b, d, a, l, c, u, rfl, hbl, hek, e0, e1, e2, e3, e4⟩ := h.at k hk
  rw [hek] at HC HF ⊢
  simp only at HC HF
  generalize nearF ⟨d, a, l, c, u⟩ fr = R at *
  have q0 := e0
  have hd : ∀ j v, w.cell? ⟨b, j, none⟩ = some v → (w.alloc (.cells #[.slice (some ⟨b, 0, none⟩) is.length c1, .slice y n2 c2, .int .i64 now] 61)).cell? ⟨b, j, none⟩ = some v := fun j v hv => by rw [(ent_new0 w _).cell (p := ⟨b, j, none⟩) hbl]; exact hv
  replace e0 := hd _ _ e0
  replace e1 := hd _ _ e1
  replace e2 := hd _ _ e2
  replace e3 := hd _ _ e3
  replace e4 := hd _ _ e4
  have HQ : Hid _ := And.intro (Row.new (w.alloc (.cells #[.slice (some ⟨b, 0, none⟩) is.length c1, .slice y n2 c2, .int .i64 now] 61)) 53 [.int .i64 d, .int .i64 a, .int .i64 l, .int .i64 c, .bool u]) ((ent_new0 w (.cells #[.slice (some ⟨b, 0, none⟩) is.length c1, .slice y n2 c2, .int .i64 now] 61)).alloc (by simp) (.cells #[.int .i64 d, .int .i64 a, .int .i64 l, .int .i64 c, .bool u] 53))
  clear hd q0 h hek hr hrr
  unfold instV
  have zk : (k : Int) < (is.length : Int) := by omega
  go_enter Tryz.func165, Tryz.ntmps165
  go_wp2_with fail
  clear e0 e1 e2 e3 e4
  obtain ⟨r1, hB⟩ := HQ.out
  clear HQ
  rw [show (w.alloc (.cells #[.slice (some ⟨b, 0, none⟩) is.length c1, .slice y n2 c2, .int .i64 now] 61)).heap.size = w.heap.size + 1 by simp] at r1
  generalize (w.alloc (.cells #[.slice (some ⟨b, 0, none⟩) is.length c1, .slice y n2 c2, .int .i64 now] 61)).alloc (.cells #[.int .i64 d, .int .i64 a, .int .i64 l, .int .i64 c, .bool u] 53) = W at *
  refine (HL.out _).mono ?_
  rintro e w1 ⟨rfl, rfl⟩
  have hR := HF.out
  clear HL HF
  cases hA : inAddr fr
  · rw [hA] at hR
    simp only [Bool.false_and] at hR
    go_wp2
    go_ret
    exact ⟨by rw [hR]; rfl, hB⟩
  · have HC := HC.out hA
    rw [hA, Bool.true_and] at hR
    have z1 : W.cell? ⟨w.heap.size + 1, 1, none⟩ = some (.int .i64 a) := r1.cell 1
    have z2 : W.cell? ⟨w.heap.size + 1, 2, none⟩ = some (.int .i64 l) := r1.cell 2
    generalize (cutV fr l == a) = Q at *
    go_wp2_with fail
    refine (HC _).mono ?_
    rintro e w2 ⟨rfl, hb2⟩
    have r1 := r1.below hb2 r1.lt
    have hB := hB.trans (hb2.mono hB.size)
    clear hb2 z1 z2
    cases Q
    · simp only [Bool.false_and] at hR
      go_wp2
      go_ret
      exact ⟨by rw [hR]; rfl, hB⟩
    · rw [Bool.true_and] at hR
      have z0 : w2.cell? ⟨w.heap.size + 1, 0, none⟩ = some (.int .i64 d) := r1.cell 0
      have zz : (fr != d) = R := by rw [hR]; simp [bne, Bool.beq_eq_decide_eq]
      go_wp2
      go_ret
      exact ⟨ret_bool (by first | rfl | exact zz | simpa using zz), hB⟩

end Go.Proofs.YtcnadobnihbldaaGreat
