/- Texts that stand on each other, in one file: MarkI, ThereL, InstB, ToInst2, OpSn, MkSn, OpSe, MkSe, TenA, Ten, Tens, OwnTn, MarkSe, OpBd, MkBd, MarkBd, OpenLk, Lks, ToLks, MakeLks, MarkLw, OpTen. -/
import Derived.Test.YtialedffpaoacaaGreatDoorPack21
import Derived.Test.YtialedffpaoacaaGreatDoorPack7
import Derived.Test.YtialedffpaoacaaGreatDoorPack17
import Derived.Lib.SmallJoins
import Derived.Deep.Slices
import Derived.OwnWalk
import Derived.Test.YtialedffpaoacaaGreatDoorPack10
/- The laws' own marks in a list of Ifaces: written, and looked for; owned lists of Ifaces. (Written by gen_iout.py.) -/
namespace Go.Proofs.YtialedffpaoacaaGreatDoor
open Go.RowKit Go.Sort

def markI (K i : Nat) : If := ⟨(K : Int) + 5 * (i : Int) + 0, (K : Int) + 5 * (i : Int) + 1, (K : Int) + 5 * (i : Int) + 2, (K : Int) + 5 * (i : Int) + 3, m3 ((K : Int) + 5 * (i : Int) + 4)⟩
def marksI (K n : Nat) : List If := (List.range n).map (markI K)
theorem marksI_length (K n : Nat) : (marksI K n).length = n := by simp [marksI]
theorem ownsI_kept {w w' : World} {base : Nat} {p : Option Addr} {n cv : Nat} {xs : List Value} (h : w.ownsRow base 72 5 (.slice p n cv) n xs) (hk : ∀ b t l, p = some ⟨b, 0, none⟩ → Row w b t l → Row w' b t l) : w'.ownsRow base 72 5 (.slice p n cv) n xs := by
  refine ⟨h.1, ?_⟩
  rcases h.2 with h2 | ⟨g, cap, cur, e1, e2, e3, e4⟩
  · exact .inl h2
  · simp only [Value.slice.injEq] at e1
    obtain ⟨rfl, _, rfl⟩ := e1
    have := hk g 72 cur.toList rfl (by unfold Row; simpa using e3)
    exact .inr ⟨g, _, cur, rfl, e2, by unfold Row at this; simpa using this, e4⟩
theorem ownsI_ne {w : World} {base n cv g : Nat} {p : Option Addr} {xs l : List Value} {t : TypeId} (h : w.ownsRow base 72 5 (.slice p n cv) n xs) (hr : Row w g t l) (ht : t ≠ 72) : p ≠ some ⟨g, 0, none⟩ := by
  rintro rfl
  rcases h.2 with ⟨h1, _⟩ | ⟨g', cap, cur, h1, _, h3, _⟩
  · simp at h1
  · simp only [Value.slice.injEq, Option.some.injEq, Addr.mk.injEq, and_true] at h1
    obtain ⟨rfl, _⟩ := h1
    unfold Row at hr
    rw [h3] at hr
    simp only [Option.some.injEq, Obj.cells.injEq] at hr
    exact ht hr.2.1.symm
theorem ownsIR_ne {w : World} {base base' n cv m cm b : Nat} {p q : Option Addr} {xs ys : List Value} (h : w.ownsRow base 72 5 (.slice p n cv) n xs) (h' : w.ownsRow base' 144 9 (.slice q m cm) m ys) (e : q = some ⟨b, 0, none⟩) : p ≠ some ⟨b, 0, none⟩ := by
  subst e
  rcases h'.2 with ⟨h1, _⟩ | ⟨g', cap, cur, h1, _, h3, _⟩
  · simp at h1
  · simp only [Value.slice.injEq, Option.some.injEq, Addr.mk.injEq, and_true] at h1
    obtain ⟨rfl, _⟩ := h1
    exact ownsI_ne h (show Row w b 144 cur.toList by unfold Row; simpa using h3) (by decide)
theorem ownsRI_ne {w : World} {base base' n cv m cm b : Nat} {p q : Option Addr} {xs ys : List Value} (h : w.ownsRow base 72 5 (.slice p n cv) n xs) (h' : w.ownsRow base' 144 9 (.slice q m cm) m ys) (e : p = some ⟨b, 0, none⟩) : q ≠ some ⟨b, 0, none⟩ := fun e' => ownsIR_ne h h' e' e
theorem ownsI_base {w : World} {base n cv g : Nat} {p : Option Addr} {xs : List Value} (h : w.ownsRow base 72 5 (.slice p n cv) n xs) (hg : g < base) : p ≠ some ⟨g, 0, none⟩ := by
  rintro rfl
  have := (World.ownsRow.lt h g rfl).1
  omega
theorem ownsI_lt {w : World} {base n cv : Nat} {p : Option Addr} {xs : List Value} (h : w.ownsRow base 72 5 (.slice p n cv) n xs) : ∀ b, p = some ⟨b, 0, none⟩ → b < w.heap.size := fun b e => by
  subst e
  exact (World.ownsRow.lt h b rfl).2
theorem ownsI_row {w : World} {g n : Nat} {es : List If} (hn : n = es.length) (h8 : n ≤ 100000000) (h : Row w g 72 (rowI es)) : w.ownsRow g 72 5 (.slice (some ⟨g, 0, none⟩) n n) n (rowI es) := ownsI_shut (rest := []) hn (Nat.le_refl _) (Nat.le_refl _) (by unfold maxLen; omega) (by rw [List.append_nil]; exact h) (by rw [List.append_nil, rowI_length, hn]; omega)
theorem marksI_set (K : Nat) (es : List If) (rest : List Value) (k : Nat) (hk : k < es.length) :
    (((((rowI (marksI K k ++ es.drop k) ++ rest).set (k * 5) (.int .i64 ((K : Int) + 5 * (k : Int) + 0))).set (k * 5 + 1) (.int .i64 ((K : Int) + 5 * (k : Int) + 1))).set (k * 5 + 2) (.int .i64 ((K : Int) + 5 * (k : Int) + 2))).set (k * 5 + 3) (.int .i64 ((K : Int) + 5 * (k : Int) + 3))).set (k * 5 + 4) (.bool (m3 ((K : Int) + 5 * (k : Int) + 4))) = rowI (marksI K (k + 1) ++ es.drop (k + 1)) ++ rest := by
  have e1 : marksI K (k + 1) = marksI K k ++ [markI K k] := by simp [marksI, List.range_succ]
  rw [List.drop_eq_getElem_cons hk, e1, rowI_append, rowI_cons, List.append_assoc (marksI K k), rowI_append, List.singleton_append, rowI_cons, List.append_assoc, List.append_assoc, List.append_assoc, List.append_assoc]
  exact set5i _ _ k (by rw [rowI_length, marksI_length]; omega) _ _ _ _ _ _ _ _ _ _
set_option maxRecDepth 100000 in
set_option maxHeartbeats 2000000 in
theorem markIfaceS_in (K g n cv : Nat) (es : List If) (rest : List Value) (w : World) (hn : n = es.length) (hK : K ≤ 100000000) (h8 : n ≤ 100000000) (hr : Row w g 72 (rowI es ++ rest)) :
    Calls Tryz.prog 67 #[.slice (some ⟨g, 0, none⟩) n cv, .int .i64 K] w fun e w' => e = .returned (.int .i64 ((K : Int) + 5 * (n : Int))) ∧ Row w' g 72 (rowI (marksI K n) ++ rest) ∧ Below g w w' ∧ ∀ b t l, b ≠ g → Row w b t l → Row w' b t l := by
  have HN : Hid (n = es.length) := hn
  have hr0 : Row w g 72 (rowI (marksI K 0 ++ es.drop 0) ++ rest) := hr
  clear hn hr
  go_enter Tryz.func67, Tryz.ntmps67
  go_wp2_with fail
  go_loopw [5, 1] (fun i m wr => ∃ k : Nat, k ≤ n ∧ i = .int .i64 k ∧ m = .int .i64 ((K : Int) + 5 * (k : Int)) ∧ Row wr g 72 (rowI (marksI K k ++ es.drop k) ++ rest) ∧ Below g w wr ∧ ∀ b t l, b ≠ g → Row w b t l → Row wr b t l) (fun i _ _ => n - (intOf i).toNat)
  case atStart => exact ⟨0, Nat.zero_le _, rfl, by go_num, hr0, Below.refl _ _, fun _ _ _ _ h => h⟩
  case round =>
    obtain ⟨k, hk, rfl, rfl, hr, hb, hoth⟩ := hrel
    have HOT : Hid (∀ b t l, b ≠ g → Row w b t l → Row wr b t l) := hoth
    clear hr0 hoth
    by_cases hlt : k < n
    · have hlen : (marksI K k ++ es.drop k).length = n := by rw [List.length_append, marksI_length, List.length_drop, ← HN.out]; omega
      have hlr : k * 5 + 4 < (rowI (marksI K k ++ es.drop k) ++ rest).length := by rw [List.length_append, rowI_length, hlen]; omega
      obtain ⟨z0, c0⟩ := Row.someI hr (k * 5) (by omega)
      obtain ⟨z1, c1⟩ := Row.someI hr (k * 5 + 1) (by omega)
      obtain ⟨z2, c2⟩ := Row.someI hr (k * 5 + 2) (by omega)
      obtain ⟨z3, c3⟩ := Row.someI hr (k * 5 + 3) (by omega)
      obtain ⟨z4, c4⟩ := Row.someI hr (k * 5 + 4) (by omega)
      have f0 := hr.frozen (k * 5)
      have f1 := hr.frozen (k * 5 + 1)
      have f2 := hr.frozen (k * 5 + 2)
      have f3 := hr.frozen (k * 5 + 3)
      have f4 := hr.frozen (k * 5 + 4)
      have hr2 := fiveI_row hr (k * 5) (.int .i64 ((K : Int) + 5 * (k : Int) + 0)) (.int .i64 ((K : Int) + 5 * (k : Int) + 1)) (.int .i64 ((K : Int) + 5 * (k : Int) + 2)) (.int .i64 ((K : Int) + 5 * (k : Int) + 3)) (.bool (m3 ((K : Int) + 5 * (k : Int) + 4)))
      rw [marksI_set K es rest k (by rw [← HN.out]; exact hlt)] at hr2
      have hB2 := fiveI_below hb g (k * 5) (Nat.le_refl _) (.int .i64 ((K : Int) + 5 * (k : Int) + 0)) (.int .i64 ((K : Int) + 5 * (k : Int) + 1)) (.int .i64 ((K : Int) + 5 * (k : Int) + 2)) (.int .i64 ((K : Int) + 5 * (k : Int) + 3)) (.bool (m3 ((K : Int) + 5 * (k : Int) + 4)))
      have hO2 := fun b t l (hne : b ≠ g) (h : Row w b t l) => fiveI_other (HOT.out b t l hne h) hne (k * 5) (.int .i64 ((K : Int) + 5 * (k : Int) + 0)) (.int .i64 ((K : Int) + 5 * (k : Int) + 1)) (.int .i64 ((K : Int) + 5 * (k : Int) + 2)) (.int .i64 ((K : Int) + 5 * (k : Int) + 3)) (.bool (m3 ((K : Int) + 5 * (k : Int) + 4)))
      unfold fiveI at hr2 hB2 hO2
      have HH : Hid _ := And.intro hr2 (And.intro hB2 hO2)
      clear hr hb hr2 hB2 hlen hlr hO2 HOT
      go_wp2_with fail
      rw [show (K : Int) + 5 * (k : Int) + 1 + 1 + 1 + 1 + 1 = (K : Int) + 5 * ((k + 1 : Nat) : Int) by omega, show (K : Int) + 5 * (k : Int) + 1 + 1 + 1 + 1 = (K : Int) + 5 * (k : Int) + 4 by omega, show (K : Int) + 5 * (k : Int) + 1 + 1 + 1 = (K : Int) + 5 * (k : Int) + 3 by omega, show (K : Int) + 5 * (k : Int) + 1 + 1 = (K : Int) + 5 * (k : Int) + 2 by omega]
      refine ⟨⟨k + 1, hlt, by go_num, rfl, HH.out.1, HH.out.2.1, HH.out.2.2⟩, ?_⟩
      simp [intOf]
      omega
    · obtain rfl : k = n := by omega
      have hre : marksI K k ++ es.drop k = marksI K k := by rw [HN.out, List.drop_length, List.append_nil]
      rw [hre] at hr
      clear hlt hk hre
      go_wp2
      go_ret
      exact ⟨rfl, hr, hb, HOT.out⟩
set_option maxRecDepth 100000 in
set_option maxHeartbeats 2000000 in
theorem heldIfaceS_in (K : Nat) (p : Option Addr) (n cv : Nat) (w : World) (hK : K ≤ 100000000) (h8 : n ≤ 100000000) (hE : IfsIn w p (marksI K n)) :
    Calls Tryz.prog 72 #[.slice p n cv, .int .i64 K] w fun e w' => e = .returned (.int .i64 ((K : Int) + 5 * (n : Int))) ∧ w = w' := by
  have HX : Hid (IfsIn w p (marksI K n)) := hE
  clear hE
  go_enter Tryz.func72, Tryz.ntmps72
  go_wp2_with fail
  go_loop [5, 1] (fun i m => ∃ k : Nat, k ≤ n ∧ i = .int .i64 k ∧ m = .int .i64 ((K : Int) + 5 * (k : Int))) (fun i _ => n - (intOf i).toNat)
  case atStart => exact ⟨0, Nat.zero_le _, rfl, by go_num⟩
  case round =>
    obtain ⟨k, hk, rfl, rfl⟩ := hrel
    by_cases hlt : k < n
    · obtain ⟨g, y0, y1, y2, y3, y4, rfl, hg, hek, c0, c1, c2, c3, c4⟩ := HX.out.at k (by rw [marksI_length]; exact hlt)
      have hmk : (marksI K n)[k]'(by rw [marksI_length]; exact hlt) = markI K k := by simp [marksI]
      rw [hmk] at hek
      simp only [markI, If.mk.injEq] at hek
      obtain ⟨rfl, rfl, rfl, rfl, rfl⟩ := hek
      rw [Int.add_zero] at c0
      rw [show (K : Int) + 5 * (k : Int) + 1 = (K : Int) + 5 * (k : Int) + 1 by omega] at c1
      rw [show (K : Int) + 5 * (k : Int) + 2 = (K : Int) + 5 * (k : Int) + 1 + 1 by omega] at c2
      rw [show (K : Int) + 5 * (k : Int) + 3 = (K : Int) + 5 * (k : Int) + 1 + 1 + 1 by omega] at c3
      rw [show (K : Int) + 5 * (k : Int) + 4 = (K : Int) + 5 * (k : Int) + 1 + 1 + 1 + 1 by omega] at c4
      clear hmk
      unfold m3 at c4
      have hx : ((((K : Int) + 5 * (k : Int) + 1 + 1 + 1 + 1).tmod 3 == 0) != (((K : Int) + 5 * (k : Int) + 1 + 1 + 1 + 1).tmod 3 == 0)) = false := by simp
      go_wp2_with fail
      refine ⟨⟨k + 1, hlt, by go_num, by go_num⟩, ?_⟩
      simp [intOf]
      omega
    · obtain rfl : k = n := by omega
      clear hlt hk
      go_wp2
      go_ret
      exact ⟨rfl, rfl⟩
set_option maxRecDepth 100000 in
set_option maxHeartbeats 2000000 in
theorem markIfaceS_0 (K : Nat) (p : Option Addr) (cv : Nat) (w : World) : Calls Tryz.prog 67 #[.slice p 0 cv, .int .i64 K] w fun e w' => e = .returned (.int .i64 K) ∧ w = w' := by
  go_enter Tryz.func67, Tryz.ntmps67
  go_wp2_with fail
  go_loop [5, 1] (fun i k => i = .int .i64 0 ∧ k = .int .i64 K) (fun _ _ => 0)
  case atStart => exact ⟨rfl, rfl⟩
  case round =>
    obtain ⟨rfl, rfl⟩ := hrel
    go_wp2
    go_ret
    exact ⟨rfl, rfl⟩
theorem markIfaceS_any (K : Nat) (p : Option Addr) (n cv base : Nat) (es : List If) (w : World) (hn : n = es.length) (hK : K ≤ 100000000) (h8 : n ≤ 100000000) (h : w.ownsRow base 72 5 (.slice p n cv) n (rowI es)) :
    Calls Tryz.prog 67 #[.slice p n cv, .int .i64 K] w fun e w' => e = .returned (.int .i64 ((K : Int) + 5 * (n : Int))) ∧ w'.ownsRow base 72 5 (.slice p n cv) n (rowI (marksI K n)) ∧ Below base w w' ∧ ∀ b t l, p ≠ some ⟨b, 0, none⟩ → Row w b t l → Row w' b t l := by
  subst hn
  rcases ownsI_opened h with h0 | ⟨g, rest, rfl, hb, h1, h2, hr, hl⟩
  · subst h0
    exact (markIfaceS_0 K p cv w).mono fun e w' ⟨he, hw⟩ => ⟨by rw [he]; simp, hw ▸ h, hw ▸ Below.refl _ _, fun _ _ _ _ h => hw ▸ h⟩
  · refine (markIfaceS_in K g _ cv es rest w rfl hK h8 hr).mono fun e w' ⟨he, hr', hb', ho'⟩ => ⟨he, ownsI_shut (marksI_length K _).symm hb h1 h2 hr' ?_, hb'.mono hb, fun b t l hp h => ho' b t l (fun e => hp (by rw [e])) h⟩
    rw [List.length_append, rowI_length, marksI_length]
    rw [List.length_append, rowI_length] at hl
    exact hl
end Go.Proofs.YtialedffpaoacaaGreatDoor
/- Is there such an iface? By the model. -/
namespace Go.Proofs.YtialedffpaoacaaGreatDoor
open Go.RowKit Go.Sort

set_option maxRecDepth 100000 in
set_option maxHeartbeats 2000000 in
theorem l07There_any (x : Option Addr) (n1 c1 : Nat) (y : Option Addr) (n2 c2 : Nat) (now i : Int) (w : World) (hn : n1 ≤ 100000000) :
    Calls Tryz.prog 19 #[instV x n1 c1 y n2 c2 now, .int .i64 i] w fun e w' => e = .returned (.bool (decide (0 ≤ i ∧ i ≤ (n1 : Int) - 1))) ∧ Below w.heap.size w w' := by
  have HI : Hid (∀ w, Calls Tryz.prog 43 #[.int .i64 i, .int .i64 0, .int .i64 ((n1 : Int) - 1)] w fun e w' => e = .returned (.bool (decide (0 ≤ i ∧ i ≤ (n1 : Int) - 1))) ∧ w = w') := fun w => l03Is_any i 0 ((n1 : Int) - 1) w
  generalize decide (0 ≤ i ∧ i ≤ (n1 : Int) - 1) = R at *
  unfold instV
  go_enter Tryz.func19, Tryz.ntmps19
  go_wp2_with fail
  refine (HI.out _).mono ?_
  rintro e w1 ⟨rfl, rfl⟩
  go_wp2
  go_ret
  exact ⟨rfl, ent_new0 w _⟩
end Go.Proofs.YtialedffpaoacaaGreatDoor
/- Is there an Iface, and is it near: by the model. (Written by gen_near2.py.) -/
namespace Go.Proofs.YtialedffpaoacaaGreatDoor
open Go.RowKit Go.Sort

theorem ifsB_right {is : List If} (h : ifsB is = true) (k : Nat) (hk : k < is.length) : rightB is[k].a is[k].l = true := by
  unfold ifsB at h
  simp only [Bool.and_eq_true, List.all_eq_true, List.mem_range] at h
  have := h.2 k hk
  unfold ifsOk at this
  rw [getElem!_pos is k hk] at this
  simp only [Bool.and_eq_true] at this
  have h1 := this.1
  unfold ifB at h1
  simp only [Bool.and_eq_true] at h1
  have h2 := h1.1
  unfold coversB at h2
  simp only [Bool.and_eq_true] at h2
  exact h2.1
theorem instB_ifs {is : List If} {rs : List Rt} {now : Int} (h : instB is rs now = true) : ifsB is = true ∧ ribB rs = true ∧ 0 ≤ now ∧ now ≤ 999800 := by
  unfold instB at h
  simp only [Bool.and_eq_true, decide_eq_true_eq] at h
  exact h
end Go.Proofs.YtialedffpaoacaaGreatDoor
/- An Inst handed over: its lists are new. (Written by gen_iout.py.) -/
namespace Go.Proofs.YtialedffpaoacaaGreatDoor
open Go.RowKit Go.Sort

set_option maxRecDepth 100000 in
set_option maxHeartbeats 4000000 in
theorem toInst_new (x : Option Addr) (c1 : Nat) (y : Option Addr) (c2 : Nat) (is : List If) (rs : List Rt) (now : Int) (w : World) (h1 : ArgI w x is.length is) (h2 : ArgR w y rs.length rs) (hn1 : is.length ≤ 1048576) (hn2 : rs.length ≤ 1048576) :
    Calls Tryz.prog 90 #[instV x is.length c1 y rs.length c2 now] w fun e w' => ∃ g h, e = .returned (instV (some ⟨g, 0, none⟩) is.length is.length (some ⟨h, 0, none⟩) rs.length rs.length now) ∧ w.heap.size ≤ g ∧ w.heap.size ≤ h ∧ Row w' g 72 (rowI is) ∧ Row w' h 144 (rowR rs) ∧ Below w.heap.size w w' := by
  have HI : Hid (∀ w, ArgI w x is.length is → Calls Tryz.prog 129 #[.slice x is.length c1] w fun e w' => ∃ g, e = .returned (.slice (some ⟨g, 0, none⟩) is.length is.length) ∧ w.heap.size ≤ g ∧ Row w' g 72 (rowI is) ∧ Below w.heap.size w w') := fun w h => toIfaceS_any x c1 is w h hn1
  have HR : Hid (∀ w, ArgR w y rs.length rs → Calls Tryz.prog 130 #[.agg #[.slice y rs.length c2]] w fun e w' => ∃ g, e = .returned (.agg #[.slice (some ⟨g, 0, none⟩) rs.length rs.length]) ∧ w.heap.size ≤ g ∧ Row w' g 144 (rowR rs) ∧ Below w.heap.size w w') := fun w h => toRib_any y c2 rs w h hn2
  have HX : Hid (ArgI w x is.length is ∧ ArgR w y rs.length rs) := ⟨h1, h2⟩
  clear h1 h2 hn1 hn2
  unfold instV
  generalize is.length = n1 at *
  generalize rs.length = n2 at *
  obtain ⟨W, hW, q0, q1, q2, hB, hS⟩ := three_new w [.slice x n1 c1, .slice y n2 c2, .int .i64 now] [.slice none 0 0, .slice none 0 0, .int .i64 0] [.slice none 0 0, .slice none 0 0, .int .i64 0] 88 51 51
  have HW : Hid _ := hW
  have HQ : Hid _ := And.intro q0 (And.intro q1 (And.intro q2 hB))
  clear hW q0 q1 q2 hB
  go_enter Tryz.func90, Tryz.ntmps90
  go_wp2_with fail
  rw [← HW.out]
  obtain ⟨q0, q1, q2, hB⟩ := HQ.out
  refine (HI.out _ (HX.out.1.below hB)).mono ?_
  rintro e w1 ⟨g, rfl, hg, rg, hb1⟩
  have q0 := q0.below hb1 q0.lt
  have q1 := q1.below hb1 q1.lt
  have q2 := q2.below hb1 q2.lt
  have hB := hB.trans (hb1.mono (by omega))
  have hs1 := hb1.size
  clear hb1 HI HW HQ
  have x1 : w1.cell? ⟨w.heap.size, 1, none⟩ = some (.slice y n2 c2) := q0.cell 1
  have f0 : w1.frozen? ⟨w.heap.size + 1 + 1, 0, none⟩ = false := q2.frozen 0
  have z0 : w1.cell? ⟨w.heap.size + 1 + 1, 0, none⟩ = some (.slice none 0 0) := q2.cell 0
  have HE : Hid _ := And.intro (q0.other 0 (.slice (some ⟨g, 0, none⟩) n1 n1) (show w.heap.size ≠ w.heap.size + 1 + 1 by omega)) (And.intro (q1.other 0 (.slice (some ⟨g, 0, none⟩) n1 n1) (show w.heap.size + 1 ≠ w.heap.size + 1 + 1 by omega)) (And.intro (q2.set 0 (.slice (some ⟨g, 0, none⟩) n1 n1)) (And.intro (rg.other 0 (.slice (some ⟨g, 0, none⟩) n1 n1) (show g ≠ w.heap.size + 1 + 1 by omega)) (hB.setCell (p := ⟨w.heap.size + 1 + 1, 0, none⟩) (by show w.heap.size ≤ w.heap.size + 1 + 1; omega) (.slice (some ⟨g, 0, none⟩) n1 n1)))))
  clear q0 q1 q2 rg hB
  go_wp2_with fail
  clear x1 f0 z0
  have hsz : (w1.setCell ⟨w.heap.size + 1 + 1, 0, none⟩ (.slice (some ⟨g, 0, none⟩) n1 n1)).heap.size = w1.heap.size := by simp
  generalize w1.setCell ⟨w.heap.size + 1 + 1, 0, none⟩ (.slice (some ⟨g, 0, none⟩) n1 n1) = W1 at *
  obtain ⟨q0, q1, q2, rg, hB⟩ := HE.out
  clear HE
  refine (HR.out _ (HX.out.2.below hB)).mono ?_
  rintro e w2 ⟨h, rfl, hh, rh, hb2⟩
  have q0 := q0.below hb2 q0.lt
  have q1 := q1.below hb2 q1.lt
  have q2 := q2.below hb2 q2.lt
  have rg := rg.below hb2 rg.lt
  have hB := hB.trans (hb2.mono hB.size)
  clear hb2 HR
  have x2 : w2.cell? ⟨w.heap.size, 2, none⟩ = some (.int .i64 now) := q0.cell 2
  have a0 : w2.cell? ⟨w.heap.size + 1 + 1, 0, none⟩ = some (.slice (some ⟨g, 0, none⟩) n1 n1) := q2.cell 0
  have f0 : w2.frozen? ⟨w.heap.size + 1 + 1, 0, none⟩ = false := q2.frozen 0
  have a1 : w2.cell? ⟨w.heap.size + 1 + 1, 1, none⟩ = some (.slice none 0 0) := q2.cell 1
  have f1 : w2.frozen? ⟨w.heap.size + 1 + 1, 1, none⟩ = false := q2.frozen 1
  have a2 : w2.cell? ⟨w.heap.size + 1 + 1, 2, none⟩ = some (.int .i64 0) := q2.cell 2
  have f2 : w2.frozen? ⟨w.heap.size + 1 + 1, 2, none⟩ = false := q2.frozen 2
  have b0 : w2.cell? ⟨w.heap.size + 1, 0, none⟩ = some (.slice none 0 0) := q1.cell 0
  have e0 : w2.frozen? ⟨w.heap.size + 1, 0, none⟩ = false := q1.frozen 0
  have b1 : w2.cell? ⟨w.heap.size + 1, 1, none⟩ = some (.slice none 0 0) := q1.cell 1
  have e1 : w2.frozen? ⟨w.heap.size + 1, 1, none⟩ = false := q1.frozen 1
  have b2 : w2.cell? ⟨w.heap.size + 1, 2, none⟩ = some (.int .i64 0) := q1.cell 2
  have e2 : w2.frozen? ⟨w.heap.size + 1, 2, none⟩ = false := q1.frozen 2
  have hGG : w.heap.size ≤ g := by omega
  have hHH : w.heap.size ≤ h := by omega
  have ng2 : g ≠ w.heap.size + 1 + 1 := by omega
  have ng1 : g ≠ w.heap.size + 1 := by omega
  have nh2 : h ≠ w.heap.size + 1 + 1 := by omega
  have nh1 : h ≠ w.heap.size + 1 := by omega
  have n12 : w.heap.size + 1 ≠ w.heap.size + 1 + 1 := by omega
  have HF : Hid (Row (((((w2.setCell ⟨w.heap.size + 1 + 1, 1, none⟩ (.slice (some ⟨h, 0, none⟩) n2 n2)).setCell ⟨w.heap.size + 1 + 1, 2, none⟩ (.int .i64 now)).setCell ⟨w.heap.size + 1, 0, none⟩ (.slice (some ⟨g, 0, none⟩) n1 n1)).setCell ⟨w.heap.size + 1, 1, none⟩ (.slice (some ⟨h, 0, none⟩) n2 n2)).setCell ⟨w.heap.size + 1, 2, none⟩ (.int .i64 now)) (w.heap.size + 1) 51 [.slice (some ⟨g, 0, none⟩) n1 n1, .slice (some ⟨h, 0, none⟩) n2 n2, .int .i64 now] ∧ Row (((((w2.setCell ⟨w.heap.size + 1 + 1, 1, none⟩ (.slice (some ⟨h, 0, none⟩) n2 n2)).setCell ⟨w.heap.size + 1 + 1, 2, none⟩ (.int .i64 now)).setCell ⟨w.heap.size + 1, 0, none⟩ (.slice (some ⟨g, 0, none⟩) n1 n1)).setCell ⟨w.heap.size + 1, 1, none⟩ (.slice (some ⟨h, 0, none⟩) n2 n2)).setCell ⟨w.heap.size + 1, 2, none⟩ (.int .i64 now)) g 72 (rowI is) ∧ Row (((((w2.setCell ⟨w.heap.size + 1 + 1, 1, none⟩ (.slice (some ⟨h, 0, none⟩) n2 n2)).setCell ⟨w.heap.size + 1 + 1, 2, none⟩ (.int .i64 now)).setCell ⟨w.heap.size + 1, 0, none⟩ (.slice (some ⟨g, 0, none⟩) n1 n1)).setCell ⟨w.heap.size + 1, 1, none⟩ (.slice (some ⟨h, 0, none⟩) n2 n2)).setCell ⟨w.heap.size + 1, 2, none⟩ (.int .i64 now)) h 144 (rowR rs) ∧ Below w.heap.size w (((((w2.setCell ⟨w.heap.size + 1 + 1, 1, none⟩ (.slice (some ⟨h, 0, none⟩) n2 n2)).setCell ⟨w.heap.size + 1 + 1, 2, none⟩ (.int .i64 now)).setCell ⟨w.heap.size + 1, 0, none⟩ (.slice (some ⟨g, 0, none⟩) n1 n1)).setCell ⟨w.heap.size + 1, 1, none⟩ (.slice (some ⟨h, 0, none⟩) n2 n2)).setCell ⟨w.heap.size + 1, 2, none⟩ (.int .i64 now))) := ⟨((((((q1.other 1 (.slice (some ⟨h, 0, none⟩) n2 n2) n12).other 2 (.int .i64 now) n12).set 0 (.slice (some ⟨g, 0, none⟩) n1 n1)).set 1 (.slice (some ⟨h, 0, none⟩) n2 n2)).set 2 (.int .i64 now))), ((((((rg).other 1 (.slice (some ⟨h, 0, none⟩) n2 n2) ng2).other 2 (.int .i64 now) ng2).other 0 (.slice (some ⟨g, 0, none⟩) n1 n1) ng1).other 1 (.slice (some ⟨h, 0, none⟩) n2 n2) ng1).other 2 (.int .i64 now) ng1), ((((((rh).other 1 (.slice (some ⟨h, 0, none⟩) n2 n2) nh2).other 2 (.int .i64 now) nh2).other 0 (.slice (some ⟨g, 0, none⟩) n1 n1) nh1).other 1 (.slice (some ⟨h, 0, none⟩) n2 n2) nh1).other 2 (.int .i64 now) nh1), (((((hB.setCell (p := ⟨w.heap.size + 1 + 1, 1, none⟩) (by show w.heap.size ≤ w.heap.size + 1 + 1; omega) (.slice (some ⟨h, 0, none⟩) n2 n2)).setCell (p := ⟨w.heap.size + 1 + 1, 2, none⟩) (by show w.heap.size ≤ w.heap.size + 1 + 1; omega) (.int .i64 now)).setCell (p := ⟨w.heap.size + 1, 0, none⟩) (by show w.heap.size ≤ w.heap.size + 1; omega) (.slice (some ⟨g, 0, none⟩) n1 n1)).setCell (p := ⟨w.heap.size + 1, 1, none⟩) (by show w.heap.size ≤ w.heap.size + 1; omega) (.slice (some ⟨h, 0, none⟩) n2 n2)).setCell (p := ⟨w.heap.size + 1, 2, none⟩) (by show w.heap.size ≤ w.heap.size + 1; omega) (.int .i64 now))⟩
  clear q0 q1 q2 rg rh hB
  go_wp2_with fail
  have hF := HF.out
  clear HF x2 a0 f0 b0 e0 a1 f1 b1 e1 a2 f2 b2 e2
  generalize (((((w2.setCell ⟨w.heap.size + 1 + 1, 1, none⟩ (.slice (some ⟨h, 0, none⟩) n2 n2)).setCell ⟨w.heap.size + 1 + 1, 2, none⟩ (.int .i64 now)).setCell ⟨w.heap.size + 1, 0, none⟩ (.slice (some ⟨g, 0, none⟩) n1 n1)).setCell ⟨w.heap.size + 1, 1, none⟩ (.slice (some ⟨h, 0, none⟩) n2 n2)).setCell ⟨w.heap.size + 1, 2, none⟩ (.int .i64 now)) = Z at *
  obtain ⟨k1, k2, k3, k4⟩ := hF
  have e0 : Z.cell? ⟨w.heap.size + 1, 0, none⟩ = some (.slice (some ⟨g, 0, none⟩) n1 n1) := k1.cell 0
  have e1 : Z.cell? ⟨w.heap.size + 1, 1, none⟩ = some (.slice (some ⟨h, 0, none⟩) n2 n2) := k1.cell 1
  have e2 : Z.cell? ⟨w.heap.size + 1, 2, none⟩ = some (.int .i64 now) := k1.cell 2
  exact bodyPost_ret (v := .agg #[.slice (some ⟨g, 0, none⟩) n1 n1, .slice (some ⟨h, 0, none⟩) n2 n2, .int .i64 now]) (by simp [results, Tryz.results90, go_sem, e0, e1, e2]) rfl ⟨g, h, rfl, hGG, hHH, k2, k3, k4⟩
end Go.Proofs.YtialedffpaoacaaGreatDoor
/- The laws' own Sents handed in: opened. (Written by gen_flat.py.) -/
namespace Go.Proofs.YtialedffpaoacaaGreatDoor
open Go.ChangeShapes Go.WideShapes Go.RowKit Go.Deep Go.WideElems Go.Maps Go.Joins Go.Sort

def SnW (f : Sn) : Prop := (Lit.int .i64 f.fc).wf = true ∧ f.tx.size ≤ maxLen
theorem Tryz.cellsSn : Tryz.prog.cellsOf 186 = 2 := by kernel_rfl
theorem Tryz.cellsIntSn : Tryz.prog.cellsOf 2 = 1 := by kernel_rfl
theorem Tryz.cellsStrSn : Tryz.prog.cellsOf 9 = 1 := by kernel_rfl
/-- The slice (x, len) that was handed in holds them. -/
def ArgSn (w : World) (x : Option Addr) (len : Nat) (rs : List Sn) : Prop := rs.length = len ∧ len ≤ maxLen ∧ (∀ e ∈ rs, SnW e) ∧ ∀ i, (h : i < rs.length) → ∃ p, x = some p ∧ w.cell? (p.add (i * 2)) = some (.int .i64 rs[i].fc) ∧ w.cell? (p.add (i * 2 + 1)) = some (.string rs[i].tx)
theorem ArgSn.below {w w' : World} {x : Option Addr} {len : Nat} {rs : List Sn} (h : ArgSn w x len rs) (hb : Below w.heap.size w w') : ArgSn w' x len rs := by
  obtain ⟨h1, h2, h3, h4⟩ := h
  refine ⟨h1, h2, h3, fun i hi => ?_⟩
  obtain ⟨p, hp, c0, c1⟩ := h4 i hi
  have hk : ∀ k v, w.cell? (p.add k) = some v → w'.cell? (p.add k) = some v := fun k v hv => by rw [hb.cell (World.block_lt_of_cell? w _ hv)]; exact hv
  exact ⟨p, hp, hk _ _ c0, hk _ _ c1⟩
theorem addr_moreSn (p : Addr) (m j : Nat) (hj : j ≠ 0) : p.add (m + j) = ⟨(p.add m).block, (p.add m).off + j, none⟩ := by
  rw [← Addr.add_add]
  generalize p.add m = q
  unfold Addr.add
  rw [if_neg hj]
theorem ArgSn.at {w : World} {x : Option Addr} {len : Nat} {rs : List Sn} (h : ArgSn w x len rs) (i : Nat) (hi : i < rs.length) : ∃ p fc tx, x = some p ∧ rs[i] = ⟨fc, tx⟩ ∧ w.cell? (p.add (i * 2)) = some (.int .i64 fc) ∧ w.cell? ⟨(p.add (i * 2)).block, (p.add (i * 2)).off + 1, none⟩ = some (.string tx) := by
  obtain ⟨p, hp, c0, c1⟩ := h.2.2.2 i hi
  rw [addr_moreSn _ _ _ (by omega)] at c1
  exact ⟨p, _, _, hp, rfl, c0, c1⟩
section
variable {H : Type} {enc : TypeId × Value → H} {w : World} {base : Nat} {spare : Nat → Bool} {held : Bool}
set_option maxRecDepth 100000 in
theorem open_sn {fuel : Nat} {cs : List Value} {x : DataW H × List MemPlace} (h : DataW.trod enc Tryz.prog w base spare held fuel 186 cs = some x) : ∃ f : Sn, cs = snL f ∧ SnW f := by
  obtain ⟨xs, n, _, _, hl, hx, hg⟩ := DataW.trod_struct Tryz.underlying186 h
  rw [Tryz.cellsSn] at hl
  match cs, hl, xs, hx with
  | [c0, c1], _, [y0, y1], _ =>
    have h0 : DataW.trod enc Tryz.prog w base spare held n 2 ((([c0, c1] : List Value).drop 0).take (Tryz.prog.cellsOf 2)) = [y0, y1][0]? := hg 0 _ rfl
    rw [Tryz.cellsIntSn] at h0
    replace h0 : DataW.trod enc Tryz.prog w base spare held n 2 [c0] = some y0 := h0
    obtain ⟨fc, efc, _, wfc⟩ := DataW.trod_int Tryz.underlying2 h0
    have h1 : DataW.trod enc Tryz.prog w base spare held n 9 ((([c0, c1] : List Value).drop 1).take (Tryz.prog.cellsOf 9)) = [y0, y1][1]? := hg 1 _ rfl
    rw [Tryz.cellsStrSn] at h1
    replace h1 : DataW.trod enc Tryz.prog w base spare held n 9 [c1] = some y1 := h1
    obtain ⟨tx, etx, _, wtx⟩ := DataW.trod_string Tryz.underlying9 h1
    simp only [List.cons.injEq, and_true] at efc etx
    subst efc etx
    exact ⟨⟨fc, tx⟩, rfl, wfc, wtx⟩
set_option maxRecDepth 100000 in
theorem open_sns {fuel : Nat} {v : Value} {x : DataW H × List MemPlace} (h : DataW.trod enc Tryz.prog w base spare held fuel 89 [v] = some x) : ∃ y len cap rs, v = .slice y len cap ∧ ArgSn w y len rs := by
  rcases open_slice Tryz.underlying89 h with ⟨h0, _⟩ | ⟨a, len, cap, m, n, D, Pl, h0, hb, hl, hm, hmm, _, hx⟩
  · simp only [List.cons.injEq, and_true] at h0
    exact ⟨none, 0, 0, [], h0, rfl, Nat.zero_le _, by simp, fun i hi => absurd hi (by simp)⟩
  · simp only [List.cons.injEq, and_true] at h0
    have hlm : len ≤ m := by rw [hmm]; split <;> omega
    have each : ∀ i, i < m → ∃ e : Sn, SnW e ∧ w.cell? (a.add (i * 2)) = some (.int .i64 e.fc) ∧ w.cell? (a.add (i * 2 + 1)) = some (.string e.tx) := by
      intro i hi
      obtain ⟨cs', h1, h2⟩ := hx i hi
      rw [Tryz.cellsSn] at h1
      obtain ⟨e, rfl, hw⟩ := open_sn h2
      obtain ⟨_, _, hcell⟩ := World.cells?_some h1
      have hadd : ∀ j k, (a.add j).add k = a.add (j + k) := fun j k => by
        unfold Addr.add
        by_cases hj : j = 0
        · subst hj; by_cases hk : k = 0 <;> simp [hk]
        · by_cases hk : k = 0
          · simp [hj, hk]
          · simp [hj, hk, Nat.add_assoc]
      refine ⟨e, hw, ?_⟩
      have k0 := hcell 0 (by omega)
      have k1 := hcell 1 (by omega)
      simp only [hadd, Nat.add_zero, snL] at k0 k1
      exact ⟨by simpa using k0, by simpa using k1⟩
    obtain ⟨E, hE⟩ := choose_lt (α := Sn) (p := fun i e => SnW e ∧ w.cell? (a.add (i * 2)) = some (.int .i64 e.fc) ∧ w.cell? (a.add (i * 2 + 1)) = some (.string e.tx)) each
    refine ⟨some a, len, cap, (List.range len).map E, h0, by simp, by omega, ?_, ?_⟩
    · intro e he
      simp only [List.mem_map, List.mem_range] at he
      obtain ⟨i, hi, rfl⟩ := he
      exact (hE i (by omega)).1
    · intro i hi
      simp only [List.length_map, List.length_range] at hi
      refine ⟨a, rfl, ?_⟩
      simp only [List.getElem_map, List.getElem_range]
      exact (hE i (by omega)).2
end
end Go.Proofs.YtialedffpaoacaaGreatDoor
/- The laws' own Sents handed over. (Written by gen_flat.py.) -/
namespace Go.Proofs.YtialedffpaoacaaGreatDoor
open Go.RowKit Go.Sort

set_option maxRecDepth 100000 in
theorem toSent_any (f : Sn) (w : World) : Calls Tryz.prog 131 #[snV f] w fun e w' => e = .returned (snV f) ∧ Below w.heap.size w w' := by
  obtain ⟨fc, tx⟩ := f
  unfold snV
  go_enter Tryz.func131, Tryz.ntmps131
  go_wp2
  refine bodyPost_ret (v := .agg #[.int .i64 fc, .string tx]) (by simp [results, Tryz.results131, go_sem]) rfl ⟨rfl, ?_⟩
  exact (((Below.refl _ _).alloc (Nat.le_refl _) _).alloc (by simp) _).alloc (by simp; omega) _
def twoSn (w : World) (g o : Nat) (x0 x1 : Value) : World := ((w.setCell ⟨g, o, none⟩ x0).setCell ⟨g, o + 1, none⟩ x1)
theorem twoSn_below {B : Nat} {w0 w : World} (h : Below B w0 w) (g o : Nat) (hg : B ≤ g) (x0 x1 : Value) : Below B w0 (twoSn w g o x0 x1) := ((h.setCell (p := ⟨g, o, none⟩) hg x0).setCell (p := ⟨g, o + 1, none⟩) hg x1)
theorem twoSn_row {w : World} {g : Nat} {t : TypeId} {l : List Value} (h : Row w g t l) (o : Nat) (x0 x1 : Value) : Row (twoSn w g o x0 x1) g t ((l.set (o) x0).set (o + 1) x1) := ((h.set (o) x0).set (o + 1) x1)
theorem twoSn_other {w : World} {b g : Nat} {t : TypeId} {l : List Value} (h : Row w b t l) (hne : b ≠ g) (o : Nat) (x0 x1 : Value) : Row (twoSn w g o x0 x1) b t l := ((h.other (o) x0 hne).other (o + 1) x1 hne)
theorem setSn (A R : List Value) (k : Nat) (hA : A.length = k * 2) (z0 z1 x0 x1 : Value) : (((A ++ ([z0, z1] ++ R)).set (k * 2) x0).set (k * 2 + 1) x1) = A ++ ([x0, x1] ++ R) := by
  have e : ∀ (L : List Value) (j : Nat) (x : Value), (A ++ L).set (k * 2 + j) x = A ++ L.set j x := fun L j x => by
    rw [List.set_append, if_neg (by omega), hA, Nat.add_sub_cancel_left]
  have e0 : ∀ (L : List Value) (x : Value), (A ++ L).set (k * 2) x = A ++ L.set 0 x := fun L x => e L 0 x
  rw [e0, e]
  rfl
theorem Row.someSn {w : World} {g : Nat} {t : TypeId} {l : List Value} (h : Row w g t l) (k : Nat) (hk : k < l.length) : ∃ v, w.cell? ⟨g, k, none⟩ = some v := ⟨l[k], by rw [h.cell, List.getElem?_eq_getElem hk]⟩
theorem Tryz.infoSn : (Tryz.prog.info? 142).map (fun i => (i.zero, i.size, i.bytes)) = some (some (.agg #[.int .i64 0, .string ⟨#[]⟩]), 2, 24) := by kernel_rfl
def zeroSn : Sn := ⟨0, ⟨#[]⟩⟩
theorem rowSn_zero_get (n i : Nat) (h : i < n * 2) : (rowSn (List.replicate n zeroSn))[i]? = (snL zeroSn)[i % 2]? := by
  have hi : i / 2 < (List.replicate n zeroSn).length := by simp; omega
  have := rowSn_get (List.replicate n zeroSn) (i / 2) (i % 2) hi (by omega)
  rw [show i / 2 * 2 + i % 2 = i by omega] at this
  rw [this, List.getElem_replicate]
theorem made_zeroSn (n : Nat) : (madeCells (Value.agg #[.int .i64 0, .string ⟨#[]⟩]).cells (n * 2)).toList = rowSn (List.replicate n zeroSn) := by
  apply List.ext_getElem?
  intro i
  by_cases h : i < n * 2
  · rw [rowSn_zero_get n i h]
    simp only [madeCells, Value.cells, Array.toList_map, List.getElem?_map]
    have h9 : i % 2 = 0 ∨ i % 2 = 1 := by omega
    rcases h9 with h9 | h9 <;> simp [h9, h, snL, zeroSn]
  · rw [List.getElem?_eq_none (by simp [madeCells]; omega), List.getElem?_eq_none (by rw [rowSn_length]; simp; omega)]
set_option maxRecDepth 100000 in
theorem wpList_make_sns {w : World} {ops : Array Oper} {rest : List Oper} {o : Oper} {a : Act} {Q : Exit → Act → World → Prop}
    (hgd : o.guard = none) (l c : Operand) (hop : o.op = Op.makeSlice 52 l c)
    (L : Int) (n : Nat) (hl : a.eval l = .int .i64 L) (hc : a.eval c = .int .i64 L) (hL : L = (n : Int)) (hn : n ≤ 100000000)
    (B : Nat) (w0 : World) (hb : Below B w0 w) (hB : B ≤ w.heap.size)
    (h : ∀ w', Row w' w.heap.size 142 (rowSn (List.replicate n zeroSn)) → Below B w0 w' → wpList Tryz.prog ops Q rest (a.put o.dst (.slice (some ⟨w.heap.size, 0, none⟩) n n)) w') : wpList Tryz.prog ops Q (o :: rest) a w := by
  obtain ⟨i0, hi0, hz0, hz1, hz2⟩ := info_parts Tryz.infoSn
  refine wpList_make_full w hgd l c 52 hop B 142 i0 _ 2 Tryz.underlying52 hi0 hz0 hz1 .i64 .i64 L L n hl hc hL hL (by rw [hz2]; omega) (by unfold maxLen; omega) hB ?_
  intro w' hown hgrow
  rcases hown.2 with ⟨h', _⟩ | ⟨g, cap, cur, h', hbg, hg, hnc, hcm, hcs, htake⟩
  · simp at h'
  · simp only [Value.slice.injEq, Option.some.injEq, Addr.mk.injEq, and_true, true_and] at h'
    obtain ⟨rfl, rfl⟩ := h'
    refine h w' ?_ (hb.trans ((Below.refl B w).grown hgrow hB (by intro k hk; cases hk)))
    unfold Row
    rw [hg, ← made_zeroSn, ← htake, List.take_of_length_le (by simp [hcs])]
theorem rowSn_set (es : List Sn) (k : Nat) (hk : k < es.length) (fc : Int) (tx : ByteArray) (he : es[k] = ⟨fc, tx⟩) :
    (((rowSn (es.take k ++ List.replicate (es.length - k) zeroSn)).set (k * 2) (.int .i64 fc)).set (k * 2 + 1) (.string tx)) = rowSn (es.take (k + 1) ++ List.replicate (es.length - (k + 1)) zeroSn) := by
  have e1 : es.length - k = (es.length - (k + 1)) + 1 := by omega
  rw [e1, List.replicate_succ, rowSn_append, rowSn_cons, List.take_succ_eq_append_getElem hk, List.append_assoc, rowSn_append, List.singleton_append, rowSn_cons, he]
  exact setSn _ _ k (by rw [rowSn_length, List.length_take]; omega) _ _ _ _
set_option maxRecDepth 100000 in
theorem toSentS_any (x : Option Addr) (cap : Nat) (es : List Sn) (w : World) (h : ArgSn w x es.length es) (hn : es.length ≤ 1048576) :
    Calls Tryz.prog 91 #[.slice x es.length cap] w fun e w' => ∃ g, e = .returned (.slice (some ⟨g, 0, none⟩) es.length es.length) ∧ w.heap.size ≤ g ∧ Row w' g 142 (rowSn es) ∧ Below w.heap.size w w' := by
  have HE : Hid (∀ e w, Calls Tryz.prog 131 #[snV e] w fun r w' => r = .returned (snV e) ∧ Below w.heap.size w w') := toSent_any
  have HX : Hid (ArgSn w x es.length es) := h
  clear h
  go_enter Tryz.func91, Tryz.ntmps91
  go_wp2_with (at_make; refine wpList_make_sns rfl _ _ rfl _ es.length rfl rfl rfl (by omega) w.heap.size w (Below.refl _ _) (Nat.le_refl _) ?_)
  intro w0 hr0 hb0
  have hz : es.take 0 ++ List.replicate (es.length - 0) zeroSn = List.replicate es.length zeroSn := by simp
  rw [← hz] at hr0
  clear hz
  go_wp2_with fail
  go_loopw [4] (fun i wr => ∃ k : Nat, k ≤ es.length ∧ i = .int .i64 k ∧ Row wr w.heap.size 142 (rowSn (es.take k ++ List.replicate (es.length - k) zeroSn)) ∧ Below w.heap.size w wr) (fun i _ => es.length - (intOf i).toNat)
  case atStart => exact ⟨0, Nat.zero_le _, rfl, hr0, hb0⟩
  case round =>
    obtain ⟨k, hk, rfl, hr, hb⟩ := hrel
    by_cases hlt : k < es.length
    · obtain ⟨p, fc, tx, rfl, hek, c0, c1⟩ := (HX.out.below hb).at k hlt
      have HEk : Hid (∀ w, Calls Tryz.prog 131 #[.agg #[.int .i64 fc, .string tx]] w fun r w' => r = .returned (.agg #[.int .i64 fc, .string tx]) ∧ Below w.heap.size w w') := HE.out ⟨fc, tx⟩
      have hset := rowSn_set es k hlt fc tx hek
      have HS : Hid _ := hset
      clear hset HE hek hr0 hb0
      go_wp2_with fail
      refine (HEk.out _).mono ?_
      rintro e w1 ⟨rfl, hb1⟩
      have hr1 := hr.below hb1 hr.lt
      have hB1 := hb.trans (hb1.mono hb.size)
      clear c0 c1 hb1 HEk hr hb
      have hlr : (rowSn (es.take k ++ List.replicate (es.length - k) zeroSn)).length = es.length * 2 := by rw [rowSn_length]; simp; omega
      obtain ⟨z0, hz0⟩ := Row.someSn hr1 (k * 2) (by omega)
      obtain ⟨z1, hz1⟩ := Row.someSn hr1 (k * 2 + 1) (by omega)
      have f0 := hr1.frozen (k * 2)
      have f1 := hr1.frozen (k * 2 + 1)
      have hr2 := twoSn_row hr1 (k * 2) (.int .i64 fc) (.string tx)
      rw [HS.out] at hr2
      have hB2 := twoSn_below hB1 w.heap.size (k * 2) (Nat.le_refl _) (.int .i64 fc) (.string tx)
      unfold twoSn at hr2 hB2
      have HH : Hid _ := And.intro hr2 hB2
      clear hr1 hB1 HS hlr hr2 hB2
      go_wp2_with fail
      go_roundw
      case rel => exact ⟨k + 1, hlt, by go_num, HH.out.1, HH.out.2⟩
      case measure => simp [intOf]; omega
    · obtain rfl : k = es.length := by omega
      rw [List.take_length, Nat.sub_self, List.replicate_zero, List.append_nil] at hr
      clear hlt hk
      go_wp2
      go_ret
      exact ⟨_, rfl, Nat.le_refl _, hr, hb⟩
set_option maxRecDepth 100000 in
theorem szSent_any (f : Sn) (L : Int) (w : World) (hw : f.tx.size ≤ maxLen) (h0 : 0 ≤ L) (h1 : L ≤ 1048576) : Calls Tryz.prog 122 #[snV f, .int .i64 L] w fun e w' => e = .returned (.int .i64 (if (f.tx.size : Int) ≤ L then L - (f.tx.size : Int) else -1)) ∧ Below w.heap.size w w' := by
  obtain ⟨fc, tx⟩ := f
  simp only at hw ⊢
  unfold maxLen at hw
  unfold snV
  have z : IntKind.i64.wrap (L - (tx.size : Int)) = L - (tx.size : Int) := wrap_i64_in _ (by omega) (by omega)
  by_cases h : (tx.size : Int) ≤ L
  · rw [if_pos h]
    have d : decide (L - (tx.size : Int) < 0) = false := by simp; omega
    go_enter Tryz.func122, Tryz.ntmps122
    go_wp2
    go_ret
    exact ⟨rfl, ent_new0 w _⟩
  · rw [if_neg h]
    have d : decide (L - (tx.size : Int) < 0) = true := by simp; omega
    go_enter Tryz.func122, Tryz.ntmps122
    go_wp2
    go_ret
    exact ⟨rfl, ent_new0 w _⟩
set_option maxHeartbeats 1000000 in
set_option maxRecDepth 100000 in
theorem szSentS_any (x : Option Addr) (cap : Nat) (es : List Sn) (L : Int) (w : World) (h : ArgSn w x es.length es) (h0 : 0 ≤ L) (h1 : L ≤ 1048576) : Calls Tryz.prog 77 #[.slice x es.length cap, .int .i64 L] w fun e w' => (∃ v : Int, e = .returned (.int .i64 v) ∧ v ≤ L ∧ (v < 0 ∨ 0 ≤ v ∧ es.length ≤ 1048576 ∧ ∀ s ∈ es, s.tx.size ≤ 1048576)) ∧ Below w.heap.size w w' := by
  have hl := h.2.1
  unfold maxLen at hl
  have HE : Hid (∀ (f : Sn) (L : Int) (w : World), f.tx.size ≤ maxLen → 0 ≤ L → L ≤ 1048576 → Calls Tryz.prog 122 #[snV f, .int .i64 L] w fun e w' => e = .returned (.int .i64 (if (f.tx.size : Int) ≤ L then L - (f.tx.size : Int) else -1)) ∧ Below w.heap.size w w') := szSent_any
  have HX : Hid (ArgSn w x es.length es) := h
  have z : IntKind.i64.wrap (L - (es.length : Int)) = L - (es.length : Int) := wrap_i64_in _ (by omega) (by omega)
  clear h
  by_cases hL : (es.length : Int) ≤ L
  case neg =>
    have d : decide (L - (es.length : Int) < 0) = true := by simp; omega
    clear HE HX
    go_enter Tryz.func77, Tryz.ntmps77
    go_wp2
    go_ret
    exact ⟨⟨_, rfl, by omega, .inl (by omega)⟩, Below.refl _ _⟩
  have d : decide (L - (es.length : Int) < 0) = false := by simp; omega
  go_enter Tryz.func77, Tryz.ntmps77
  go_wp2_with fail
  go_loopw [5, 1] (fun i m wr => ∃ (k : Nat) (v : Int), k ≤ es.length ∧ i = .int .i64 k ∧ m = .int .i64 v ∧ 0 ≤ v ∧ v ≤ L ∧ (∀ j (hj : j < es.length), j < k → es[j].tx.size ≤ 1048576) ∧ Below w.heap.size w wr) (fun i _ _ => es.length - (intOf i).toNat)
  case atStart => exact ⟨0, _, Nat.zero_le _, rfl, rfl, by omega, by omega, fun j _ hj => absurd hj (by omega), Below.refl _ _⟩
  case round =>
    obtain ⟨k, v, hk, rfl, rfl, hv0, hvL, ha, hB⟩ := hrel
    by_cases hlt : k < es.length
    · have d1 : decide ((k : Int) < (es.length : Int)) = true := by simpa using hlt
      obtain ⟨p, fc, tx, rfl, hek, c0, c1⟩ := (HX.out.below hB).at k hlt
      have hw : tx.size ≤ maxLen := by have := HX.out.2.2.1 es[k] (List.getElem_mem hlt); rw [hek] at this; exact this.2
      have HEk : Hid (∀ w, Calls Tryz.prog 122 #[.agg #[.int .i64 fc, .string tx], .int .i64 v] w fun e w' => e = .returned (.int .i64 (if (tx.size : Int) ≤ v then v - (tx.size : Int) else -1)) ∧ Below w.heap.size w w') := fun w => HE.out ⟨fc, tx⟩ v w hw hv0 (by omega)
      have HA : Hid (∀ j (hj : j < es.length), j < k → es[j].tx.size ≤ 1048576) := ha
      have HK : Hid (es[k] = ⟨fc, tx⟩) := hek
      clear HE hek ha hw
      by_cases hb : (tx.size : Int) ≤ v
      · rw [if_pos hb] at HEk
        have d2 : decide (v - (tx.size : Int) < 0) = false := by simp; omega
        go_wp2_with fail
        refine (HEk.out _).mono ?_
        rintro e w1 ⟨rfl, hb1⟩
        have hB := hB.trans (hb1.mono hB.size)
        clear c0 c1 hb1 HEk
        have HB : Hid _ := hB
        clear hB
        go_wp2
        go_roundw
        case rel => exact ⟨k + 1, _, hlt, by go_num, rfl, by omega, by omega, fun j hj hjk => by
          rcases Nat.lt_or_ge j k with h' | h'
          · exact HA.out j hj h'
          · obtain rfl : j = k := by omega
            rw [HK.out]
            simp only
            omega, HB.out⟩
        case measure => simp [intOf]; omega
      · rw [if_neg hb] at HEk
        go_wp2_with fail
        refine (HEk.out _).mono ?_
        rintro e w1 ⟨rfl, hb1⟩
        have hB := hB.trans (hb1.mono hB.size)
        clear c0 c1 hb1 HEk
        go_wp2
        go_ret
        exact ⟨⟨_, rfl, by omega, .inl (by omega)⟩, hB⟩
    · have d1 : decide ((k : Int) < (es.length : Int)) = false := by simpa using hlt
      clear HE HX
      go_wp2
      go_ret
      exact ⟨⟨_, rfl, hvL, .inr ⟨hv0, by omega, fun s hs => by
        obtain ⟨j, hj, rfl⟩ := List.mem_iff_getElem.1 hs
        exact ha j hj (by omega)⟩⟩, hB⟩
end Go.Proofs.YtialedffpaoacaaGreatDoor
/- The laws' own Seens handed in: opened. (Written by gen_flat.py.) -/
namespace Go.Proofs.YtialedffpaoacaaGreatDoor
open Go.ChangeShapes Go.WideShapes Go.RowKit Go.Deep Go.WideElems Go.Maps Go.Joins Go.Sort

def SeW (f : Se) : Prop := (Lit.int .i64 f.sf).wf = true ∧ (Lit.int .i64 f.sq).wf = true
theorem Tryz.cellsSe : Tryz.prog.cellsOf 195 = 2 := by kernel_rfl
theorem Tryz.cellsIntSe : Tryz.prog.cellsOf 2 = 1 := by kernel_rfl
/-- The slice (x, len) that was handed in holds them. -/
def ArgSe (w : World) (x : Option Addr) (len : Nat) (rs : List Se) : Prop := rs.length = len ∧ len ≤ maxLen ∧ (∀ e ∈ rs, SeW e) ∧ ∀ i, (h : i < rs.length) → ∃ p, x = some p ∧ w.cell? (p.add (i * 2)) = some (.int .i64 rs[i].sf) ∧ w.cell? (p.add (i * 2 + 1)) = some (.int .i64 rs[i].sq)
theorem ArgSe.below {w w' : World} {x : Option Addr} {len : Nat} {rs : List Se} (h : ArgSe w x len rs) (hb : Below w.heap.size w w') : ArgSe w' x len rs := by
  obtain ⟨h1, h2, h3, h4⟩ := h
  refine ⟨h1, h2, h3, fun i hi => ?_⟩
  obtain ⟨p, hp, c0, c1⟩ := h4 i hi
  have hk : ∀ k v, w.cell? (p.add k) = some v → w'.cell? (p.add k) = some v := fun k v hv => by rw [hb.cell (World.block_lt_of_cell? w _ hv)]; exact hv
  exact ⟨p, hp, hk _ _ c0, hk _ _ c1⟩
theorem addr_moreSe (p : Addr) (m j : Nat) (hj : j ≠ 0) : p.add (m + j) = ⟨(p.add m).block, (p.add m).off + j, none⟩ := by
  rw [← Addr.add_add]
  generalize p.add m = q
  unfold Addr.add
  rw [if_neg hj]
theorem ArgSe.at {w : World} {x : Option Addr} {len : Nat} {rs : List Se} (h : ArgSe w x len rs) (i : Nat) (hi : i < rs.length) : ∃ p sf sq, x = some p ∧ rs[i] = ⟨sf, sq⟩ ∧ w.cell? (p.add (i * 2)) = some (.int .i64 sf) ∧ w.cell? ⟨(p.add (i * 2)).block, (p.add (i * 2)).off + 1, none⟩ = some (.int .i64 sq) := by
  obtain ⟨p, hp, c0, c1⟩ := h.2.2.2 i hi
  rw [addr_moreSe _ _ _ (by omega)] at c1
  exact ⟨p, _, _, hp, rfl, c0, c1⟩
section
variable {H : Type} {enc : TypeId × Value → H} {w : World} {base : Nat} {spare : Nat → Bool} {held : Bool}
set_option maxRecDepth 100000 in
theorem open_se {fuel : Nat} {cs : List Value} {x : DataW H × List MemPlace} (h : DataW.trod enc Tryz.prog w base spare held fuel 195 cs = some x) : ∃ f : Se, cs = seL f ∧ SeW f := by
  obtain ⟨xs, n, _, _, hl, hx, hg⟩ := DataW.trod_struct Tryz.underlying195 h
  rw [Tryz.cellsSe] at hl
  match cs, hl, xs, hx with
  | [c0, c1], _, [y0, y1], _ =>
    have h0 : DataW.trod enc Tryz.prog w base spare held n 2 ((([c0, c1] : List Value).drop 0).take (Tryz.prog.cellsOf 2)) = [y0, y1][0]? := hg 0 _ rfl
    rw [Tryz.cellsIntSe] at h0
    replace h0 : DataW.trod enc Tryz.prog w base spare held n 2 [c0] = some y0 := h0
    obtain ⟨sf, esf, _, wsf⟩ := DataW.trod_int Tryz.underlying2 h0
    have h1 : DataW.trod enc Tryz.prog w base spare held n 2 ((([c0, c1] : List Value).drop 1).take (Tryz.prog.cellsOf 2)) = [y0, y1][1]? := hg 1 _ rfl
    rw [Tryz.cellsIntSe] at h1
    replace h1 : DataW.trod enc Tryz.prog w base spare held n 2 [c1] = some y1 := h1
    obtain ⟨sq, esq, _, wsq⟩ := DataW.trod_int Tryz.underlying2 h1
    simp only [List.cons.injEq, and_true] at esf esq
    subst esf esq
    exact ⟨⟨sf, sq⟩, rfl, wsf, wsq⟩
set_option maxRecDepth 100000 in
theorem open_ses {fuel : Nat} {v : Value} {x : DataW H × List MemPlace} (h : DataW.trod enc Tryz.prog w base spare held fuel 90 [v] = some x) : ∃ y len cap rs, v = .slice y len cap ∧ ArgSe w y len rs := by
  rcases open_slice Tryz.underlying90 h with ⟨h0, _⟩ | ⟨a, len, cap, m, n, D, Pl, h0, hb, hl, hm, hmm, _, hx⟩
  · simp only [List.cons.injEq, and_true] at h0
    exact ⟨none, 0, 0, [], h0, rfl, Nat.zero_le _, by simp, fun i hi => absurd hi (by simp)⟩
  · simp only [List.cons.injEq, and_true] at h0
    have hlm : len ≤ m := by rw [hmm]; split <;> omega
    have each : ∀ i, i < m → ∃ e : Se, SeW e ∧ w.cell? (a.add (i * 2)) = some (.int .i64 e.sf) ∧ w.cell? (a.add (i * 2 + 1)) = some (.int .i64 e.sq) := by
      intro i hi
      obtain ⟨cs', h1, h2⟩ := hx i hi
      rw [Tryz.cellsSe] at h1
      obtain ⟨e, rfl, hw⟩ := open_se h2
      obtain ⟨_, _, hcell⟩ := World.cells?_some h1
      have hadd : ∀ j k, (a.add j).add k = a.add (j + k) := fun j k => by
        unfold Addr.add
        by_cases hj : j = 0
        · subst hj; by_cases hk : k = 0 <;> simp [hk]
        · by_cases hk : k = 0
          · simp [hj, hk]
          · simp [hj, hk, Nat.add_assoc]
      refine ⟨e, hw, ?_⟩
      have k0 := hcell 0 (by omega)
      have k1 := hcell 1 (by omega)
      simp only [hadd, Nat.add_zero, seL] at k0 k1
      exact ⟨by simpa using k0, by simpa using k1⟩
    obtain ⟨E, hE⟩ := choose_lt (α := Se) (p := fun i e => SeW e ∧ w.cell? (a.add (i * 2)) = some (.int .i64 e.sf) ∧ w.cell? (a.add (i * 2 + 1)) = some (.int .i64 e.sq)) each
    refine ⟨some a, len, cap, (List.range len).map E, h0, by simp, by omega, ?_, ?_⟩
    · intro e he
      simp only [List.mem_map, List.mem_range] at he
      obtain ⟨i, hi, rfl⟩ := he
      exact (hE i (by omega)).1
    · intro i hi
      simp only [List.length_map, List.length_range] at hi
      refine ⟨a, rfl, ?_⟩
      simp only [List.getElem_map, List.getElem_range]
      exact (hE i (by omega)).2
end
end Go.Proofs.YtialedffpaoacaaGreatDoor
/- The laws' own Seens handed over. (Written by gen_flat.py.) -/
namespace Go.Proofs.YtialedffpaoacaaGreatDoor
open Go.RowKit Go.Sort

set_option maxRecDepth 100000 in
theorem toSeen_any (f : Se) (w : World) : Calls Tryz.prog 132 #[seV f] w fun e w' => e = .returned (seV f) ∧ Below w.heap.size w w' := by
  obtain ⟨sf, sq⟩ := f
  unfold seV
  go_enter Tryz.func132, Tryz.ntmps132
  go_wp2
  refine bodyPost_ret (v := .agg #[.int .i64 sf, .int .i64 sq]) (by simp [results, Tryz.results132, go_sem]) rfl ⟨rfl, ?_⟩
  exact (((Below.refl _ _).alloc (Nat.le_refl _) _).alloc (by simp) _).alloc (by simp; omega) _
def twoSe (w : World) (g o : Nat) (x0 x1 : Value) : World := ((w.setCell ⟨g, o, none⟩ x0).setCell ⟨g, o + 1, none⟩ x1)
theorem twoSe_below {B : Nat} {w0 w : World} (h : Below B w0 w) (g o : Nat) (hg : B ≤ g) (x0 x1 : Value) : Below B w0 (twoSe w g o x0 x1) := ((h.setCell (p := ⟨g, o, none⟩) hg x0).setCell (p := ⟨g, o + 1, none⟩) hg x1)
theorem twoSe_row {w : World} {g : Nat} {t : TypeId} {l : List Value} (h : Row w g t l) (o : Nat) (x0 x1 : Value) : Row (twoSe w g o x0 x1) g t ((l.set (o) x0).set (o + 1) x1) := ((h.set (o) x0).set (o + 1) x1)
theorem twoSe_other {w : World} {b g : Nat} {t : TypeId} {l : List Value} (h : Row w b t l) (hne : b ≠ g) (o : Nat) (x0 x1 : Value) : Row (twoSe w g o x0 x1) b t l := ((h.other (o) x0 hne).other (o + 1) x1 hne)
theorem setSe (A R : List Value) (k : Nat) (hA : A.length = k * 2) (z0 z1 x0 x1 : Value) : (((A ++ ([z0, z1] ++ R)).set (k * 2) x0).set (k * 2 + 1) x1) = A ++ ([x0, x1] ++ R) := by
  have e : ∀ (L : List Value) (j : Nat) (x : Value), (A ++ L).set (k * 2 + j) x = A ++ L.set j x := fun L j x => by
    rw [List.set_append, if_neg (by omega), hA, Nat.add_sub_cancel_left]
  have e0 : ∀ (L : List Value) (x : Value), (A ++ L).set (k * 2) x = A ++ L.set 0 x := fun L x => e L 0 x
  rw [e0, e]
  rfl
theorem Row.someSe {w : World} {g : Nat} {t : TypeId} {l : List Value} (h : Row w g t l) (k : Nat) (hk : k < l.length) : ∃ v, w.cell? ⟨g, k, none⟩ = some v := ⟨l[k], by rw [h.cell, List.getElem?_eq_getElem hk]⟩
theorem Tryz.infoSe : (Tryz.prog.info? 182).map (fun i => (i.zero, i.size, i.bytes)) = some (some (.agg #[.int .i64 0, .int .i64 0]), 2, 16) := by kernel_rfl
def zeroSe : Se := ⟨0, 0⟩
theorem rowSe_zero_get (n i : Nat) (h : i < n * 2) : (rowSe (List.replicate n zeroSe))[i]? = (seL zeroSe)[i % 2]? := by
  have hi : i / 2 < (List.replicate n zeroSe).length := by simp; omega
  have := rowSe_get (List.replicate n zeroSe) (i / 2) (i % 2) hi (by omega)
  rw [show i / 2 * 2 + i % 2 = i by omega] at this
  rw [this, List.getElem_replicate]
theorem made_zeroSe (n : Nat) : (madeCells (Value.agg #[.int .i64 0, .int .i64 0]).cells (n * 2)).toList = rowSe (List.replicate n zeroSe) := by
  apply List.ext_getElem?
  intro i
  by_cases h : i < n * 2
  · rw [rowSe_zero_get n i h]
    simp only [madeCells, Value.cells, Array.toList_map, List.getElem?_map]
    have h9 : i % 2 = 0 ∨ i % 2 = 1 := by omega
    rcases h9 with h9 | h9 <;> simp [h9, h, seL, zeroSe]
  · rw [List.getElem?_eq_none (by simp [madeCells]; omega), List.getElem?_eq_none (by rw [rowSe_length]; simp; omega)]
set_option maxRecDepth 100000 in
theorem wpList_make_ses {w : World} {ops : Array Oper} {rest : List Oper} {o : Oper} {a : Act} {Q : Exit → Act → World → Prop}
    (hgd : o.guard = none) (l c : Operand) (hop : o.op = Op.makeSlice 53 l c)
    (L : Int) (n : Nat) (hl : a.eval l = .int .i64 L) (hc : a.eval c = .int .i64 L) (hL : L = (n : Int)) (hn : n ≤ 100000000)
    (B : Nat) (w0 : World) (hb : Below B w0 w) (hB : B ≤ w.heap.size)
    (h : ∀ w', Row w' w.heap.size 182 (rowSe (List.replicate n zeroSe)) → Below B w0 w' → wpList Tryz.prog ops Q rest (a.put o.dst (.slice (some ⟨w.heap.size, 0, none⟩) n n)) w') : wpList Tryz.prog ops Q (o :: rest) a w := by
  obtain ⟨i0, hi0, hz0, hz1, hz2⟩ := info_parts Tryz.infoSe
  refine wpList_make_full w hgd l c 53 hop B 182 i0 _ 2 Tryz.underlying53 hi0 hz0 hz1 .i64 .i64 L L n hl hc hL hL (by rw [hz2]; omega) (by unfold maxLen; omega) hB ?_
  intro w' hown hgrow
  rcases hown.2 with ⟨h', _⟩ | ⟨g, cap, cur, h', hbg, hg, hnc, hcm, hcs, htake⟩
  · simp at h'
  · simp only [Value.slice.injEq, Option.some.injEq, Addr.mk.injEq, and_true, true_and] at h'
    obtain ⟨rfl, rfl⟩ := h'
    refine h w' ?_ (hb.trans ((Below.refl B w).grown hgrow hB (by intro k hk; cases hk)))
    unfold Row
    rw [hg, ← made_zeroSe, ← htake, List.take_of_length_le (by simp [hcs])]
theorem rowSe_set (es : List Se) (k : Nat) (hk : k < es.length) (sf : Int) (sq : Int) (he : es[k] = ⟨sf, sq⟩) :
    (((rowSe (es.take k ++ List.replicate (es.length - k) zeroSe)).set (k * 2) (.int .i64 sf)).set (k * 2 + 1) (.int .i64 sq)) = rowSe (es.take (k + 1) ++ List.replicate (es.length - (k + 1)) zeroSe) := by
  have e1 : es.length - k = (es.length - (k + 1)) + 1 := by omega
  rw [e1, List.replicate_succ, rowSe_append, rowSe_cons, List.take_succ_eq_append_getElem hk, List.append_assoc, rowSe_append, List.singleton_append, rowSe_cons, he]
  exact setSe _ _ k (by rw [rowSe_length, List.length_take]; omega) _ _ _ _
set_option maxRecDepth 100000 in
theorem toSeenS_any (x : Option Addr) (cap : Nat) (es : List Se) (w : World) (h : ArgSe w x es.length es) (hn : es.length ≤ 1048576) :
    Calls Tryz.prog 92 #[.slice x es.length cap] w fun e w' => ∃ g, e = .returned (.slice (some ⟨g, 0, none⟩) es.length es.length) ∧ w.heap.size ≤ g ∧ Row w' g 182 (rowSe es) ∧ Below w.heap.size w w' := by
  have HE : Hid (∀ e w, Calls Tryz.prog 132 #[seV e] w fun r w' => r = .returned (seV e) ∧ Below w.heap.size w w') := toSeen_any
  have HX : Hid (ArgSe w x es.length es) := h
  clear h
  go_enter Tryz.func92, Tryz.ntmps92
  go_wp2_with (at_make; refine wpList_make_ses rfl _ _ rfl _ es.length rfl rfl rfl (by omega) w.heap.size w (Below.refl _ _) (Nat.le_refl _) ?_)
  intro w0 hr0 hb0
  have hz : es.take 0 ++ List.replicate (es.length - 0) zeroSe = List.replicate es.length zeroSe := by simp
  rw [← hz] at hr0
  clear hz
  go_wp2_with fail
  go_loopw [4] (fun i wr => ∃ k : Nat, k ≤ es.length ∧ i = .int .i64 k ∧ Row wr w.heap.size 182 (rowSe (es.take k ++ List.replicate (es.length - k) zeroSe)) ∧ Below w.heap.size w wr) (fun i _ => es.length - (intOf i).toNat)
  case atStart => exact ⟨0, Nat.zero_le _, rfl, hr0, hb0⟩
  case round =>
    obtain ⟨k, hk, rfl, hr, hb⟩ := hrel
    by_cases hlt : k < es.length
    · obtain ⟨p, sf, sq, rfl, hek, c0, c1⟩ := (HX.out.below hb).at k hlt
      have HEk : Hid (∀ w, Calls Tryz.prog 132 #[.agg #[.int .i64 sf, .int .i64 sq]] w fun r w' => r = .returned (.agg #[.int .i64 sf, .int .i64 sq]) ∧ Below w.heap.size w w') := HE.out ⟨sf, sq⟩
      have hset := rowSe_set es k hlt sf sq hek
      have HS : Hid _ := hset
      clear hset HE hek hr0 hb0
      go_wp2_with fail
      refine (HEk.out _).mono ?_
      rintro e w1 ⟨rfl, hb1⟩
      have hr1 := hr.below hb1 hr.lt
      have hB1 := hb.trans (hb1.mono hb.size)
      clear c0 c1 hb1 HEk hr hb
      have hlr : (rowSe (es.take k ++ List.replicate (es.length - k) zeroSe)).length = es.length * 2 := by rw [rowSe_length]; simp; omega
      obtain ⟨z0, hz0⟩ := Row.someSe hr1 (k * 2) (by omega)
      obtain ⟨z1, hz1⟩ := Row.someSe hr1 (k * 2 + 1) (by omega)
      have f0 := hr1.frozen (k * 2)
      have f1 := hr1.frozen (k * 2 + 1)
      have hr2 := twoSe_row hr1 (k * 2) (.int .i64 sf) (.int .i64 sq)
      rw [HS.out] at hr2
      have hB2 := twoSe_below hB1 w.heap.size (k * 2) (Nat.le_refl _) (.int .i64 sf) (.int .i64 sq)
      unfold twoSe at hr2 hB2
      have HH : Hid _ := And.intro hr2 hB2
      clear hr1 hB1 HS hlr hr2 hB2
      go_wp2_with fail
      go_roundw
      case rel => exact ⟨k + 1, hlt, by go_num, HH.out.1, HH.out.2⟩
      case measure => simp [intOf]; omega
    · obtain rfl : k = es.length := by omega
      rw [List.take_length, Nat.sub_self, List.replicate_zero, List.append_nil] at hr
      clear hlt hk
      go_wp2
      go_ret
      exact ⟨_, rfl, Nat.le_refl _, hr, hb⟩
set_option maxRecDepth 100000 in
theorem szSeenS_any (x : Option Addr) (len cap : Nat) (L : Int) (w : World) (hl : len ≤ maxLen) (h0 : 0 ≤ L) (h1 : L ≤ 1048576) : Calls Tryz.prog 78 #[.slice x len cap, .int .i64 L] w fun e w' => e = .returned (.int .i64 (if (len : Int) ≤ L then L - (len : Int) else -1)) ∧ w = w' := by
  unfold maxLen at hl
  have z : IntKind.i64.wrap (L - (len : Int)) = L - (len : Int) := wrap_i64_in _ (by omega) (by omega)
  by_cases h : (len : Int) ≤ L
  · rw [if_pos h]
    have d : decide (L - (len : Int) < 0) = false := by simp; omega
    go_enter Tryz.func78, Tryz.ntmps78
    go_wp2
    go_ret
    exact ⟨rfl, rfl⟩
  · rw [if_neg h]
    have d : decide (L - (len : Int) < 0) = true := by simp; omega
    go_enter Tryz.func78, Tryz.ntmps78
    go_wp2
    go_ret
    exact ⟨rfl, rfl⟩
end Go.Proofs.YtialedffpaoacaaGreatDoor
/- A Tenant: its value; measured, handed over, alike, opened. (Written by gen_ten.py.) -/
namespace Go.Proofs.YtialedffpaoacaaGreatDoor
open Go.ChangeShapes Go.WideShapes Go.RowKit Go.Sort Go.Deep Go.Joins

def tenV (x : Option Addr) (n1 c1 : Nat) (y : Option Addr) (n2 c2 : Nat) (now : Int) (key : ByteArray) (qu : Int) (p : Option Addr) (n3 c3 : Nat) (q : Option Addr) (n4 c4 : Nat) (dr : Int) : Value := .agg #[.slice x n1 c1, .slice y n2 c2, .int .i64 now, .string key, .int .i64 qu, .slice p n3 c3, .slice q n4 c4, .int .i64 dr]
theorem box8 {w w1 : World} {x0 x1 x2 x3 x4 x5 x6 x7 : Value} {t : TypeId} (h : Below (w.alloc (.cells #[x0, x1, x2, x3, x4, x5, x6, x7] t)).heap.size (w.alloc (.cells #[x0, x1, x2, x3, x4, x5, x6, x7] t)) w1) :
    Row w1 w.heap.size t [x0, x1, x2, x3, x4, x5, x6, x7] ∧ Below w.heap.size w w1 := by
  have q := Row.new w t [x0, x1, x2, x3, x4, x5, x6, x7]
  exact ⟨q.below h q.lt, (ent_new0 w _).trans (h.mono (by simp))⟩
set_option maxRecDepth 100000 in
set_option maxHeartbeats 4000000 in
theorem szInstL_any (x : Option Addr) (n1 c1 : Nat) (y : Option Addr) (n2 c2 : Nat) (now L : Int) (w : World) (h1 : n1 ≤ maxLen) (h2 : n2 ≤ maxLen) (h0 : 0 ≤ L) (hL : L ≤ 1048576) :
    Calls Tryz.prog 76 #[instV x n1 c1 y n2 c2 now, .int .i64 L] w fun e w' => (∃ v : Int, e = .returned (.int .i64 v) ∧ v ≤ L ∧ (v < 0 ∨ 0 ≤ v ∧ n1 ≤ 1048576 ∧ n2 ≤ 1048576)) ∧ Below w.heap.size w w' := by
  have HA : Hid (∀ w, Calls Tryz.prog 120 #[.slice x n1 c1, .int .i64 L] w fun e w' => e = .returned (.int .i64 (if (n1 : Int) ≤ L then L - (n1 : Int) else -1)) ∧ w = w') := fun w => szIfaceSL_any x n1 c1 L w h1 h0 hL
  have HB : Hid (∀ L : Int, 0 ≤ L → L ≤ 1048576 → ∀ w, Calls Tryz.prog 121 #[.agg #[.slice y n2 c2], .int .i64 L] w fun e w' => e = .returned (.int .i64 (if (n2 : Int) ≤ L then L - (n2 : Int) else -1)) ∧ Below w.heap.size w w') := fun L a b w => szRibL_any y n2 c2 L w h2 a b
  unfold instV
  by_cases k1 : (n1 : Int) ≤ L
  · rw [if_pos k1] at HA
    have HB1 : Hid _ := HB.out (L - (n1 : Int)) (by omega) (by omega)
    have d1 : decide (L - (n1 : Int) < 0) = false := by simp; omega
    clear HB h1 h2
    by_cases k2 : (n2 : Int) ≤ L - (n1 : Int)
    · rw [if_pos k2] at HB1
      have d2 : decide (L - (n1 : Int) - (n2 : Int) < 0) = false := by simp; omega
      go_enter Tryz.func76, Tryz.ntmps76
      go_wp2_with fail
      refine (HA.out _).mono ?_
      rintro e w1 ⟨rfl, rfl⟩
      go_wp2_with fail
      refine (HB1.out _).mono ?_
      rintro e w2 ⟨rfl, hb2⟩
      obtain ⟨-, hB⟩ := box3i hb2
      clear hb2
      go_wp2
      go_ret
      exact ⟨⟨_, rfl, by omega, .inr ⟨by omega, by omega, by omega⟩⟩, hB⟩
    · rw [if_neg k2] at HB1
      go_enter Tryz.func76, Tryz.ntmps76
      go_wp2_with fail
      refine (HA.out _).mono ?_
      rintro e w1 ⟨rfl, rfl⟩
      go_wp2_with fail
      refine (HB1.out _).mono ?_
      rintro e w2 ⟨rfl, hb2⟩
      obtain ⟨-, hB⟩ := box3i hb2
      clear hb2
      go_wp2
      go_ret
      exact ⟨⟨_, rfl, by omega, .inl (by omega)⟩, hB⟩
  · rw [if_neg k1] at HA
    clear HB h1 h2
    go_enter Tryz.func76, Tryz.ntmps76
    go_wp2_with fail
    refine (HA.out _).mono ?_
    rintro e w1 ⟨rfl, rfl⟩
    go_wp2
    go_ret
    exact ⟨⟨_, rfl, by omega, .inl (by omega)⟩, ent_new0 w _⟩
set_option maxRecDepth 100000 in
set_option maxHeartbeats 4000000 in
theorem szTenant_any (x : Option Addr) (c1 : Nat) (y : Option Addr) (c2 : Nat) (p : Option Addr) (c3 : Nat) (q : Option Addr) (c4 : Nat) (is : List If) (rs : List Rt) (now : Int) (key : ByteArray) (qu : Int) (ss : List Sn) (es : List Se) (dr : Int) (L : Int) (w : World) (h : ArgI w x is.length is ∧ ArgR w y rs.length rs ∧ ArgSn w p ss.length ss ∧ ArgSe w q es.length es) (hk : key.size ≤ maxLen) (h0 : 0 ≤ L) (hL : L ≤ 1048576) :
    Calls Tryz.prog 39 #[tenV x is.length c1 y rs.length c2 now key qu p ss.length c3 q es.length c4 dr, .int .i64 L] w fun e w' => (∃ v : Int, e = .returned (.int .i64 v) ∧ v ≤ L ∧ (v < 0 ∨ 0 ≤ v ∧ is.length ≤ 1048576 ∧ rs.length ≤ 1048576 ∧ ss.length ≤ 1048576 ∧ es.length ≤ 1048576 ∧ key.size ≤ 1048576 ∧ ∀ s ∈ ss, s.tx.size ≤ 1048576)) ∧ Below w.heap.size w w' := by
  have HA : Hid (∀ w, Calls Tryz.prog 76 #[.agg #[.slice x is.length c1, .slice y rs.length c2, .int .i64 now], .int .i64 L] w fun e w' => (∃ v : Int, e = .returned (.int .i64 v) ∧ v ≤ L ∧ (v < 0 ∨ 0 ≤ v ∧ is.length ≤ 1048576 ∧ rs.length ≤ 1048576)) ∧ Below w.heap.size w w') := fun w => szInstL_any x is.length c1 y rs.length c2 now L w h.1.2.1 h.2.1.2.1 h0 hL
  have HC : Hid (∀ L : Int, 0 ≤ L → L ≤ 1048576 → ∀ w1, Below w.heap.size w w1 → Calls Tryz.prog 77 #[.slice p ss.length c3, .int .i64 L] w1 fun e w' => (∃ v : Int, e = .returned (.int .i64 v) ∧ v ≤ L ∧ (v < 0 ∨ 0 ≤ v ∧ ss.length ≤ 1048576 ∧ ∀ s ∈ ss, s.tx.size ≤ 1048576)) ∧ Below w1.heap.size w1 w') := fun L a b w1 hb => szSentS_any p c3 ss L w1 (h.2.2.1.below hb) a b
  have HD : Hid (∀ L : Int, 0 ≤ L → L ≤ 1048576 → ∀ w, Calls Tryz.prog 78 #[.slice q es.length c4, .int .i64 L] w fun e w' => e = .returned (.int .i64 (if (es.length : Int) ≤ L then L - (es.length : Int) else -1)) ∧ w = w') := fun L a b w => szSeenS_any q es.length c4 L w h.2.2.2.2.1 a b
  unfold maxLen at hk
  clear h
  unfold tenV
  generalize is.length = n1 at *
  generalize rs.length = n2 at *
  generalize ss.length = n3 at *
  generalize es.length = n4 at *
  go_enter Tryz.func39, Tryz.ntmps39
  go_wp2_with fail
  refine (HA.out _).mono ?_
  rintro e w1 ⟨⟨v1, rfl, hv1, hc1⟩, hb1⟩
  obtain ⟨r0, hB⟩ := box8 hb1
  clear hb1 HA
  have y3 : w1.cell? ⟨w.heap.size, 3, none⟩ = some (.string key) := r0.cell 3
  rcases hc1 with hc1 | ⟨g1, m1, m2⟩
  · have d1 : decide (v1 < 0) = true := by simpa using hc1
    clear hc1
    go_wp2
    go_ret
    exact ⟨⟨_, rfl, by omega, .inl (by omega)⟩, hB⟩
  have d1 : decide (v1 < 0) = false := by simp; omega
  have z1 : IntKind.i64.wrap (v1 - (key.size : Int)) = v1 - (key.size : Int) := wrap_i64_in _ (by omega) (by omega)
  by_cases k2 : v1 - (key.size : Int) < 0
  · have d2 : decide (v1 - (key.size : Int) < 0) = true := by simpa using k2
    go_wp2
    go_ret
    exact ⟨⟨_, rfl, by omega, .inl (by omega)⟩, hB⟩
  have d2 : decide (v1 - (key.size : Int) < 0) = false := by simpa using k2
  have y5 : w1.cell? ⟨w.heap.size, 5, none⟩ = some (.slice p n3 c3) := r0.cell 5
  go_wp2_with fail
  refine (HC.out (v1 - (key.size : Int)) (by omega) (by omega) w1 hB).mono ?_
  rintro e w2 ⟨⟨v2, rfl, hv2, hc2⟩, hb2⟩
  have r0 := r0.below hb2 r0.lt
  have hB := hB.trans (hb2.mono hB.size)
  clear hb2 HC y3 y5
  have y6 : w2.cell? ⟨w.heap.size, 6, none⟩ = some (.slice q n4 c4) := r0.cell 6
  rcases hc2 with hc2 | ⟨g2, m3, m5⟩
  · have d3 : decide (v2 < 0) = true := by simpa using hc2
    clear hc2
    go_wp2
    go_ret
    exact ⟨⟨_, rfl, by omega, .inl (by omega)⟩, hB⟩
  have d3 : decide (v2 < 0) = false := by simp; omega
  go_wp2_with fail
  refine (HD.out v2 (by omega) (by omega) w2).mono ?_
  rintro e w3 ⟨rfl, rfl⟩
  clear HD y6
  by_cases k4 : (n4 : Int) ≤ v2
  · rw [if_pos k4]
    have d4 : decide (v2 - (n4 : Int) < 0) = false := by simp; omega
    go_wp2
    go_ret
    exact ⟨⟨_, rfl, by omega, .inr ⟨by omega, m1, m2, m3, by omega, by omega, m5⟩⟩, hB⟩
  · rw [if_neg k4]
    go_wp2
    go_ret
    exact ⟨⟨_, rfl, by omega, .inl (by omega)⟩, hB⟩
set_option maxRecDepth 100000 in
set_option maxHeartbeats 4000000 in
theorem toTenant_any (x : Option Addr) (c1 : Nat) (y : Option Addr) (c2 : Nat) (p : Option Addr) (c3 : Nat) (q : Option Addr) (c4 : Nat) (is : List If) (rs : List Rt) (now : Int) (key : ByteArray) (qu : Int) (ss : List Sn) (es : List Se) (dr : Int) (w : World) (h : ArgI w x is.length is ∧ ArgR w y rs.length rs ∧ ArgSn w p ss.length ss ∧ ArgSe w q es.length es) (hn : is.length ≤ 1048576 ∧ rs.length ≤ 1048576 ∧ ss.length ≤ 1048576 ∧ es.length ≤ 1048576) :
    Calls Tryz.prog 49 #[tenV x is.length c1 y rs.length c2 now key qu p ss.length c3 q es.length c4 dr] w fun e w' => ∃ g h u z, e = .returned (.agg #[.slice (some ⟨g, 0, none⟩) is.length is.length, .slice (some ⟨h, 0, none⟩) rs.length rs.length, .int .i64 now, .string key, .int .i64 qu, .slice (some ⟨u, 0, none⟩) ss.length ss.length, .slice (some ⟨z, 0, none⟩) es.length es.length, .int .i64 dr]) ∧ w.heap.size ≤ g ∧ w.heap.size ≤ h ∧ w.heap.size ≤ u ∧ w.heap.size ≤ z ∧ Row w' g 72 (rowI is) ∧ Row w' h 144 (rowR rs) ∧ Row w' u 142 (rowSn ss) ∧ Row w' z 182 (rowSe es) ∧ Below w.heap.size w w' := by
  have HI : Hid (∀ w, ArgI w x is.length is → ArgR w y rs.length rs → Calls Tryz.prog 90 #[.agg #[.slice x is.length c1, .slice y rs.length c2, .int .i64 now]] w fun e w' => ∃ g h, e = .returned (.agg #[.slice (some ⟨g, 0, none⟩) is.length is.length, .slice (some ⟨h, 0, none⟩) rs.length rs.length, .int .i64 now]) ∧ w.heap.size ≤ g ∧ w.heap.size ≤ h ∧ Row w' g 72 (rowI is) ∧ Row w' h 144 (rowR rs) ∧ Below w.heap.size w w') := fun w a b => toInst_new x c1 y c2 is rs now w a b hn.1 hn.2.1
  have HS : Hid (∀ w, ArgSn w p ss.length ss → Calls Tryz.prog 91 #[.slice p ss.length c3] w fun e w' => ∃ g, e = .returned (.slice (some ⟨g, 0, none⟩) ss.length ss.length) ∧ w.heap.size ≤ g ∧ Row w' g 142 (rowSn ss) ∧ Below w.heap.size w w') := fun w h => toSentS_any p c3 ss w h hn.2.2.1
  have HE0 : Hid (∀ w, ArgSe w q es.length es → Calls Tryz.prog 92 #[.slice q es.length c4] w fun e w' => ∃ g, e = .returned (.slice (some ⟨g, 0, none⟩) es.length es.length) ∧ w.heap.size ≤ g ∧ Row w' g 182 (rowSe es) ∧ Below w.heap.size w w') := fun w h => toSeenS_any q c4 es w h hn.2.2.2
  have HX : Hid (ArgI w x is.length is ∧ ArgR w y rs.length rs ∧ ArgSn w p ss.length ss ∧ ArgSe w q es.length es) := h
  clear h hn
  unfold tenV
  generalize is.length = n1 at *
  generalize rs.length = n2 at *
  generalize ss.length = n3 at *
  generalize es.length = n4 at *
  obtain ⟨W, hW, q0, q1, q2, hB, hS⟩ := three_new w [.slice x n1 c1, .slice y n2 c2, .int .i64 now, .string key, .int .i64 qu, .slice p n3 c3, .slice q n4 c4, .int .i64 dr] [.slice none 0 0, .slice none 0 0, .int .i64 0, .string ⟨#[]⟩, .int .i64 0, .slice none 0 0, .slice none 0 0, .int .i64 0] [.slice none 0 0, .slice none 0 0, .int .i64 0, .string ⟨#[]⟩, .int .i64 0, .slice none 0 0, .slice none 0 0, .int .i64 0] 92 55 55
  have HW : Hid _ := hW
  have HQ : Hid _ := And.intro q0 (And.intro q1 (And.intro q2 (And.intro hB hS)))
  clear hW q0 q1 q2 hB hS
  go_enter Tryz.func49, Tryz.ntmps49
  go_wp2_with fail
  rw [← HW.out]
  obtain ⟨q0, q1, q2, hB, hS⟩ := HQ.out
  refine (HI.out _ (HX.out.1.below hB) (HX.out.2.1.below hB)).mono ?_
  rintro e w1 ⟨g, h, rfl, hg, hh, rg, rh, hb1⟩
  have q0 := q0.below hb1 q0.lt
  have q1 := q1.below hb1 q1.lt
  have q2 := q2.below hb1 q2.lt
  have hB := hB.trans (hb1.mono hB.size)
  have hs := hb1.size
  clear hb1
  clear HI HW HQ
  have x3 : w1.cell? ⟨w.heap.size, 3, none⟩ = some (.string key) := q0.cell 3
  have x4 : w1.cell? ⟨w.heap.size, 4, none⟩ = some (.int .i64 qu) := q0.cell 4
  have x5 : w1.cell? ⟨w.heap.size, 5, none⟩ = some (.slice p n3 c3) := q0.cell 5
  have a0 : w1.cell? ⟨(w.heap.size + 1 + 1), 0, none⟩ = some (.slice none 0 0) := q2.cell 0
  have a1 : w1.cell? ⟨(w.heap.size + 1 + 1), 1, none⟩ = some (.slice none 0 0) := q2.cell 1
  have a2 : w1.cell? ⟨(w.heap.size + 1 + 1), 2, none⟩ = some (.int .i64 0) := q2.cell 2
  have a3 : w1.cell? ⟨(w.heap.size + 1 + 1), 3, none⟩ = some (.string ⟨#[]⟩) := q2.cell 3
  have a4 : w1.cell? ⟨(w.heap.size + 1 + 1), 4, none⟩ = some (.int .i64 0) := q2.cell 4
  have f0 : w1.frozen? ⟨(w.heap.size + 1 + 1), 0, none⟩ = false := q2.frozen 0
  have f1 : w1.frozen? ⟨(w.heap.size + 1 + 1), 1, none⟩ = false := q2.frozen 1
  have f2 : w1.frozen? ⟨(w.heap.size + 1 + 1), 2, none⟩ = false := q2.frozen 2
  have f3 : w1.frozen? ⟨(w.heap.size + 1 + 1), 3, none⟩ = false := q2.frozen 3
  have f4 : w1.frozen? ⟨(w.heap.size + 1 + 1), 4, none⟩ = false := q2.frozen 4
  have ng : g ≠ (w.heap.size + 1 + 1) := by omega
  have nh : h ≠ (w.heap.size + 1 + 1) := by omega
  have HE : Hid (Row (((((w1.setCell ⟨(w.heap.size + 1 + 1), 0, none⟩ (.slice (some ⟨g, 0, none⟩) n1 n1)).setCell ⟨(w.heap.size + 1 + 1), 1, none⟩ (.slice (some ⟨h, 0, none⟩) n2 n2)).setCell ⟨(w.heap.size + 1 + 1), 2, none⟩ (.int .i64 now)).setCell ⟨(w.heap.size + 1 + 1), 3, none⟩ (.string key)).setCell ⟨(w.heap.size + 1 + 1), 4, none⟩ (.int .i64 qu)) w.heap.size 92 [.slice x n1 c1, .slice y n2 c2, .int .i64 now, .string key, .int .i64 qu, .slice p n3 c3, .slice q n4 c4, .int .i64 dr] ∧ Row (((((w1.setCell ⟨(w.heap.size + 1 + 1), 0, none⟩ (.slice (some ⟨g, 0, none⟩) n1 n1)).setCell ⟨(w.heap.size + 1 + 1), 1, none⟩ (.slice (some ⟨h, 0, none⟩) n2 n2)).setCell ⟨(w.heap.size + 1 + 1), 2, none⟩ (.int .i64 now)).setCell ⟨(w.heap.size + 1 + 1), 3, none⟩ (.string key)).setCell ⟨(w.heap.size + 1 + 1), 4, none⟩ (.int .i64 qu)) (w.heap.size + 1) 55 [.slice none 0 0, .slice none 0 0, .int .i64 0, .string ⟨#[]⟩, .int .i64 0, .slice none 0 0, .slice none 0 0, .int .i64 0] ∧ Row (((((w1.setCell ⟨(w.heap.size + 1 + 1), 0, none⟩ (.slice (some ⟨g, 0, none⟩) n1 n1)).setCell ⟨(w.heap.size + 1 + 1), 1, none⟩ (.slice (some ⟨h, 0, none⟩) n2 n2)).setCell ⟨(w.heap.size + 1 + 1), 2, none⟩ (.int .i64 now)).setCell ⟨(w.heap.size + 1 + 1), 3, none⟩ (.string key)).setCell ⟨(w.heap.size + 1 + 1), 4, none⟩ (.int .i64 qu)) (w.heap.size + 1 + 1) 55 [.slice (some ⟨g, 0, none⟩) n1 n1, .slice (some ⟨h, 0, none⟩) n2 n2, .int .i64 now, .string key, .int .i64 qu, .slice none 0 0, .slice none 0 0, .int .i64 0] ∧ Row (((((w1.setCell ⟨(w.heap.size + 1 + 1), 0, none⟩ (.slice (some ⟨g, 0, none⟩) n1 n1)).setCell ⟨(w.heap.size + 1 + 1), 1, none⟩ (.slice (some ⟨h, 0, none⟩) n2 n2)).setCell ⟨(w.heap.size + 1 + 1), 2, none⟩ (.int .i64 now)).setCell ⟨(w.heap.size + 1 + 1), 3, none⟩ (.string key)).setCell ⟨(w.heap.size + 1 + 1), 4, none⟩ (.int .i64 qu)) g 72 (rowI is) ∧ Row (((((w1.setCell ⟨(w.heap.size + 1 + 1), 0, none⟩ (.slice (some ⟨g, 0, none⟩) n1 n1)).setCell ⟨(w.heap.size + 1 + 1), 1, none⟩ (.slice (some ⟨h, 0, none⟩) n2 n2)).setCell ⟨(w.heap.size + 1 + 1), 2, none⟩ (.int .i64 now)).setCell ⟨(w.heap.size + 1 + 1), 3, none⟩ (.string key)).setCell ⟨(w.heap.size + 1 + 1), 4, none⟩ (.int .i64 qu)) h 144 (rowR rs) ∧ Below w.heap.size w (((((w1.setCell ⟨(w.heap.size + 1 + 1), 0, none⟩ (.slice (some ⟨g, 0, none⟩) n1 n1)).setCell ⟨(w.heap.size + 1 + 1), 1, none⟩ (.slice (some ⟨h, 0, none⟩) n2 n2)).setCell ⟨(w.heap.size + 1 + 1), 2, none⟩ (.int .i64 now)).setCell ⟨(w.heap.size + 1 + 1), 3, none⟩ (.string key)).setCell ⟨(w.heap.size + 1 + 1), 4, none⟩ (.int .i64 qu)) ∧ (((((w1.setCell ⟨(w.heap.size + 1 + 1), 0, none⟩ (.slice (some ⟨g, 0, none⟩) n1 n1)).setCell ⟨(w.heap.size + 1 + 1), 1, none⟩ (.slice (some ⟨h, 0, none⟩) n2 n2)).setCell ⟨(w.heap.size + 1 + 1), 2, none⟩ (.int .i64 now)).setCell ⟨(w.heap.size + 1 + 1), 3, none⟩ (.string key)).setCell ⟨(w.heap.size + 1 + 1), 4, none⟩ (.int .i64 qu)).heap.size = w1.heap.size) := ⟨(((((q0).other 0 (.slice (some ⟨g, 0, none⟩) n1 n1) (by omega)).other 1 (.slice (some ⟨h, 0, none⟩) n2 n2) (by omega)).other 2 (.int .i64 now) (by omega)).other 3 (.string key) (by omega)).other 4 (.int .i64 qu) (by omega), (((((q1).other 0 (.slice (some ⟨g, 0, none⟩) n1 n1) (by omega)).other 1 (.slice (some ⟨h, 0, none⟩) n2 n2) (by omega)).other 2 (.int .i64 now) (by omega)).other 3 (.string key) (by omega)).other 4 (.int .i64 qu) (by omega), (((((q2).set 0 (.slice (some ⟨g, 0, none⟩) n1 n1)).set 1 (.slice (some ⟨h, 0, none⟩) n2 n2)).set 2 (.int .i64 now)).set 3 (.string key)).set 4 (.int .i64 qu), (((((rg).other 0 (.slice (some ⟨g, 0, none⟩) n1 n1) ng).other 1 (.slice (some ⟨h, 0, none⟩) n2 n2) ng).other 2 (.int .i64 now) ng).other 3 (.string key) ng).other 4 (.int .i64 qu) ng, (((((rh).other 0 (.slice (some ⟨g, 0, none⟩) n1 n1) nh).other 1 (.slice (some ⟨h, 0, none⟩) n2 n2) nh).other 2 (.int .i64 now) nh).other 3 (.string key) nh).other 4 (.int .i64 qu) nh, (((((hB.setCell (p := ⟨(w.heap.size + 1 + 1), 0, none⟩) (by show w.heap.size ≤ (w.heap.size + 1 + 1); omega) (.slice (some ⟨g, 0, none⟩) n1 n1)).setCell (p := ⟨(w.heap.size + 1 + 1), 1, none⟩) (by show w.heap.size ≤ (w.heap.size + 1 + 1); omega) (.slice (some ⟨h, 0, none⟩) n2 n2)).setCell (p := ⟨(w.heap.size + 1 + 1), 2, none⟩) (by show w.heap.size ≤ (w.heap.size + 1 + 1); omega) (.int .i64 now)).setCell (p := ⟨(w.heap.size + 1 + 1), 3, none⟩) (by show w.heap.size ≤ (w.heap.size + 1 + 1); omega) (.string key)).setCell (p := ⟨(w.heap.size + 1 + 1), 4, none⟩) (by show w.heap.size ≤ (w.heap.size + 1 + 1); omega) (.int .i64 qu)), by simp⟩
  clear q0 q1 q2 hB rg rh
  go_wp2_with fail
  generalize (((((w1.setCell ⟨(w.heap.size + 1 + 1), 0, none⟩ (.slice (some ⟨g, 0, none⟩) n1 n1)).setCell ⟨(w.heap.size + 1 + 1), 1, none⟩ (.slice (some ⟨h, 0, none⟩) n2 n2)).setCell ⟨(w.heap.size + 1 + 1), 2, none⟩ (.int .i64 now)).setCell ⟨(w.heap.size + 1 + 1), 3, none⟩ (.string key)).setCell ⟨(w.heap.size + 1 + 1), 4, none⟩ (.int .i64 qu)) = W1 at *
  obtain ⟨q0, q1, q2, rg, rh, hB, hS⟩ := HE.out
  clear HE a0 a1 a2 a3 a4 f0 f1 f2 f3 f4 ng nh
  clear x3 x4 x5
  refine (HS.out _ (HX.out.2.2.1.below hB)).mono ?_
  rintro e w2 ⟨u, rfl, hu, ru, hb2⟩
  have q0 := q0.below hb2 q0.lt
  have q1 := q1.below hb2 q1.lt
  have q2 := q2.below hb2 q2.lt
  have rg := rg.below hb2 rg.lt
  have rh := rh.below hb2 rh.lt
  have hB := hB.trans (hb2.mono hB.size)
  have hs := hb2.size
  clear hb2
  clear HS
  have x6 : w2.cell? ⟨w.heap.size, 6, none⟩ = some (.slice q n4 c4) := q0.cell 6
  have a5 : w2.cell? ⟨(w.heap.size + 1 + 1), 5, none⟩ = some (.slice none 0 0) := q2.cell 5
  have f5 : w2.frozen? ⟨(w.heap.size + 1 + 1), 5, none⟩ = false := q2.frozen 5
  have ng : g ≠ (w.heap.size + 1 + 1) := by omega
  have nh : h ≠ (w.heap.size + 1 + 1) := by omega
  have nu : u ≠ (w.heap.size + 1 + 1) := by omega
  have HE : Hid (Row (w2.setCell ⟨(w.heap.size + 1 + 1), 5, none⟩ (.slice (some ⟨u, 0, none⟩) n3 n3)) w.heap.size 92 [.slice x n1 c1, .slice y n2 c2, .int .i64 now, .string key, .int .i64 qu, .slice p n3 c3, .slice q n4 c4, .int .i64 dr] ∧ Row (w2.setCell ⟨(w.heap.size + 1 + 1), 5, none⟩ (.slice (some ⟨u, 0, none⟩) n3 n3)) (w.heap.size + 1) 55 [.slice none 0 0, .slice none 0 0, .int .i64 0, .string ⟨#[]⟩, .int .i64 0, .slice none 0 0, .slice none 0 0, .int .i64 0] ∧ Row (w2.setCell ⟨(w.heap.size + 1 + 1), 5, none⟩ (.slice (some ⟨u, 0, none⟩) n3 n3)) (w.heap.size + 1 + 1) 55 [.slice (some ⟨g, 0, none⟩) n1 n1, .slice (some ⟨h, 0, none⟩) n2 n2, .int .i64 now, .string key, .int .i64 qu, .slice (some ⟨u, 0, none⟩) n3 n3, .slice none 0 0, .int .i64 0] ∧ Row (w2.setCell ⟨(w.heap.size + 1 + 1), 5, none⟩ (.slice (some ⟨u, 0, none⟩) n3 n3)) g 72 (rowI is) ∧ Row (w2.setCell ⟨(w.heap.size + 1 + 1), 5, none⟩ (.slice (some ⟨u, 0, none⟩) n3 n3)) h 144 (rowR rs) ∧ Row (w2.setCell ⟨(w.heap.size + 1 + 1), 5, none⟩ (.slice (some ⟨u, 0, none⟩) n3 n3)) u 142 (rowSn ss) ∧ Below w.heap.size w (w2.setCell ⟨(w.heap.size + 1 + 1), 5, none⟩ (.slice (some ⟨u, 0, none⟩) n3 n3)) ∧ (w2.setCell ⟨(w.heap.size + 1 + 1), 5, none⟩ (.slice (some ⟨u, 0, none⟩) n3 n3)).heap.size = w2.heap.size) := ⟨(q0).other 5 (.slice (some ⟨u, 0, none⟩) n3 n3) (by omega), (q1).other 5 (.slice (some ⟨u, 0, none⟩) n3 n3) (by omega), (q2).set 5 (.slice (some ⟨u, 0, none⟩) n3 n3), (rg).other 5 (.slice (some ⟨u, 0, none⟩) n3 n3) ng, (rh).other 5 (.slice (some ⟨u, 0, none⟩) n3 n3) nh, (ru).other 5 (.slice (some ⟨u, 0, none⟩) n3 n3) nu, (hB.setCell (p := ⟨(w.heap.size + 1 + 1), 5, none⟩) (by show w.heap.size ≤ (w.heap.size + 1 + 1); omega) (.slice (some ⟨u, 0, none⟩) n3 n3)), by simp⟩
  clear q0 q1 q2 hB rg rh ru
  go_wp2_with fail
  generalize (w2.setCell ⟨(w.heap.size + 1 + 1), 5, none⟩ (.slice (some ⟨u, 0, none⟩) n3 n3)) = W2 at *
  obtain ⟨q0, q1, q2, rg, rh, ru, hB, hS⟩ := HE.out
  clear HE a5 f5 ng nh nu
  clear x6
  refine (HE0.out _ (HX.out.2.2.2.below hB)).mono ?_
  rintro e w3 ⟨z, rfl, hz, rz, hb3⟩
  have q0 := q0.below hb3 q0.lt
  have q1 := q1.below hb3 q1.lt
  have q2 := q2.below hb3 q2.lt
  have rg := rg.below hb3 rg.lt
  have rh := rh.below hb3 rh.lt
  have ru := ru.below hb3 ru.lt
  have hB := hB.trans (hb3.mono hB.size)
  have hs := hb3.size
  clear hb3
  clear HE0 HX
  have x7 : w3.cell? ⟨w.heap.size, 7, none⟩ = some (.int .i64 dr) := q0.cell 7
  have a0 : w3.cell? ⟨(w.heap.size + 1 + 1), 0, none⟩ = some (.slice (some ⟨g, 0, none⟩) n1 n1) := q2.cell 0
  have a1 : w3.cell? ⟨(w.heap.size + 1 + 1), 1, none⟩ = some (.slice (some ⟨h, 0, none⟩) n2 n2) := q2.cell 1
  have a2 : w3.cell? ⟨(w.heap.size + 1 + 1), 2, none⟩ = some (.int .i64 now) := q2.cell 2
  have a3 : w3.cell? ⟨(w.heap.size + 1 + 1), 3, none⟩ = some (.string key) := q2.cell 3
  have a4 : w3.cell? ⟨(w.heap.size + 1 + 1), 4, none⟩ = some (.int .i64 qu) := q2.cell 4
  have a5 : w3.cell? ⟨(w.heap.size + 1 + 1), 5, none⟩ = some (.slice (some ⟨u, 0, none⟩) n3 n3) := q2.cell 5
  have a6 : w3.cell? ⟨(w.heap.size + 1 + 1), 6, none⟩ = some (.slice none 0 0) := q2.cell 6
  have a7 : w3.cell? ⟨(w.heap.size + 1 + 1), 7, none⟩ = some (.int .i64 0) := q2.cell 7
  have f6 : w3.frozen? ⟨(w.heap.size + 1 + 1), 6, none⟩ = false := q2.frozen 6
  have f7 : w3.frozen? ⟨(w.heap.size + 1 + 1), 7, none⟩ = false := q2.frozen 7
  have b0 : w3.cell? ⟨(w.heap.size + 1), 0, none⟩ = some (.slice none 0 0) := q1.cell 0
  have b1 : w3.cell? ⟨(w.heap.size + 1), 1, none⟩ = some (.slice none 0 0) := q1.cell 1
  have b2 : w3.cell? ⟨(w.heap.size + 1), 2, none⟩ = some (.int .i64 0) := q1.cell 2
  have b3 : w3.cell? ⟨(w.heap.size + 1), 3, none⟩ = some (.string ⟨#[]⟩) := q1.cell 3
  have b4 : w3.cell? ⟨(w.heap.size + 1), 4, none⟩ = some (.int .i64 0) := q1.cell 4
  have b5 : w3.cell? ⟨(w.heap.size + 1), 5, none⟩ = some (.slice none 0 0) := q1.cell 5
  have b6 : w3.cell? ⟨(w.heap.size + 1), 6, none⟩ = some (.slice none 0 0) := q1.cell 6
  have b7 : w3.cell? ⟨(w.heap.size + 1), 7, none⟩ = some (.int .i64 0) := q1.cell 7
  have e0 : w3.frozen? ⟨(w.heap.size + 1), 0, none⟩ = false := q1.frozen 0
  have e1 : w3.frozen? ⟨(w.heap.size + 1), 1, none⟩ = false := q1.frozen 1
  have e2 : w3.frozen? ⟨(w.heap.size + 1), 2, none⟩ = false := q1.frozen 2
  have e3 : w3.frozen? ⟨(w.heap.size + 1), 3, none⟩ = false := q1.frozen 3
  have e4 : w3.frozen? ⟨(w.heap.size + 1), 4, none⟩ = false := q1.frozen 4
  have e5 : w3.frozen? ⟨(w.heap.size + 1), 5, none⟩ = false := q1.frozen 5
  have e6 : w3.frozen? ⟨(w.heap.size + 1), 6, none⟩ = false := q1.frozen 6
  have e7 : w3.frozen? ⟨(w.heap.size + 1), 7, none⟩ = false := q1.frozen 7
  have ng2 : g ≠ (w.heap.size + 1 + 1) := by omega
  have nh2 : h ≠ (w.heap.size + 1 + 1) := by omega
  have nu2 : u ≠ (w.heap.size + 1 + 1) := by omega
  have nz2 : z ≠ (w.heap.size + 1 + 1) := by omega
  have ng1 : g ≠ (w.heap.size + 1) := by omega
  have nh1 : h ≠ (w.heap.size + 1) := by omega
  have nu1 : u ≠ (w.heap.size + 1) := by omega
  have nz1 : z ≠ (w.heap.size + 1) := by omega
  have n12 : (w.heap.size + 1) ≠ (w.heap.size + 1 + 1) := by omega
  have HF : Hid (Row ((((((((((w3.setCell ⟨(w.heap.size + 1 + 1), 6, none⟩ (.slice (some ⟨z, 0, none⟩) n4 n4)).setCell ⟨(w.heap.size + 1 + 1), 7, none⟩ (.int .i64 dr)).setCell ⟨(w.heap.size + 1), 0, none⟩ (.slice (some ⟨g, 0, none⟩) n1 n1)).setCell ⟨(w.heap.size + 1), 1, none⟩ (.slice (some ⟨h, 0, none⟩) n2 n2)).setCell ⟨(w.heap.size + 1), 2, none⟩ (.int .i64 now)).setCell ⟨(w.heap.size + 1), 3, none⟩ (.string key)).setCell ⟨(w.heap.size + 1), 4, none⟩ (.int .i64 qu)).setCell ⟨(w.heap.size + 1), 5, none⟩ (.slice (some ⟨u, 0, none⟩) n3 n3)).setCell ⟨(w.heap.size + 1), 6, none⟩ (.slice (some ⟨z, 0, none⟩) n4 n4)).setCell ⟨(w.heap.size + 1), 7, none⟩ (.int .i64 dr)) (w.heap.size + 1) 55 [.slice (some ⟨g, 0, none⟩) n1 n1, .slice (some ⟨h, 0, none⟩) n2 n2, .int .i64 now, .string key, .int .i64 qu, .slice (some ⟨u, 0, none⟩) n3 n3, .slice (some ⟨z, 0, none⟩) n4 n4, .int .i64 dr] ∧ Row ((((((((((w3.setCell ⟨(w.heap.size + 1 + 1), 6, none⟩ (.slice (some ⟨z, 0, none⟩) n4 n4)).setCell ⟨(w.heap.size + 1 + 1), 7, none⟩ (.int .i64 dr)).setCell ⟨(w.heap.size + 1), 0, none⟩ (.slice (some ⟨g, 0, none⟩) n1 n1)).setCell ⟨(w.heap.size + 1), 1, none⟩ (.slice (some ⟨h, 0, none⟩) n2 n2)).setCell ⟨(w.heap.size + 1), 2, none⟩ (.int .i64 now)).setCell ⟨(w.heap.size + 1), 3, none⟩ (.string key)).setCell ⟨(w.heap.size + 1), 4, none⟩ (.int .i64 qu)).setCell ⟨(w.heap.size + 1), 5, none⟩ (.slice (some ⟨u, 0, none⟩) n3 n3)).setCell ⟨(w.heap.size + 1), 6, none⟩ (.slice (some ⟨z, 0, none⟩) n4 n4)).setCell ⟨(w.heap.size + 1), 7, none⟩ (.int .i64 dr)) g 72 (rowI is) ∧ Row ((((((((((w3.setCell ⟨(w.heap.size + 1 + 1), 6, none⟩ (.slice (some ⟨z, 0, none⟩) n4 n4)).setCell ⟨(w.heap.size + 1 + 1), 7, none⟩ (.int .i64 dr)).setCell ⟨(w.heap.size + 1), 0, none⟩ (.slice (some ⟨g, 0, none⟩) n1 n1)).setCell ⟨(w.heap.size + 1), 1, none⟩ (.slice (some ⟨h, 0, none⟩) n2 n2)).setCell ⟨(w.heap.size + 1), 2, none⟩ (.int .i64 now)).setCell ⟨(w.heap.size + 1), 3, none⟩ (.string key)).setCell ⟨(w.heap.size + 1), 4, none⟩ (.int .i64 qu)).setCell ⟨(w.heap.size + 1), 5, none⟩ (.slice (some ⟨u, 0, none⟩) n3 n3)).setCell ⟨(w.heap.size + 1), 6, none⟩ (.slice (some ⟨z, 0, none⟩) n4 n4)).setCell ⟨(w.heap.size + 1), 7, none⟩ (.int .i64 dr)) h 144 (rowR rs) ∧ Row ((((((((((w3.setCell ⟨(w.heap.size + 1 + 1), 6, none⟩ (.slice (some ⟨z, 0, none⟩) n4 n4)).setCell ⟨(w.heap.size + 1 + 1), 7, none⟩ (.int .i64 dr)).setCell ⟨(w.heap.size + 1), 0, none⟩ (.slice (some ⟨g, 0, none⟩) n1 n1)).setCell ⟨(w.heap.size + 1), 1, none⟩ (.slice (some ⟨h, 0, none⟩) n2 n2)).setCell ⟨(w.heap.size + 1), 2, none⟩ (.int .i64 now)).setCell ⟨(w.heap.size + 1), 3, none⟩ (.string key)).setCell ⟨(w.heap.size + 1), 4, none⟩ (.int .i64 qu)).setCell ⟨(w.heap.size + 1), 5, none⟩ (.slice (some ⟨u, 0, none⟩) n3 n3)).setCell ⟨(w.heap.size + 1), 6, none⟩ (.slice (some ⟨z, 0, none⟩) n4 n4)).setCell ⟨(w.heap.size + 1), 7, none⟩ (.int .i64 dr)) u 142 (rowSn ss) ∧ Row ((((((((((w3.setCell ⟨(w.heap.size + 1 + 1), 6, none⟩ (.slice (some ⟨z, 0, none⟩) n4 n4)).setCell ⟨(w.heap.size + 1 + 1), 7, none⟩ (.int .i64 dr)).setCell ⟨(w.heap.size + 1), 0, none⟩ (.slice (some ⟨g, 0, none⟩) n1 n1)).setCell ⟨(w.heap.size + 1), 1, none⟩ (.slice (some ⟨h, 0, none⟩) n2 n2)).setCell ⟨(w.heap.size + 1), 2, none⟩ (.int .i64 now)).setCell ⟨(w.heap.size + 1), 3, none⟩ (.string key)).setCell ⟨(w.heap.size + 1), 4, none⟩ (.int .i64 qu)).setCell ⟨(w.heap.size + 1), 5, none⟩ (.slice (some ⟨u, 0, none⟩) n3 n3)).setCell ⟨(w.heap.size + 1), 6, none⟩ (.slice (some ⟨z, 0, none⟩) n4 n4)).setCell ⟨(w.heap.size + 1), 7, none⟩ (.int .i64 dr)) z 182 (rowSe es) ∧ Below w.heap.size w ((((((((((w3.setCell ⟨(w.heap.size + 1 + 1), 6, none⟩ (.slice (some ⟨z, 0, none⟩) n4 n4)).setCell ⟨(w.heap.size + 1 + 1), 7, none⟩ (.int .i64 dr)).setCell ⟨(w.heap.size + 1), 0, none⟩ (.slice (some ⟨g, 0, none⟩) n1 n1)).setCell ⟨(w.heap.size + 1), 1, none⟩ (.slice (some ⟨h, 0, none⟩) n2 n2)).setCell ⟨(w.heap.size + 1), 2, none⟩ (.int .i64 now)).setCell ⟨(w.heap.size + 1), 3, none⟩ (.string key)).setCell ⟨(w.heap.size + 1), 4, none⟩ (.int .i64 qu)).setCell ⟨(w.heap.size + 1), 5, none⟩ (.slice (some ⟨u, 0, none⟩) n3 n3)).setCell ⟨(w.heap.size + 1), 6, none⟩ (.slice (some ⟨z, 0, none⟩) n4 n4)).setCell ⟨(w.heap.size + 1), 7, none⟩ (.int .i64 dr))) := ⟨((((((((((q1).other 6 (.slice (some ⟨z, 0, none⟩) n4 n4) n12).other 7 (.int .i64 dr) n12).set 0 (.slice (some ⟨g, 0, none⟩) n1 n1)).set 1 (.slice (some ⟨h, 0, none⟩) n2 n2)).set 2 (.int .i64 now)).set 3 (.string key)).set 4 (.int .i64 qu)).set 5 (.slice (some ⟨u, 0, none⟩) n3 n3)).set 6 (.slice (some ⟨z, 0, none⟩) n4 n4)).set 7 (.int .i64 dr), ((((((((((rg).other 6 (.slice (some ⟨z, 0, none⟩) n4 n4) ng2).other 7 (.int .i64 dr) ng2).other 0 (.slice (some ⟨g, 0, none⟩) n1 n1) ng1).other 1 (.slice (some ⟨h, 0, none⟩) n2 n2) ng1).other 2 (.int .i64 now) ng1).other 3 (.string key) ng1).other 4 (.int .i64 qu) ng1).other 5 (.slice (some ⟨u, 0, none⟩) n3 n3) ng1).other 6 (.slice (some ⟨z, 0, none⟩) n4 n4) ng1).other 7 (.int .i64 dr) ng1, ((((((((((rh).other 6 (.slice (some ⟨z, 0, none⟩) n4 n4) nh2).other 7 (.int .i64 dr) nh2).other 0 (.slice (some ⟨g, 0, none⟩) n1 n1) nh1).other 1 (.slice (some ⟨h, 0, none⟩) n2 n2) nh1).other 2 (.int .i64 now) nh1).other 3 (.string key) nh1).other 4 (.int .i64 qu) nh1).other 5 (.slice (some ⟨u, 0, none⟩) n3 n3) nh1).other 6 (.slice (some ⟨z, 0, none⟩) n4 n4) nh1).other 7 (.int .i64 dr) nh1, ((((((((((ru).other 6 (.slice (some ⟨z, 0, none⟩) n4 n4) nu2).other 7 (.int .i64 dr) nu2).other 0 (.slice (some ⟨g, 0, none⟩) n1 n1) nu1).other 1 (.slice (some ⟨h, 0, none⟩) n2 n2) nu1).other 2 (.int .i64 now) nu1).other 3 (.string key) nu1).other 4 (.int .i64 qu) nu1).other 5 (.slice (some ⟨u, 0, none⟩) n3 n3) nu1).other 6 (.slice (some ⟨z, 0, none⟩) n4 n4) nu1).other 7 (.int .i64 dr) nu1, ((((((((((rz).other 6 (.slice (some ⟨z, 0, none⟩) n4 n4) nz2).other 7 (.int .i64 dr) nz2).other 0 (.slice (some ⟨g, 0, none⟩) n1 n1) nz1).other 1 (.slice (some ⟨h, 0, none⟩) n2 n2) nz1).other 2 (.int .i64 now) nz1).other 3 (.string key) nz1).other 4 (.int .i64 qu) nz1).other 5 (.slice (some ⟨u, 0, none⟩) n3 n3) nz1).other 6 (.slice (some ⟨z, 0, none⟩) n4 n4) nz1).other 7 (.int .i64 dr) nz1, ((((((((((hB.setCell (p := ⟨(w.heap.size + 1 + 1), 6, none⟩) (by show w.heap.size ≤ (w.heap.size + 1 + 1); omega) (.slice (some ⟨z, 0, none⟩) n4 n4)).setCell (p := ⟨(w.heap.size + 1 + 1), 7, none⟩) (by show w.heap.size ≤ (w.heap.size + 1 + 1); omega) (.int .i64 dr)).setCell (p := ⟨(w.heap.size + 1), 0, none⟩) (by show w.heap.size ≤ (w.heap.size + 1); omega) (.slice (some ⟨g, 0, none⟩) n1 n1)).setCell (p := ⟨(w.heap.size + 1), 1, none⟩) (by show w.heap.size ≤ (w.heap.size + 1); omega) (.slice (some ⟨h, 0, none⟩) n2 n2)).setCell (p := ⟨(w.heap.size + 1), 2, none⟩) (by show w.heap.size ≤ (w.heap.size + 1); omega) (.int .i64 now)).setCell (p := ⟨(w.heap.size + 1), 3, none⟩) (by show w.heap.size ≤ (w.heap.size + 1); omega) (.string key)).setCell (p := ⟨(w.heap.size + 1), 4, none⟩) (by show w.heap.size ≤ (w.heap.size + 1); omega) (.int .i64 qu)).setCell (p := ⟨(w.heap.size + 1), 5, none⟩) (by show w.heap.size ≤ (w.heap.size + 1); omega) (.slice (some ⟨u, 0, none⟩) n3 n3)).setCell (p := ⟨(w.heap.size + 1), 6, none⟩) (by show w.heap.size ≤ (w.heap.size + 1); omega) (.slice (some ⟨z, 0, none⟩) n4 n4)).setCell (p := ⟨(w.heap.size + 1), 7, none⟩) (by show w.heap.size ≤ (w.heap.size + 1); omega) (.int .i64 dr))⟩
  clear q0 q1 q2 rg rh ru rz hB
  go_wp2_with fail
  have hF := HF.out
  clear HF x7 a0 a1 a2 a3 a4 a5 a6 a7 b0 e0 b1 e1 b2 e2 b3 e3 b4 e4 b5 e5 b6 e6 b7 e7 f6 f7
  generalize ((((((((((w3.setCell ⟨(w.heap.size + 1 + 1), 6, none⟩ (.slice (some ⟨z, 0, none⟩) n4 n4)).setCell ⟨(w.heap.size + 1 + 1), 7, none⟩ (.int .i64 dr)).setCell ⟨(w.heap.size + 1), 0, none⟩ (.slice (some ⟨g, 0, none⟩) n1 n1)).setCell ⟨(w.heap.size + 1), 1, none⟩ (.slice (some ⟨h, 0, none⟩) n2 n2)).setCell ⟨(w.heap.size + 1), 2, none⟩ (.int .i64 now)).setCell ⟨(w.heap.size + 1), 3, none⟩ (.string key)).setCell ⟨(w.heap.size + 1), 4, none⟩ (.int .i64 qu)).setCell ⟨(w.heap.size + 1), 5, none⟩ (.slice (some ⟨u, 0, none⟩) n3 n3)).setCell ⟨(w.heap.size + 1), 6, none⟩ (.slice (some ⟨z, 0, none⟩) n4 n4)).setCell ⟨(w.heap.size + 1), 7, none⟩ (.int .i64 dr)) = Y at *
  obtain ⟨k1, k2, k3, k4, k5, k6⟩ := hF
  have e0 : Y.cell? ⟨(w.heap.size + 1), 0, none⟩ = some (.slice (some ⟨g, 0, none⟩) n1 n1) := k1.cell 0
  have e1 : Y.cell? ⟨(w.heap.size + 1), 1, none⟩ = some (.slice (some ⟨h, 0, none⟩) n2 n2) := k1.cell 1
  have e2 : Y.cell? ⟨(w.heap.size + 1), 2, none⟩ = some (.int .i64 now) := k1.cell 2
  have e3 : Y.cell? ⟨(w.heap.size + 1), 3, none⟩ = some (.string key) := k1.cell 3
  have e4 : Y.cell? ⟨(w.heap.size + 1), 4, none⟩ = some (.int .i64 qu) := k1.cell 4
  have e5 : Y.cell? ⟨(w.heap.size + 1), 5, none⟩ = some (.slice (some ⟨u, 0, none⟩) n3 n3) := k1.cell 5
  have e6 : Y.cell? ⟨(w.heap.size + 1), 6, none⟩ = some (.slice (some ⟨z, 0, none⟩) n4 n4) := k1.cell 6
  have e7 : Y.cell? ⟨(w.heap.size + 1), 7, none⟩ = some (.int .i64 dr) := k1.cell 7
  exact bodyPost_ret (v := .agg #[.slice (some ⟨g, 0, none⟩) n1 n1, .slice (some ⟨h, 0, none⟩) n2 n2, .int .i64 now, .string key, .int .i64 qu, .slice (some ⟨u, 0, none⟩) n3 n3, .slice (some ⟨z, 0, none⟩) n4 n4, .int .i64 dr]) (by simp [results, Tryz.results49, go_sem, e0, e1, e2, e3, e4, e5, e6, e7]) rfl ⟨g, h, u, z, rfl, by omega, by omega, by omega, by omega, k2, k3, k4, k5, k6⟩
set_option maxRecDepth 100000 in
set_option maxHeartbeats 4000000 in
theorem eqTenant_any (x0 : Option Addr) (a1 : Nat) (y0 : Option Addr) (a2 : Nat) (p0 : Option Addr) (a3 : Nat) (q0 : Option Addr) (a4 : Nat) (x1 : Option Addr) (b1 : Nat) (y1 : Option Addr) (b2 : Nat) (p1 : Option Addr) (b3 : Nat) (q1 : Option Addr) (b4 : Nat) (is : List If) (rs : List Rt) (now : Int) (key : ByteArray) (qu : Int) (ss : List Sn) (es : List Se) (dr : Int) (w : World) (h : (IfsIn w x0 is ∧ RtsIn w y0 rs ∧ SnsIn w p0 ss ∧ SesIn w q0 es) ∧ (IfsIn w x1 is ∧ RtsIn w y1 rs ∧ SnsIn w p1 ss ∧ SesIn w q1 es)) (hn : is.length ≤ 100000000 ∧ rs.length ≤ 100000000 ∧ ss.length ≤ 100000000 ∧ es.length ≤ 100000000) :
    Calls Tryz.prog 59 #[tenV x0 is.length a1 y0 rs.length a2 now key qu p0 ss.length a3 q0 es.length a4 dr, tenV x1 is.length b1 y1 rs.length b2 now key qu p1 ss.length b3 q1 es.length b4 dr] w fun e w' => e = .returned (.bool true) ∧ Below w.heap.size w w' := by
  have HI : Hid (∀ w, IfsIn w x0 is → IfsIn w x1 is → RtsIn w y0 rs → RtsIn w y1 rs → Calls Tryz.prog 107 #[.agg #[.slice x0 is.length a1, .slice y0 rs.length a2, .int .i64 now], .agg #[.slice x1 is.length b1, .slice y1 rs.length b2, .int .i64 now]] w fun e w' => e = .returned (.bool true) ∧ Below w.heap.size w w') := fun w a b c d => eqInst_any x0 x1 a1 b1 y0 y1 a2 b2 is rs now w a b c d hn.1 hn.2.1
  have HS : Hid (∀ w, SnsIn w p0 ss → SnsIn w p1 ss → Calls Tryz.prog 108 #[.slice p0 ss.length a3, .slice p1 ss.length b3] w fun e w' => e = .returned (.bool true) ∧ Below w.heap.size w w') := fun w a b => eqSentS_any p0 p1 a3 b3 ss w a b hn.2.2.1
  have HE0 : Hid (∀ w, SesIn w q0 es → SesIn w q1 es → Calls Tryz.prog 109 #[.slice q0 es.length a4, .slice q1 es.length b4] w fun e w' => e = .returned (.bool true) ∧ Below w.heap.size w w') := fun w a b => eqSeenS_any q0 q1 a4 b4 es w a b hn.2.2.2
  have HX : Hid ((IfsIn w x0 is ∧ RtsIn w y0 rs ∧ SnsIn w p0 ss ∧ SesIn w q0 es) ∧ (IfsIn w x1 is ∧ RtsIn w y1 rs ∧ SnsIn w p1 ss ∧ SesIn w q1 es)) := h
  clear h hn
  unfold tenV
  generalize is.length = n1 at *
  generalize rs.length = n2 at *
  generalize ss.length = n3 at *
  generalize es.length = n4 at *
  have r0 := (Row.new w 55 [.slice x0 n1 a1, .slice y0 n2 a2, .int .i64 now, .string key, .int .i64 qu, .slice p0 n3 a3, .slice q0 n4 a4, .int .i64 dr]).alloc (.cells #[.slice x1 n1 b1, .slice y1 n2 b2, .int .i64 now, .string key, .int .i64 qu, .slice p1 n3 b3, .slice q1 n4 b4, .int .i64 dr] 55)
  have r1 := Row.new (w.alloc (.cells #[.slice x0 n1 a1, .slice y0 n2 a2, .int .i64 now, .string key, .int .i64 qu, .slice p0 n3 a3, .slice q0 n4 a4, .int .i64 dr] 55)) 55 [.slice x1 n1 b1, .slice y1 n2 b2, .int .i64 now, .string key, .int .i64 qu, .slice p1 n3 b3, .slice q1 n4 b4, .int .i64 dr]
  rw [show (w.alloc (.cells #[.slice x0 n1 a1, .slice y0 n2 a2, .int .i64 now, .string key, .int .i64 qu, .slice p0 n3 a3, .slice q0 n4 a4, .int .i64 dr] 55)).heap.size = w.heap.size + 1 by simp] at r1
  have hB : Below w.heap.size w ((w.alloc (.cells #[.slice x0 n1 a1, .slice y0 n2 a2, .int .i64 now, .string key, .int .i64 qu, .slice p0 n3 a3, .slice q0 n4 a4, .int .i64 dr] 55)).alloc (.cells #[.slice x1 n1 b1, .slice y1 n2 b2, .int .i64 now, .string key, .int .i64 qu, .slice p1 n3 b3, .slice q1 n4 b4, .int .i64 dr] 55)) := (ent_new0 w _).alloc (by simp) _
  have HQ : Hid _ := And.intro r0 (And.intro r1 hB)
  clear r0 r1 hB
  have dn1 : (qu != qu) = false := by simp
  have dn2 : (dr != dr) = false := by simp
  go_enter Tryz.func59, Tryz.ntmps59
  go_wp2_with fail
  obtain ⟨r0, r1, hB⟩ := HQ.out
  clear HQ
  refine (HI.out _ (HX.out.1.1.below hB) (HX.out.2.1.below hB) (HX.out.1.2.1.below hB) (HX.out.2.2.1.below hB)).mono ?_
  rintro e w1 ⟨rfl, hb1⟩
  have r0 := r0.below hb1 r0.lt
  have r1 := r1.below hb1 r1.lt
  have hB := hB.trans (hb1.mono hB.size)
  clear hb1
  have s0 : w1.cell? ⟨w.heap.size, 0, none⟩ = some (.slice x0 n1 a1) := r0.cell 0
  have s1 : w1.cell? ⟨w.heap.size, 1, none⟩ = some (.slice y0 n2 a2) := r0.cell 1
  have s2 : w1.cell? ⟨w.heap.size, 2, none⟩ = some (.int .i64 now) := r0.cell 2
  have s3 : w1.cell? ⟨w.heap.size, 3, none⟩ = some (.string key) := r0.cell 3
  have s4 : w1.cell? ⟨w.heap.size, 4, none⟩ = some (.int .i64 qu) := r0.cell 4
  have s5 : w1.cell? ⟨w.heap.size, 5, none⟩ = some (.slice p0 n3 a3) := r0.cell 5
  have s6 : w1.cell? ⟨w.heap.size, 6, none⟩ = some (.slice q0 n4 a4) := r0.cell 6
  have s7 : w1.cell? ⟨w.heap.size, 7, none⟩ = some (.int .i64 dr) := r0.cell 7
  have t0 : w1.cell? ⟨w.heap.size + 1, 0, none⟩ = some (.slice x1 n1 b1) := r1.cell 0
  have t1 : w1.cell? ⟨w.heap.size + 1, 1, none⟩ = some (.slice y1 n2 b2) := r1.cell 1
  have t2 : w1.cell? ⟨w.heap.size + 1, 2, none⟩ = some (.int .i64 now) := r1.cell 2
  have t3 : w1.cell? ⟨w.heap.size + 1, 3, none⟩ = some (.string key) := r1.cell 3
  have t4 : w1.cell? ⟨w.heap.size + 1, 4, none⟩ = some (.int .i64 qu) := r1.cell 4
  have t5 : w1.cell? ⟨w.heap.size + 1, 5, none⟩ = some (.slice p1 n3 b3) := r1.cell 5
  have t6 : w1.cell? ⟨w.heap.size + 1, 6, none⟩ = some (.slice q1 n4 b4) := r1.cell 6
  have t7 : w1.cell? ⟨w.heap.size + 1, 7, none⟩ = some (.int .i64 dr) := r1.cell 7
  go_wp2_with fail
  clear s0 t0 s1 t1 s2 t2 s3 t3 s4 t4 s5 t5 s6 t6 s7 t7
  refine (HS.out _ (HX.out.1.2.2.1.below hB) (HX.out.2.2.2.1.below hB)).mono ?_
  rintro e w2 ⟨rfl, hb2⟩
  have r0 := r0.below hb2 r0.lt
  have r1 := r1.below hb2 r1.lt
  have hB := hB.trans (hb2.mono hB.size)
  clear hb2
  have s0 : w2.cell? ⟨w.heap.size, 0, none⟩ = some (.slice x0 n1 a1) := r0.cell 0
  have s1 : w2.cell? ⟨w.heap.size, 1, none⟩ = some (.slice y0 n2 a2) := r0.cell 1
  have s2 : w2.cell? ⟨w.heap.size, 2, none⟩ = some (.int .i64 now) := r0.cell 2
  have s3 : w2.cell? ⟨w.heap.size, 3, none⟩ = some (.string key) := r0.cell 3
  have s4 : w2.cell? ⟨w.heap.size, 4, none⟩ = some (.int .i64 qu) := r0.cell 4
  have s5 : w2.cell? ⟨w.heap.size, 5, none⟩ = some (.slice p0 n3 a3) := r0.cell 5
  have s6 : w2.cell? ⟨w.heap.size, 6, none⟩ = some (.slice q0 n4 a4) := r0.cell 6
  have s7 : w2.cell? ⟨w.heap.size, 7, none⟩ = some (.int .i64 dr) := r0.cell 7
  have t0 : w2.cell? ⟨w.heap.size + 1, 0, none⟩ = some (.slice x1 n1 b1) := r1.cell 0
  have t1 : w2.cell? ⟨w.heap.size + 1, 1, none⟩ = some (.slice y1 n2 b2) := r1.cell 1
  have t2 : w2.cell? ⟨w.heap.size + 1, 2, none⟩ = some (.int .i64 now) := r1.cell 2
  have t3 : w2.cell? ⟨w.heap.size + 1, 3, none⟩ = some (.string key) := r1.cell 3
  have t4 : w2.cell? ⟨w.heap.size + 1, 4, none⟩ = some (.int .i64 qu) := r1.cell 4
  have t5 : w2.cell? ⟨w.heap.size + 1, 5, none⟩ = some (.slice p1 n3 b3) := r1.cell 5
  have t6 : w2.cell? ⟨w.heap.size + 1, 6, none⟩ = some (.slice q1 n4 b4) := r1.cell 6
  have t7 : w2.cell? ⟨w.heap.size + 1, 7, none⟩ = some (.int .i64 dr) := r1.cell 7
  go_wp2_with fail
  clear s0 t0 s1 t1 s2 t2 s3 t3 s4 t4 s5 t5 s6 t6 s7 t7
  refine (HE0.out _ (HX.out.1.2.2.2.below hB) (HX.out.2.2.2.2.below hB)).mono ?_
  rintro e w3 ⟨rfl, hb3⟩
  have r0 := r0.below hb3 r0.lt
  have r1 := r1.below hb3 r1.lt
  have hB := hB.trans (hb3.mono hB.size)
  clear hb3
  have s0 : w3.cell? ⟨w.heap.size, 0, none⟩ = some (.slice x0 n1 a1) := r0.cell 0
  have s1 : w3.cell? ⟨w.heap.size, 1, none⟩ = some (.slice y0 n2 a2) := r0.cell 1
  have s2 : w3.cell? ⟨w.heap.size, 2, none⟩ = some (.int .i64 now) := r0.cell 2
  have s3 : w3.cell? ⟨w.heap.size, 3, none⟩ = some (.string key) := r0.cell 3
  have s4 : w3.cell? ⟨w.heap.size, 4, none⟩ = some (.int .i64 qu) := r0.cell 4
  have s5 : w3.cell? ⟨w.heap.size, 5, none⟩ = some (.slice p0 n3 a3) := r0.cell 5
  have s6 : w3.cell? ⟨w.heap.size, 6, none⟩ = some (.slice q0 n4 a4) := r0.cell 6
  have s7 : w3.cell? ⟨w.heap.size, 7, none⟩ = some (.int .i64 dr) := r0.cell 7
  have t0 : w3.cell? ⟨w.heap.size + 1, 0, none⟩ = some (.slice x1 n1 b1) := r1.cell 0
  have t1 : w3.cell? ⟨w.heap.size + 1, 1, none⟩ = some (.slice y1 n2 b2) := r1.cell 1
  have t2 : w3.cell? ⟨w.heap.size + 1, 2, none⟩ = some (.int .i64 now) := r1.cell 2
  have t3 : w3.cell? ⟨w.heap.size + 1, 3, none⟩ = some (.string key) := r1.cell 3
  have t4 : w3.cell? ⟨w.heap.size + 1, 4, none⟩ = some (.int .i64 qu) := r1.cell 4
  have t5 : w3.cell? ⟨w.heap.size + 1, 5, none⟩ = some (.slice p1 n3 b3) := r1.cell 5
  have t6 : w3.cell? ⟨w.heap.size + 1, 6, none⟩ = some (.slice q1 n4 b4) := r1.cell 6
  have t7 : w3.cell? ⟨w.heap.size + 1, 7, none⟩ = some (.int .i64 dr) := r1.cell 7
  go_wp2
  go_ret
  exact ⟨rfl, hB⟩
end Go.Proofs.YtialedffpaoacaaGreatDoor
/- A Tenant in one piece: what it is, and where it lies. (Written by gen_opten.py.) -/
namespace Go.Proofs.YtialedffpaoacaaGreatDoor
open Go.RowKit Go.Sort

/-- What a Tenant is. -/
structure Tn where
  is : List If
  rs : List Rt
  now : Int
  key : ByteArray
  qu : Int
  ss : List Sn
  es : List Se
  dr : Int
deriving Inhabited
/-- Where a Tenant's lists lie, and how far they reach. -/
structure Tp where
  x : Option Addr
  c1 : Nat
  y : Option Addr
  c2 : Nat
  p : Option Addr
  c3 : Nat
  q : Option Addr
  c4 : Nat
deriving Inhabited
def tnL (a : Tp) (t : Tn) : List Value := [.slice a.x t.is.length a.c1, .slice a.y t.rs.length a.c2, .int .i64 t.now, .string t.key, .int .i64 t.qu, .slice a.p t.ss.length a.c3, .slice a.q t.es.length a.c4, .int .i64 t.dr]
def tnV (a : Tp) (t : Tn) : Value := .agg #[.slice a.x t.is.length a.c1, .slice a.y t.rs.length a.c2, .int .i64 t.now, .string t.key, .int .i64 t.qu, .slice a.p t.ss.length a.c3, .slice a.q t.es.length a.c4, .int .i64 t.dr]
theorem tnV_eq (a : Tp) (t : Tn) : tnV a t = tenV a.x t.is.length a.c1 a.y t.rs.length a.c2 t.now t.key t.qu a.p t.ss.length a.c3 a.q t.es.length a.c4 t.dr := rfl
/-- It was handed in so. -/
def ArgT (w : World) (a : Tp) (t : Tn) : Prop := ArgI w a.x t.is.length t.is ∧ ArgR w a.y t.rs.length t.rs ∧ ArgSn w a.p t.ss.length t.ss ∧ ArgSe w a.q t.es.length t.es
theorem ArgT.below {w w' : World} {a : Tp} {t : Tn} (h : ArgT w a t) (hb : Below w.heap.size w w') : ArgT w' a t := ⟨h.1.below hb, h.2.1.below hb, h.2.2.1.below hb, h.2.2.2.below hb⟩
/-- It lies so. -/
def InT (w : World) (a : Tp) (t : Tn) : Prop := IfsIn w a.x t.is ∧ RtsIn w a.y t.rs ∧ SnsIn w a.p t.ss ∧ SesIn w a.q t.es
theorem InT.below {w w' : World} {a : Tp} {t : Tn} (h : InT w a t) (hb : Below w.heap.size w w') : InT w' a t := ⟨h.1.below hb, h.2.1.below hb, h.2.2.1.below hb, h.2.2.2.below hb⟩
theorem InT.alloc {w : World} {a : Tp} {t : Tn} (h : InT w a t) (o : Obj) : InT (w.alloc o) a t := h.below (ent_new0 w o)
end Go.Proofs.YtialedffpaoacaaGreatDoor
/- Lists of Tenants in memory. (Written by gen_tens.py.) -/
namespace Go.Proofs.YtialedffpaoacaaGreatDoor
open Go.RowKit Go.Sort

abbrev TnP := Tp × Tn
def rowT (ps : List TnP) : List Value := ps.flatMap fun x => tnL x.1 x.2
theorem tnL_length (a : Tp) (t : Tn) : (tnL a t).length = 8 := rfl
theorem rowT_length (ps : List TnP) : (rowT ps).length = 8 * ps.length := by
  induction ps with
  | nil => rfl
  | cons e es ih => simp only [rowT, List.flatMap_cons, List.length_append, List.length_cons] at ih ⊢; rw [ih, tnL_length]; omega
theorem rowT_append (a b : List TnP) : rowT (a ++ b) = rowT a ++ rowT b := by simp [rowT]
theorem rowT_cons (e : TnP) (es : List TnP) : rowT (e :: es) = tnL e.1 e.2 ++ rowT es := rfl
theorem rowT_get (es : List TnP) (i k : Nat) (hi : i < es.length) (hk : k < 8) : (rowT es)[i * 8 + k]? = (tnL es[i].1 es[i].2)[k]? := by
  induction es generalizing i with
  | nil => simp at hi
  | cons e es ih =>
    rw [rowT_cons]
    match i with
    | 0 => rw [Nat.zero_mul, Nat.zero_add, List.getElem?_append_left (by rw [tnL_length]; omega)]; rfl
    | i + 1 =>
      rw [List.getElem?_append_right (by rw [tnL_length]; omega), tnL_length, show (i + 1) * 8 + k - 8 = i * 8 + k by omega, ih i (by simpa using hi)]
      rfl
/-- The slice (p, ps.length) holds these Tenants, whose lists lie where they say. -/
def TensIn (w : World) (p : Option Addr) (ps : List TnP) : Prop := (ps = [] ∨ ∃ g, p = some ⟨g, 0, none⟩ ∧ g < w.heap.size ∧ ∀ j u, (rowT ps)[j]? = some u → w.cell? ⟨g, j, none⟩ = some u) ∧ ∀ x ∈ ps, InT w x.1 x.2
theorem TensIn.below {w w' : World} {p : Option Addr} {ps : List TnP} (h : TensIn w p ps) (hb : Below w.heap.size w w') : TensIn w' p ps := by
  refine ⟨?_, fun x hx => (h.2 x hx).below hb⟩
  rcases h.1 with h | ⟨g, hp, hg, hc⟩
  · exact .inl h
  · refine .inr ⟨g, hp, by have := hb.size; omega, fun j u hj => ?_⟩
    rw [hb.cell (p := ⟨g, j, none⟩) hg]
    exact hc j u hj
theorem TensIn.at {w : World} {p : Option Addr} {ps : List TnP} (h : TensIn w p ps) (i : Nat) (hi : i < ps.length) : ∃ g a t, p = some ⟨g, 0, none⟩ ∧ g < w.heap.size ∧ ps[i] = (a, t) ∧ InT w a t ∧ w.cell? ⟨g, i * 8, none⟩ = some (.slice a.x t.is.length a.c1) ∧ w.cell? ⟨g, i * 8 + 1, none⟩ = some (.slice a.y t.rs.length a.c2) ∧ w.cell? ⟨g, i * 8 + 2, none⟩ = some (.int .i64 t.now) ∧ w.cell? ⟨g, i * 8 + 3, none⟩ = some (.string t.key) ∧ w.cell? ⟨g, i * 8 + 4, none⟩ = some (.int .i64 t.qu) ∧ w.cell? ⟨g, i * 8 + 5, none⟩ = some (.slice a.p t.ss.length a.c3) ∧ w.cell? ⟨g, i * 8 + 6, none⟩ = some (.slice a.q t.es.length a.c4) ∧ w.cell? ⟨g, i * 8 + 7, none⟩ = some (.int .i64 t.dr) := by
  rcases h.1 with h1 | ⟨g, hp, hg, hc⟩
  · subst h1; simp at hi
  · exact ⟨g, ps[i].1, ps[i].2, hp, hg, rfl, h.2 _ (List.getElem_mem hi), hc _ _ (rowT_get ps i 0 hi (by omega)), hc _ _ (rowT_get ps i 1 hi (by omega)), hc _ _ (rowT_get ps i 2 hi (by omega)), hc _ _ (rowT_get ps i 3 hi (by omega)), hc _ _ (rowT_get ps i 4 hi (by omega)), hc _ _ (rowT_get ps i 5 hi (by omega)), hc _ _ (rowT_get ps i 6 hi (by omega)), hc _ _ (rowT_get ps i 7 hi (by omega))⟩
end Go.Proofs.YtialedffpaoacaaGreatDoor
/- Tenants that are one's own: lists of them, changed in a list or in a cell. (By hand.) -/
namespace Go.Proofs.YtialedffpaoacaaGreatDoor
open Go.RowKit Go.Sort

/-- Its lists are its own. -/
def OwnT (W : World) (base : Nat) (a : Tp) (t : Tn) : Prop := W.ownsRow base 72 5 (.slice a.x t.is.length a.c1) t.is.length (rowI t.is) ∧ W.ownsRow base 144 9 (.slice a.y t.rs.length a.c2) t.rs.length (rowR t.rs) ∧ W.ownsRow base 142 2 (.slice a.p t.ss.length a.c3) t.ss.length (rowSn t.ss) ∧ W.ownsRow base 182 2 (.slice a.q t.es.length a.c4) t.es.length (rowSe t.es)
/-- Is this block one of its lists'? -/
def Tp.has (a : Tp) (b : Nat) : Prop := a.x = some ⟨b, 0, none⟩ ∨ a.y = some ⟨b, 0, none⟩ ∨ a.p = some ⟨b, 0, none⟩ ∨ a.q = some ⟨b, 0, none⟩
theorem OwnT.kept {w w' : World} {base : Nat} {a : Tp} {t : Tn} (h : OwnT w base a t) (hk : ∀ b t l, a.has b → Row w b t l → Row w' b t l) : OwnT w' base a t :=
  ⟨owns_kept h.1 fun b t l e r => hk b t l (.inl e) r, owns_kept h.2.1 fun b t l e r => hk b t l (.inr (.inl e)) r, owns_kept h.2.2.1 fun b t l e r => hk b t l (.inr (.inr (.inl e))) r, owns_kept h.2.2.2 fun b t l e r => hk b t l (.inr (.inr (.inr e))) r⟩
theorem OwnT.below {w w' : World} {base : Nat} {a : Tp} {t : Tn} (h : OwnT w base a t) (hb : Below w.heap.size w w') : OwnT w' base a t := ⟨owns_below h.1 hb, owns_below h.2.1 hb, owns_below h.2.2.1 hb, owns_below h.2.2.2 hb⟩
theorem OwnT.mono {w : World} {base base' : Nat} {a : Tp} {t : Tn} (h : OwnT w base a t) (hb : base' ≤ base) : OwnT w base' a t := ⟨owns_mono h.1 hb, owns_mono h.2.1 hb, owns_mono h.2.2.1 hb, owns_mono h.2.2.2 hb⟩
theorem snsIn_own {w : World} {base : Nat} {p : Option Addr} {n cv : Nat} {es : List Sn} (hn : n = es.length) (h : w.ownsRow base 142 2 (.slice p n cv) n (rowSn es)) : SnsIn w p es := by
  rcases owns_opened h with h0 | ⟨g, rest, rfl, -, -, -, hr, -⟩
  · exact .inl (List.length_eq_zero_iff.1 (by omega))
  · exact snsIn_rest hr
theorem sesIn_own {w : World} {base : Nat} {p : Option Addr} {n cv : Nat} {es : List Se} (hn : n = es.length) (h : w.ownsRow base 182 2 (.slice p n cv) n (rowSe es)) : SesIn w p es := by
  rcases owns_opened h with h0 | ⟨g, rest, rfl, -, -, -, hr, -⟩
  · exact .inl (List.length_eq_zero_iff.1 (by omega))
  · exact sesIn_rest hr
theorem OwnT.inT {w : World} {base : Nat} {a : Tp} {t : Tn} (h : OwnT w base a t) : InT w a t := ⟨ownsI_in rfl h.1, ownsR_in rfl h.2.1, snsIn_own rfl h.2.2.1, sesIn_own rfl h.2.2.2⟩
theorem OwnT.ge {w : World} {base b : Nat} {a : Tp} {t : Tn} (h : OwnT w base a t) (hb : a.has b) : base ≤ b := by
  rcases hb with e | e | e | e
  · exact owns_ge h.1 b e
  · exact owns_ge h.2.1 b e
  · exact owns_ge h.2.2.1 b e
  · exact owns_ge h.2.2.2 b e
theorem OwnT.lt {w : World} {base b : Nat} {a : Tp} {t : Tn} (h : OwnT w base a t) (hb : a.has b) : b < w.heap.size := by
  rcases hb with e | e | e | e
  · exact owns_lt h.1 b e
  · exact owns_lt h.2.1 b e
  · exact owns_lt h.2.2.1 b e
  · exact owns_lt h.2.2.2 b e
theorem OwnT.ne {w : World} {base g : Nat} {a : Tp} {t : Tn} (h : OwnT w base a t) {l : List Value} {ty : TypeId} (hr : Row w g ty l) (ht : ty ≠ 72 ∧ ty ≠ 144 ∧ ty ≠ 142 ∧ ty ≠ 182) : ¬ a.has g := by
  rintro (e | e | e | e)
  · exact owns_ne h.1 hr ht.1 e
  · exact owns_ne h.2.1 hr ht.2.1 e
  · exact owns_ne h.2.2.1 hr ht.2.2.1 e
  · exact owns_ne h.2.2.2 hr ht.2.2.2 e
/-- No two of them share a list. -/
def ApT (qs : List TnP) : Prop := ∀ i j (hi : i < qs.length) (hj : j < qs.length), i ≠ j → ∀ g, qs[i].1.has g → ¬ qs[j].1.has g
theorem ApT.set {qs : List TnP} (h : ApT qs) (k : Nat) (hk : k < qs.length) (t' : Tn) : ApT (qs.set k (qs[k].1, t')) := by
  have e : ∀ j (hj : j < qs.length), ((qs.set k (qs[k].1, t'))[j]'(by rw [List.length_set]; exact hj)).1 = qs[j].1 := fun j hj => by
    rw [List.getElem_set]
    by_cases e : k = j
    · subst e; rw [if_pos rfl]
    · rw [if_neg e]
  intro i j hi hj hne g
  rw [List.length_set] at hi hj
  rw [e i hi, e j hj]
  exact h i j hi hj hne g
/-- A list of Tenants that is one's own. -/
def OwnTs (W : World) (base : Nat) (p : Option Addr) (n c : Nat) (qs : List TnP) : Prop := W.ownsRow base 55 8 (.slice p n c) n (rowT qs) ∧ (∀ j (hj : j < qs.length), OwnT W base qs[j].1 qs[j].2) ∧ ApT qs
theorem OwnTs.below {w w' : World} {base : Nat} {p : Option Addr} {n c : Nat} {qs : List TnP} (h : OwnTs w base p n c qs) (hb : Below w.heap.size w w') : OwnTs w' base p n c qs := ⟨owns_below h.1 hb, fun j hj => (h.2.1 j hj).below hb, h.2.2⟩
theorem OwnTs.mono {w : World} {base base' : Nat} {p : Option Addr} {n c : Nat} {qs : List TnP} (h : OwnTs w base p n c qs) (hb : base' ≤ base) : OwnTs w base' p n c qs := ⟨owns_mono h.1 hb, fun j hj => (h.2.1 j hj).mono hb, h.2.2⟩
theorem OwnTs.kept {w w' : World} {base : Nat} {p : Option Addr} {n c : Nat} {qs : List TnP} (h : OwnTs w base p n c qs) (hk : ∀ b t l, (p = some ⟨b, 0, none⟩ ∨ ∃ j, ∃ hj : j < qs.length, qs[j].1.has b) → Row w b t l → Row w' b t l) : OwnTs w' base p n c qs :=
  ⟨owns_kept h.1 fun b t l e r => hk b t l (.inl e) r, fun j hj => (h.2.1 j hj).kept fun b t l e r => hk b t l (.inr ⟨j, hj, e⟩) r, h.2.2⟩
theorem OwnTs.ins {w : World} {base : Nat} {p : Option Addr} {n c : Nat} {qs : List TnP} (h : OwnTs w base p n c qs) (hn : n = qs.length) : TensIn w p qs := by
  refine ⟨?_, fun x hx => ?_⟩
  · rcases owns_opened h.1 with h0 | ⟨g, rest, e, -, -, -, hr, -⟩
    · exact .inl (List.length_eq_zero_iff.1 (by omega))
    · refine .inr ⟨g, e, hr.lt, fun j u hj => ?_⟩
      rw [hr.cell, List.getElem?_append_left (List.getElem?_eq_some_iff.1 hj).1]
      exact hj
  · obtain ⟨j, hj, rfl⟩ := List.mem_iff_getElem.1 hx
    exact (h.2.1 j hj).inT
theorem OwnTs.len {w : World} {base : Nat} {p : Option Addr} {n c : Nat} {qs : List TnP} (h : OwnTs w base p n c qs) : n = qs.length := by
  have := h.1.1
  rw [rowT_length] at this
  omega
theorem rowT_split {qs : List TnP} {k : Nat} (hk : k < qs.length) : rowT qs = rowT (qs.take k) ++ (tnL qs[k].1 qs[k].2 ++ rowT (qs.drop (k + 1))) := by
  rw [← rowT_cons, ← rowT_append]
  congr 1
  rw [← List.drop_eq_getElem_cons hk, List.take_append_drop]
theorem rowT_put {qs : List TnP} {k : Nat} (hk : k < qs.length) (e : TnP) : rowT (qs.set k e) = rowT (qs.take k) ++ (tnL e.1 e.2 ++ rowT (qs.drop (k + 1))) := by
  rw [← rowT_cons, ← rowT_append]
  congr 1
  rw [List.set_eq_take_append_cons_drop, if_pos hk]
/-- One of the k-th one's lists was changed, nothing else. -/
theorem OwnTs.list {W W' : World} {base : Nat} {p : Option Addr} {n c : Nat} {qs : List TnP} (h : OwnTs W base p n c qs) {k : Nat} (hk : k < qs.length) {a : Tp} {t t' : Tn} (hq : qs[k] = (a, t)) (hrow : tnL a t' = tnL a t) (r : Option Addr) (hr : ∀ b, r = some ⟨b, 0, none⟩ → a.has b)
    (hkeep : ∀ b tt l, r ≠ some ⟨b, 0, none⟩ → Row W b tt l → Row W' b tt l) (ho : OwnT W' base a t') : OwnTs W' base p n c (qs.set k (a, t')) := by
  have hn := h.len
  obtain ⟨h1, h2, h3⟩ := h
  have hk2 := h2 k hk
  rw [hq] at hk2
  refine ⟨?_, fun j hj => ?_, ?_⟩
  · rw [rowT_put hk, hrow, show tnL a t = tnL qs[k].1 qs[k].2 by rw [hq], ← rowT_split hk]
    refine owns_kept h1 fun b tt l e hrow => hkeep b tt l (fun e2 => ?_) hrow
    subst e
    obtain ⟨l', hl'⟩ := (by
      rcases owns_opened h1 with h0 | ⟨g, rest, e, -, -, -, hr, -⟩
      · omega
      · cases e; exact ⟨_, hr⟩ : ∃ l', Row W b 55 l')
    exact hk2.ne hl' (by decide) (hr b e2)
  · rw [List.length_set] at hj
    rw [List.getElem_set]
    by_cases e : k = j
    · rw [if_pos e]; exact ho
    · rw [if_neg e]
      refine (h2 j hj).kept fun b tt l hb hrow => hkeep b tt l (fun e2 => ?_) hrow
      exact h3 k j hk hj e b (by rw [hq]; exact hr b e2) hb
  · have := h3.set k hk t'
    rw [hq] at this
    exact this
/-- One of the k-th one's own cells was changed, nothing else. -/
theorem OwnTs.cell {W : World} {base g : Nat} {n c : Nat} {qs : List TnP} (h : OwnTs W base (some ⟨g, 0, none⟩) n c qs) (hn : n = qs.length) {k : Nat} (hk : k < qs.length) {a : Tp} {t t' : Tn} (hq : qs[k] = (a, t)) (j : Nat) (hj : j < 8) (v : Value) (hrow : tnL a t' = (tnL a t).set j v) (hs : t'.is = t.is ∧ t'.rs = t.rs ∧ t'.ss = t.ss ∧ t'.es = t.es) : OwnTs (W.setCell ⟨g, k * 8 + j, none⟩ v) base (some ⟨g, 0, none⟩) n c (qs.set k (a, t')) ∧ base ≤ g := by
  obtain ⟨h1, h2, h3⟩ := h
  rcases owns_opened h1 with h0 | ⟨g', rest, e, hb, hc1, hc2, hr, hl⟩
  · omega
  cases e
  have hkp : ∀ b t l, b ≠ g → Row W b t l → Row (W.setCell ⟨g, k * 8 + j, none⟩ v) b t l := fun b t l hne h => h.other _ _ hne
  have hko : ∀ {a : Tp} {t : Tn}, OwnT W base a t → OwnT (W.setCell ⟨g, k * 8 + j, none⟩ v) base a t := fun o => o.kept fun b tt l e hrow => hkp b tt l (fun e2 => by subst e2; exact o.ne hr (by decide) e) hrow
  refine ⟨⟨?_, fun i hi => ?_, ?_⟩, hb⟩
  · have hr2 := hr.set (k * 8 + j) v
    have e1 : (rowT qs ++ rest).set (k * 8 + j) v = rowT (qs.set k (a, t')) ++ rest := by
      rw [rowT_put hk, hrow, rowT_split hk, hq, List.append_assoc, List.append_assoc, List.append_assoc, List.append_assoc]
      have hA : (rowT (qs.take k)).length = k * 8 := by rw [rowT_length, List.length_take]; omega
      rw [List.set_append, if_neg (by omega), hA, Nat.add_sub_cancel_left, List.set_append, if_pos (by rw [tnL_length]; exact hj)]
    rw [e1] at hr2
    refine owns_shut (by rw [rowT_length, List.length_set]; omega) hb hc1 hc2 hr2 ?_
    rw [List.length_append, rowT_length, List.length_set]
    rw [List.length_append, rowT_length] at hl
    exact hl
  · rw [List.length_set] at hi
    rw [List.getElem_set]
    by_cases e : k = i
    · rw [if_pos e]
      have := hko (h2 k hk)
      rw [hq] at this
      obtain ⟨e1, e2, e3, e4⟩ := hs
      unfold OwnT at this ⊢
      simp only at this ⊢
      rw [e1, e2, e3, e4]
      exact this
    · rw [if_neg e]
      exact hko (h2 i hi)
  · have := h3.set k hk t'
    rw [hq] at this
    exact this
/-- The cells of the k-th one. -/
theorem OwnTs.cells {w : World} {base g : Nat} {n c : Nat} {qs : List TnP} (h : OwnTs w base (some ⟨g, 0, none⟩) n c qs) (hn : n = qs.length) {k : Nat} (hk : k < qs.length) {a : Tp} {t : Tn} (hq : qs[k] = (a, t)) :
    ∃ rest, base ≤ g ∧ g < w.heap.size ∧ n ≤ c ∧ Row w g 55 (rowT qs ++ rest) ∧ (∀ j v, (tnL a t)[j]? = some v → w.cell? ⟨g, k * 8 + j, none⟩ = some v) ∧ (∀ j, w.frozen? ⟨g, k * 8 + j, none⟩ = false) ∧ OwnT w base a t := by
  obtain ⟨h1, h2, h3⟩ := h
  rcases owns_opened h1 with h0 | ⟨g', rest, e, hb, hc1, hc2, hr, hl⟩
  · omega
  cases e
  refine ⟨rest, hb, hr.lt, hc1, hr, fun j v hv => ?_, fun j => hr.frozen _, ?_⟩
  · have hj : j < 8 := by
      have := (List.getElem?_eq_some_iff.1 hv).1
      rw [tnL_length] at this
      exact this
    rw [hr.cell, List.getElem?_append_left (by rw [rowT_length]; omega), rowT_get qs k j hk hj, hq]
    exact hv
  · have := h2 k hk
    rw [hq] at this
    exact this
theorem owns_apart' {w : World} {base base' sz sz' n cv n' cv' b : Nat} {ty ty' : TypeId} {p q : Option Addr} {xs ys : List Value} (h : w.ownsRow base ty sz (.slice p n cv) n xs) (h' : w.ownsRow base' ty' sz' (.slice q n' cv') n' ys) (ht : ty ≠ ty') (e : p = some ⟨b, 0, none⟩) : q ≠ some ⟨b, 0, none⟩ := by
  subst e
  rcases h.2 with ⟨h1, _⟩ | ⟨g', cap, cur, h1, _, h3, _⟩
  · simp at h1
  · simp only [Value.slice.injEq, Option.some.injEq, Addr.mk.injEq, and_true] at h1
    obtain ⟨rfl, _⟩ := h1
    exact owns_ne h' (l := cur.toList) (by unfold Row; simpa using h3) ht
theorem OwnT.i1 {W W' : World} {base : Nat} {a : Tp} {t : Tn} (h : OwnT W base a t) {is' : List If} (hl : is'.length = t.is.length) (h1 : W'.ownsRow base 72 5 (.slice a.x t.is.length a.c1) t.is.length (rowI is')) (hk : ∀ b tt l, a.x ≠ some ⟨b, 0, none⟩ → Row W b tt l → Row W' b tt l) : OwnT W' base a { t with is := is' } :=
  ⟨by show W'.ownsRow base 72 5 (.slice a.x is'.length a.c1) is'.length (rowI is'); rw [hl]; exact h1, owns_kept h.2.1 fun b tt l e r => hk b tt l (owns_apart' h.2.1 h.1 (by decide) e) r, owns_kept h.2.2.1 fun b tt l e r => hk b tt l (owns_apart' h.2.2.1 h.1 (by decide) e) r, owns_kept h.2.2.2 fun b tt l e r => hk b tt l (owns_apart' h.2.2.2 h.1 (by decide) e) r⟩
theorem OwnT.i2 {W W' : World} {base : Nat} {a : Tp} {t : Tn} (h : OwnT W base a t) {rs' : List Rt} (hl : rs'.length = t.rs.length) (h1 : W'.ownsRow base 144 9 (.slice a.y t.rs.length a.c2) t.rs.length (rowR rs')) (hk : ∀ b tt l, a.y ≠ some ⟨b, 0, none⟩ → Row W b tt l → Row W' b tt l) : OwnT W' base a { t with rs := rs' } :=
  ⟨owns_kept h.1 fun b tt l e r => hk b tt l (owns_apart' h.1 h.2.1 (by decide) e) r, by show W'.ownsRow base 144 9 (.slice a.y rs'.length a.c2) rs'.length (rowR rs'); rw [hl]; exact h1, owns_kept h.2.2.1 fun b tt l e r => hk b tt l (owns_apart' h.2.2.1 h.2.1 (by decide) e) r, owns_kept h.2.2.2 fun b tt l e r => hk b tt l (owns_apart' h.2.2.2 h.2.1 (by decide) e) r⟩
theorem OwnT.i3 {W W' : World} {base : Nat} {a : Tp} {t : Tn} (h : OwnT W base a t) {ss' : List Sn} (hl : ss'.length = t.ss.length) (h1 : W'.ownsRow base 142 2 (.slice a.p t.ss.length a.c3) t.ss.length (rowSn ss')) (hk : ∀ b tt l, a.p ≠ some ⟨b, 0, none⟩ → Row W b tt l → Row W' b tt l) : OwnT W' base a { t with ss := ss' } :=
  ⟨owns_kept h.1 fun b tt l e r => hk b tt l (owns_apart' h.1 h.2.2.1 (by decide) e) r, owns_kept h.2.1 fun b tt l e r => hk b tt l (owns_apart' h.2.1 h.2.2.1 (by decide) e) r, by show W'.ownsRow base 142 2 (.slice a.p ss'.length a.c3) ss'.length (rowSn ss'); rw [hl]; exact h1, owns_kept h.2.2.2 fun b tt l e r => hk b tt l (owns_apart' h.2.2.2 h.2.2.1 (by decide) e) r⟩
theorem OwnT.i4 {W W' : World} {base : Nat} {a : Tp} {t : Tn} (h : OwnT W base a t) {es' : List Se} (hl : es'.length = t.es.length) (h1 : W'.ownsRow base 182 2 (.slice a.q t.es.length a.c4) t.es.length (rowSe es')) (hk : ∀ b tt l, a.q ≠ some ⟨b, 0, none⟩ → Row W b tt l → Row W' b tt l) : OwnT W' base a { t with es := es' } :=
  ⟨owns_kept h.1 fun b tt l e r => hk b tt l (owns_apart' h.1 h.2.2.2 (by decide) e) r, owns_kept h.2.1 fun b tt l e r => hk b tt l (owns_apart' h.2.1 h.2.2.2 (by decide) e) r, owns_kept h.2.2.1 fun b tt l e r => hk b tt l (owns_apart' h.2.2.1 h.2.2.2 (by decide) e) r, by show W'.ownsRow base 182 2 (.slice a.q es'.length a.c4) es'.length (rowSe es'); rw [hl]; exact h1⟩
end Go.Proofs.YtialedffpaoacaaGreatDoor
/- The laws' own marks in lists of Seens: written, and looked for. (Written by gen_markflat.py.) -/
namespace Go.Proofs.YtialedffpaoacaaGreatDoor
open Go.RowKit Go.Sort

def mkSe (K i : Nat) : Se := ⟨(K : Int) + 2 * (i : Int) + 0, (K : Int) + 2 * (i : Int) + 1⟩
def mksSe (K n : Nat) : List Se := (List.range n).map (mkSe K)
theorem mksSe_length (K n : Nat) : (mksSe K n).length = n := by simp [mksSe]
theorem mksSe_set (K : Nat) (es : List Se) (rest : List Value) (k : Nat) (hk : k < es.length) :
    (((rowSe (mksSe K k ++ es.drop k) ++ rest).set (k * 2) (.int .i64 ((K : Int) + 2 * (k : Int) + 0))).set (k * 2 + 1) (.int .i64 ((K : Int) + 2 * (k : Int) + 1))) = rowSe (mksSe K (k + 1) ++ es.drop (k + 1)) ++ rest := by
  have e : es.drop k = es[k] :: es.drop (k + 1) := List.drop_eq_getElem_cons hk
  have e2 : mksSe K (k + 1) = mksSe K k ++ [mkSe K k] := by simp [mksSe, List.range_succ]
  rw [e, e2, rowSe_append, rowSe_cons, List.append_assoc, List.append_assoc, List.append_assoc, rowSe_append, List.singleton_append, rowSe_cons, List.append_assoc]
  exact setSe _ _ k (by rw [rowSe_length, mksSe_length]; omega) _ _ _ _
set_option maxRecDepth 100000 in
set_option maxHeartbeats 4000000 in
theorem markSeenS_ix (K g n cv : Nat) (es : List Se) (rest : List Value) (w : World) (hn : n = es.length) (hK : K ≤ 100000000) (h8 : n ≤ 100000000) (hr : Row w g 182 (rowSe es ++ rest)) :
    Calls Tryz.prog 71 #[.slice (some ⟨g, 0, none⟩) n cv, .int .i64 K] w fun e w' => e = .returned (.int .i64 ((K : Int) + 2 * (n : Int))) ∧ Row w' g 182 (rowSe (mksSe K n) ++ rest) ∧ Below g w w' ∧ ∀ b t l, b ≠ g → Row w b t l → Row w' b t l := by
  have HN : Hid (n = es.length) := hn
  have hr0 : Row w g 182 (rowSe (mksSe K 0 ++ es.drop 0) ++ rest) := hr
  clear hn hr
  go_enter Tryz.func71, Tryz.ntmps71
  go_wp2_with fail
  go_loopw [5, 1] (fun i m wr => ∃ k : Nat, k ≤ n ∧ i = .int .i64 k ∧ m = .int .i64 ((K : Int) + 2 * (k : Int)) ∧ Row wr g 182 (rowSe (mksSe K k ++ es.drop k) ++ rest) ∧ Below g w wr ∧ ∀ b t l, b ≠ g → Row w b t l → Row wr b t l) (fun i _ _ => n - (intOf i).toNat)
  case atStart => exact ⟨0, Nat.zero_le _, rfl, by go_num, hr0, Below.refl _ _, fun _ _ _ _ h => h⟩
  case round =>
    obtain ⟨k, hk, rfl, rfl, hr, hb, hoth⟩ := hrel
    have HOT : Hid (∀ b t l, b ≠ g → Row w b t l → Row wr b t l) := hoth
    clear hr0 hoth
    by_cases hlt : k < n
    · have hlen : (mksSe K k ++ es.drop k).length = n := by rw [List.length_append, mksSe_length, List.length_drop, ← HN.out]; omega
      have hlr : k * 2 + 1 < (rowSe (mksSe K k ++ es.drop k) ++ rest).length := by rw [List.length_append, rowSe_length, hlen]; omega
      obtain ⟨z0, c0⟩ := Row.someSe hr (k * 2) (by omega)
      obtain ⟨z1, c1⟩ := Row.someSe hr (k * 2 + 1) (by omega)
      have f0 := hr.frozen (k * 2)
      have f1 := hr.frozen (k * 2 + 1)
      have hr2 := twoSe_row hr (k * 2) (.int .i64 ((K : Int) + 2 * (k : Int) + 0)) (.int .i64 ((K : Int) + 2 * (k : Int) + 1))
      rw [mksSe_set K es rest k (by rw [← HN.out]; exact hlt)] at hr2
      have hB2 := twoSe_below hb g (k * 2) (Nat.le_refl _) (.int .i64 ((K : Int) + 2 * (k : Int) + 0)) (.int .i64 ((K : Int) + 2 * (k : Int) + 1))
      have hO2 := fun b t l (hne : b ≠ g) (h : Row w b t l) => twoSe_other (HOT.out b t l hne h) hne (k * 2) (.int .i64 ((K : Int) + 2 * (k : Int) + 0)) (.int .i64 ((K : Int) + 2 * (k : Int) + 1))
      unfold twoSe at hr2 hB2 hO2
      have HH : Hid _ := And.intro hr2 (And.intro hB2 hO2)
      clear hr hb hr2 hB2 hlen hlr hO2 HOT
      go_wp2_with fail
      rw [show (K : Int) + 2 * (k : Int) + 1 + 1 = (K : Int) + 2 * ((k + 1 : Nat) : Int) by omega]
      refine ⟨⟨k + 1, hlt, by go_num, rfl, HH.out.1, HH.out.2.1, HH.out.2.2⟩, ?_⟩
      simp [intOf]
      omega
    · obtain rfl : k = n := by omega
      have hre : mksSe K k ++ es.drop k = mksSe K k := by rw [HN.out, List.drop_length, List.append_nil]
      rw [hre] at hr
      clear hlt hk hre
      go_wp2
      go_ret
      exact ⟨rfl, hr, hb, HOT.out⟩
set_option maxRecDepth 100000 in
set_option maxHeartbeats 4000000 in
theorem markSeenS_0 (K : Nat) (p : Option Addr) (cv : Nat) (w : World) : Calls Tryz.prog 71 #[.slice p 0 cv, .int .i64 K] w fun e w' => e = .returned (.int .i64 K) ∧ w = w' := by
  go_enter Tryz.func71, Tryz.ntmps71
  go_wp2_with fail
  go_loop [5, 1] (fun i k => i = .int .i64 0 ∧ k = .int .i64 K) (fun _ _ => 0)
  case atStart => exact ⟨rfl, rfl⟩
  case round =>
    obtain ⟨rfl, rfl⟩ := hrel
    go_wp2
    go_ret
    exact ⟨rfl, rfl⟩
theorem markSeenS_own (K : Nat) (p : Option Addr) (n cv base : Nat) (es : List Se) (w : World) (hn : n = es.length) (hK : K ≤ 100000000) (h8 : n ≤ 100000000) (h : w.ownsRow base 182 2 (.slice p n cv) n (rowSe es)) :
    Calls Tryz.prog 71 #[.slice p n cv, .int .i64 K] w fun e w' => e = .returned (.int .i64 ((K : Int) + 2 * (n : Int))) ∧ w'.ownsRow base 182 2 (.slice p n cv) n (rowSe (mksSe K n)) ∧ Below base w w' ∧ ∀ b t l, p ≠ some ⟨b, 0, none⟩ → Row w b t l → Row w' b t l := by
  rcases owns_opened h with h0 | ⟨g, rest, rfl, hb, h1, h2, hr, hl⟩
  · have hq : es = [] := List.length_eq_zero_iff.1 (by omega)
    subst hq
    subst h0
    exact (markSeenS_0 K p cv w).mono fun e w' ⟨he, hw⟩ => ⟨by rw [he]; simp, hw ▸ h, hw ▸ Below.refl _ _, fun _ _ _ _ h => hw ▸ h⟩
  · refine (markSeenS_ix K g n cv es rest w hn hK h8 hr).mono fun e w' ⟨he, hr', hb', ho'⟩ => ⟨he, owns_shut (by rw [rowSe_length, mksSe_length]; omega) hb h1 h2 hr' ?_, hb'.mono hb, fun b t l hp h => ho' b t l (fun e => hp (by rw [e])) h⟩
    rw [List.length_append, rowSe_length, mksSe_length]
    rw [List.length_append, rowSe_length, ← hn] at hl
    exact hl
set_option maxRecDepth 100000 in
set_option maxHeartbeats 4000000 in
theorem heldSeenS_ix (K : Nat) (p : Option Addr) (n cv : Nat) (w : World) (hK : K ≤ 100000000) (h8 : n ≤ 100000000) (hE : SesIn w p (mksSe K n)) :
    Calls Tryz.prog 75 #[.slice p n cv, .int .i64 K] w fun e w' => e = .returned (.int .i64 ((K : Int) + 2 * (n : Int))) ∧ w = w' := by
  have HX : Hid (SesIn w p (mksSe K n)) := hE
  clear hE
  go_enter Tryz.func75, Tryz.ntmps75
  go_wp2_with fail
  go_loop [5, 1] (fun i m => ∃ k : Nat, k ≤ n ∧ i = .int .i64 k ∧ m = .int .i64 ((K : Int) + 2 * (k : Int))) (fun i _ => n - (intOf i).toNat)
  case atStart => exact ⟨0, Nat.zero_le _, rfl, by go_num⟩
  case round =>
    obtain ⟨k, hk, rfl, rfl⟩ := hrel
    by_cases hlt : k < n
    · have dk : decide ((k : Int) < (n : Int)) = true := by simpa using hlt
      obtain ⟨g, m0, m1, rfl, hg, hek, c0, c1⟩ := HX.out.at k (by rw [mksSe_length]; exact hlt)
      have hm : (mksSe K n)[k]'(by rw [mksSe_length]; exact hlt) = mkSe K k := by simp [mksSe]
      rw [hm] at hek
      simp only [mkSe, Se.mk.injEq] at hek
      obtain ⟨rfl, rfl⟩ := hek
      simp only [Int.add_zero] at c0
      have d0 : ((K : Int) + 2 * (k : Int) != (K : Int) + 2 * (k : Int)) = false := by simp
      have d1 : ((K : Int) + 2 * (k : Int) + 1 != (K : Int) + 2 * (k : Int) + 1) = false := by simp
      clear hm HX
      go_wp2
      go_round
      case rel => exact ⟨k + 1, hlt, by go_num, by rw [show (K : Int) + 2 * (k : Int) + 1 + 1 = (K : Int) + 2 * ((k + 1 : Nat) : Int) by omega]⟩
      case measure => simp [intOf]; omega
    · obtain rfl : k = n := by omega
      have dk : decide ((k : Int) < (k : Int)) = false := by simp
      clear hlt hk HX
      go_wp2
      go_ret
      exact ⟨rfl, rfl⟩
end Go.Proofs.YtialedffpaoacaaGreatDoor
/- The laws' own Binds handed in: opened. (Written by gen_flat.py.) -/
namespace Go.Proofs.YtialedffpaoacaaGreatDoor
open Go.ChangeShapes Go.WideShapes Go.RowKit Go.Deep Go.WideElems Go.Maps Go.Joins Go.Sort

def BdW (f : Bd) : Prop := (Lit.int .i64 f.po).wf = true ∧ (Lit.int .i64 f.vl).wf = true ∧ (Lit.int .i64 f.tn).wf = true ∧ (Lit.int .i64 f.ic).wf = true
theorem Tryz.cellsBd : Tryz.prog.cellsOf 111 = 4 := by kernel_rfl
theorem Tryz.cellsIntBd : Tryz.prog.cellsOf 2 = 1 := by kernel_rfl
/-- The slice (x, len) that was handed in holds them. -/
def ArgBd (w : World) (x : Option Addr) (len : Nat) (rs : List Bd) : Prop := rs.length = len ∧ len ≤ maxLen ∧ (∀ e ∈ rs, BdW e) ∧ ∀ i, (h : i < rs.length) → ∃ p, x = some p ∧ w.cell? (p.add (i * 4)) = some (.int .i64 rs[i].po) ∧ w.cell? (p.add (i * 4 + 1)) = some (.int .i64 rs[i].vl) ∧ w.cell? (p.add (i * 4 + 2)) = some (.int .i64 rs[i].tn) ∧ w.cell? (p.add (i * 4 + 3)) = some (.int .i64 rs[i].ic)
theorem ArgBd.below {w w' : World} {x : Option Addr} {len : Nat} {rs : List Bd} (h : ArgBd w x len rs) (hb : Below w.heap.size w w') : ArgBd w' x len rs := by
  obtain ⟨h1, h2, h3, h4⟩ := h
  refine ⟨h1, h2, h3, fun i hi => ?_⟩
  obtain ⟨p, hp, c0, c1, c2, c3⟩ := h4 i hi
  have hk : ∀ k v, w.cell? (p.add k) = some v → w'.cell? (p.add k) = some v := fun k v hv => by rw [hb.cell (World.block_lt_of_cell? w _ hv)]; exact hv
  exact ⟨p, hp, hk _ _ c0, hk _ _ c1, hk _ _ c2, hk _ _ c3⟩
theorem addr_moreBd (p : Addr) (m j : Nat) (hj : j ≠ 0) : p.add (m + j) = ⟨(p.add m).block, (p.add m).off + j, none⟩ := by
  rw [← Addr.add_add]
  generalize p.add m = q
  unfold Addr.add
  rw [if_neg hj]
theorem ArgBd.at {w : World} {x : Option Addr} {len : Nat} {rs : List Bd} (h : ArgBd w x len rs) (i : Nat) (hi : i < rs.length) : ∃ p po vl tn ic, x = some p ∧ rs[i] = ⟨po, vl, tn, ic⟩ ∧ w.cell? (p.add (i * 4)) = some (.int .i64 po) ∧ w.cell? ⟨(p.add (i * 4)).block, (p.add (i * 4)).off + 1, none⟩ = some (.int .i64 vl) ∧ w.cell? ⟨(p.add (i * 4)).block, (p.add (i * 4)).off + 2, none⟩ = some (.int .i64 tn) ∧ w.cell? ⟨(p.add (i * 4)).block, (p.add (i * 4)).off + 3, none⟩ = some (.int .i64 ic) := by
  obtain ⟨p, hp, c0, c1, c2, c3⟩ := h.2.2.2 i hi
  rw [addr_moreBd _ _ _ (by omega)] at c1 c2 c3
  exact ⟨p, _, _, _, _, hp, rfl, c0, c1, c2, c3⟩
section
variable {H : Type} {enc : TypeId × Value → H} {w : World} {base : Nat} {spare : Nat → Bool} {held : Bool}
set_option maxRecDepth 100000 in
theorem open_bd {fuel : Nat} {cs : List Value} {x : DataW H × List MemPlace} (h : DataW.trod enc Tryz.prog w base spare held fuel 111 cs = some x) : ∃ f : Bd, cs = bdL f ∧ BdW f := by
  obtain ⟨xs, n, _, _, hl, hx, hg⟩ := DataW.trod_struct Tryz.underlying111 h
  rw [Tryz.cellsBd] at hl
  match cs, hl, xs, hx with
  | [c0, c1, c2, c3], _, [y0, y1, y2, y3], _ =>
    have h0 : DataW.trod enc Tryz.prog w base spare held n 2 ((([c0, c1, c2, c3] : List Value).drop 0).take (Tryz.prog.cellsOf 2)) = [y0, y1, y2, y3][0]? := hg 0 _ rfl
    rw [Tryz.cellsIntBd] at h0
    replace h0 : DataW.trod enc Tryz.prog w base spare held n 2 [c0] = some y0 := h0
    obtain ⟨po, epo, _, wpo⟩ := DataW.trod_int Tryz.underlying2 h0
    have h1 : DataW.trod enc Tryz.prog w base spare held n 2 ((([c0, c1, c2, c3] : List Value).drop 1).take (Tryz.prog.cellsOf 2)) = [y0, y1, y2, y3][1]? := hg 1 _ rfl
    rw [Tryz.cellsIntBd] at h1
    replace h1 : DataW.trod enc Tryz.prog w base spare held n 2 [c1] = some y1 := h1
    obtain ⟨vl, evl, _, wvl⟩ := DataW.trod_int Tryz.underlying2 h1
    have h2 : DataW.trod enc Tryz.prog w base spare held n 2 ((([c0, c1, c2, c3] : List Value).drop 2).take (Tryz.prog.cellsOf 2)) = [y0, y1, y2, y3][2]? := hg 2 _ rfl
    rw [Tryz.cellsIntBd] at h2
    replace h2 : DataW.trod enc Tryz.prog w base spare held n 2 [c2] = some y2 := h2
    obtain ⟨tn, etn, _, wtn⟩ := DataW.trod_int Tryz.underlying2 h2
    have h3 : DataW.trod enc Tryz.prog w base spare held n 2 ((([c0, c1, c2, c3] : List Value).drop 3).take (Tryz.prog.cellsOf 2)) = [y0, y1, y2, y3][3]? := hg 3 _ rfl
    rw [Tryz.cellsIntBd] at h3
    replace h3 : DataW.trod enc Tryz.prog w base spare held n 2 [c3] = some y3 := h3
    obtain ⟨ic, eic, _, wic⟩ := DataW.trod_int Tryz.underlying2 h3
    simp only [List.cons.injEq, and_true] at epo evl etn eic
    subst epo evl etn eic
    exact ⟨⟨po, vl, tn, ic⟩, rfl, wpo, wvl, wtn, wic⟩
set_option maxRecDepth 100000 in
theorem open_bds {fuel : Nat} {v : Value} {x : DataW H × List MemPlace} (h : DataW.trod enc Tryz.prog w base spare held fuel 23 [v] = some x) : ∃ y len cap rs, v = .slice y len cap ∧ ArgBd w y len rs := by
  rcases open_slice Tryz.underlying23 h with ⟨h0, _⟩ | ⟨a, len, cap, m, n, D, Pl, h0, hb, hl, hm, hmm, _, hx⟩
  · simp only [List.cons.injEq, and_true] at h0
    exact ⟨none, 0, 0, [], h0, rfl, Nat.zero_le _, by simp, fun i hi => absurd hi (by simp)⟩
  · simp only [List.cons.injEq, and_true] at h0
    have hlm : len ≤ m := by rw [hmm]; split <;> omega
    have each : ∀ i, i < m → ∃ e : Bd, BdW e ∧ w.cell? (a.add (i * 4)) = some (.int .i64 e.po) ∧ w.cell? (a.add (i * 4 + 1)) = some (.int .i64 e.vl) ∧ w.cell? (a.add (i * 4 + 2)) = some (.int .i64 e.tn) ∧ w.cell? (a.add (i * 4 + 3)) = some (.int .i64 e.ic) := by
      intro i hi
      obtain ⟨cs', h1, h2⟩ := hx i hi
      rw [Tryz.cellsBd] at h1
      obtain ⟨e, rfl, hw⟩ := open_bd h2
      obtain ⟨_, _, hcell⟩ := World.cells?_some h1
      have hadd : ∀ j k, (a.add j).add k = a.add (j + k) := fun j k => by
        unfold Addr.add
        by_cases hj : j = 0
        · subst hj; by_cases hk : k = 0 <;> simp [hk]
        · by_cases hk : k = 0
          · simp [hj, hk]
          · simp [hj, hk, Nat.add_assoc]
      refine ⟨e, hw, ?_⟩
      have k0 := hcell 0 (by omega)
      have k1 := hcell 1 (by omega)
      have k2 := hcell 2 (by omega)
      have k3 := hcell 3 (by omega)
      simp only [hadd, Nat.add_zero, bdL] at k0 k1 k2 k3
      exact ⟨by simpa using k0, by simpa using k1, by simpa using k2, by simpa using k3⟩
    obtain ⟨E, hE⟩ := choose_lt (α := Bd) (p := fun i e => BdW e ∧ w.cell? (a.add (i * 4)) = some (.int .i64 e.po) ∧ w.cell? (a.add (i * 4 + 1)) = some (.int .i64 e.vl) ∧ w.cell? (a.add (i * 4 + 2)) = some (.int .i64 e.tn) ∧ w.cell? (a.add (i * 4 + 3)) = some (.int .i64 e.ic)) each
    refine ⟨some a, len, cap, (List.range len).map E, h0, by simp, by omega, ?_, ?_⟩
    · intro e he
      simp only [List.mem_map, List.mem_range] at he
      obtain ⟨i, hi, rfl⟩ := he
      exact (hE i (by omega)).1
    · intro i hi
      simp only [List.length_map, List.length_range] at hi
      refine ⟨a, rfl, ?_⟩
      simp only [List.getElem_map, List.getElem_range]
      exact (hE i (by omega)).2
end
end Go.Proofs.YtialedffpaoacaaGreatDoor
/- The laws' own Binds handed over. (Written by gen_flat.py.) -/
namespace Go.Proofs.YtialedffpaoacaaGreatDoor
open Go.RowKit Go.Sort

set_option maxRecDepth 100000 in
theorem toBind_any (f : Bd) (w : World) : Calls Tryz.prog 50 #[bdV f] w fun e w' => e = .returned (bdV f) ∧ Below w.heap.size w w' := by
  obtain ⟨po, vl, tn, ic⟩ := f
  unfold bdV
  go_enter Tryz.func50, Tryz.ntmps50
  go_wp2
  refine bodyPost_ret (v := .agg #[.int .i64 po, .int .i64 vl, .int .i64 tn, .int .i64 ic]) (by simp [results, Tryz.results50, go_sem]) rfl ⟨rfl, ?_⟩
  exact (((Below.refl _ _).alloc (Nat.le_refl _) _).alloc (by simp) _).alloc (by simp; omega) _
def fourBd (w : World) (g o : Nat) (x0 x1 x2 x3 : Value) : World := ((((w.setCell ⟨g, o, none⟩ x0).setCell ⟨g, o + 1, none⟩ x1).setCell ⟨g, o + 2, none⟩ x2).setCell ⟨g, o + 3, none⟩ x3)
theorem fourBd_below {B : Nat} {w0 w : World} (h : Below B w0 w) (g o : Nat) (hg : B ≤ g) (x0 x1 x2 x3 : Value) : Below B w0 (fourBd w g o x0 x1 x2 x3) := ((((h.setCell (p := ⟨g, o, none⟩) hg x0).setCell (p := ⟨g, o + 1, none⟩) hg x1).setCell (p := ⟨g, o + 2, none⟩) hg x2).setCell (p := ⟨g, o + 3, none⟩) hg x3)
theorem fourBd_row {w : World} {g : Nat} {t : TypeId} {l : List Value} (h : Row w g t l) (o : Nat) (x0 x1 x2 x3 : Value) : Row (fourBd w g o x0 x1 x2 x3) g t ((((l.set (o) x0).set (o + 1) x1).set (o + 2) x2).set (o + 3) x3) := ((((h.set (o) x0).set (o + 1) x1).set (o + 2) x2).set (o + 3) x3)
theorem fourBd_other {w : World} {b g : Nat} {t : TypeId} {l : List Value} (h : Row w b t l) (hne : b ≠ g) (o : Nat) (x0 x1 x2 x3 : Value) : Row (fourBd w g o x0 x1 x2 x3) b t l := ((((h.other (o) x0 hne).other (o + 1) x1 hne).other (o + 2) x2 hne).other (o + 3) x3 hne)
theorem setBd (A R : List Value) (k : Nat) (hA : A.length = k * 4) (z0 z1 z2 z3 x0 x1 x2 x3 : Value) : (((((A ++ ([z0, z1, z2, z3] ++ R)).set (k * 4) x0).set (k * 4 + 1) x1).set (k * 4 + 2) x2).set (k * 4 + 3) x3) = A ++ ([x0, x1, x2, x3] ++ R) := by
  have e : ∀ (L : List Value) (j : Nat) (x : Value), (A ++ L).set (k * 4 + j) x = A ++ L.set j x := fun L j x => by
    rw [List.set_append, if_neg (by omega), hA, Nat.add_sub_cancel_left]
  have e0 : ∀ (L : List Value) (x : Value), (A ++ L).set (k * 4) x = A ++ L.set 0 x := fun L x => e L 0 x
  rw [e0, e, e, e]
  rfl
theorem Row.someBd {w : World} {g : Nat} {t : TypeId} {l : List Value} (h : Row w g t l) (k : Nat) (hk : k < l.length) : ∃ v, w.cell? ⟨g, k, none⟩ = some v := ⟨l[k], by rw [h.cell, List.getElem?_eq_getElem hk]⟩
theorem Tryz.infoBd : (Tryz.prog.info? 77).map (fun i => (i.zero, i.size, i.bytes)) = some (some (.agg #[.int .i64 0, .int .i64 0, .int .i64 0, .int .i64 0]), 4, 32) := by kernel_rfl
def zeroBd : Bd := ⟨0, 0, 0, 0⟩
theorem rowBd_zero_get (n i : Nat) (h : i < n * 4) : (rowBd (List.replicate n zeroBd))[i]? = (bdL zeroBd)[i % 4]? := by
  have hi : i / 4 < (List.replicate n zeroBd).length := by simp; omega
  have := rowBd_get (List.replicate n zeroBd) (i / 4) (i % 4) hi (by omega)
  rw [show i / 4 * 4 + i % 4 = i by omega] at this
  rw [this, List.getElem_replicate]
theorem made_zeroBd (n : Nat) : (madeCells (Value.agg #[.int .i64 0, .int .i64 0, .int .i64 0, .int .i64 0]).cells (n * 4)).toList = rowBd (List.replicate n zeroBd) := by
  apply List.ext_getElem?
  intro i
  by_cases h : i < n * 4
  · rw [rowBd_zero_get n i h]
    simp only [madeCells, Value.cells, Array.toList_map, List.getElem?_map]
    have h9 : i % 4 = 0 ∨ i % 4 = 1 ∨ i % 4 = 2 ∨ i % 4 = 3 := by omega
    rcases h9 with h9 | h9 | h9 | h9 <;> simp [h9, h, bdL, zeroBd]
  · rw [List.getElem?_eq_none (by simp [madeCells]; omega), List.getElem?_eq_none (by rw [rowBd_length]; simp; omega)]
set_option maxRecDepth 100000 in
theorem wpList_make_bds {w : World} {ops : Array Oper} {rest : List Oper} {o : Oper} {a : Act} {Q : Exit → Act → World → Prop}
    (hgd : o.guard = none) (l c : Operand) (hop : o.op = Op.makeSlice 30 l c)
    (L : Int) (n : Nat) (hl : a.eval l = .int .i64 L) (hc : a.eval c = .int .i64 L) (hL : L = (n : Int)) (hn : n ≤ 100000000)
    (B : Nat) (w0 : World) (hb : Below B w0 w) (hB : B ≤ w.heap.size)
    (h : ∀ w', Row w' w.heap.size 77 (rowBd (List.replicate n zeroBd)) → Below B w0 w' → wpList Tryz.prog ops Q rest (a.put o.dst (.slice (some ⟨w.heap.size, 0, none⟩) n n)) w') : wpList Tryz.prog ops Q (o :: rest) a w := by
  obtain ⟨i0, hi0, hz0, hz1, hz2⟩ := info_parts Tryz.infoBd
  refine wpList_make_full w hgd l c 30 hop B 77 i0 _ 4 Tryz.underlying30 hi0 hz0 hz1 .i64 .i64 L L n hl hc hL hL (by rw [hz2]; omega) (by unfold maxLen; omega) hB ?_
  intro w' hown hgrow
  rcases hown.2 with ⟨h', _⟩ | ⟨g, cap, cur, h', hbg, hg, hnc, hcm, hcs, htake⟩
  · simp at h'
  · simp only [Value.slice.injEq, Option.some.injEq, Addr.mk.injEq, and_true, true_and] at h'
    obtain ⟨rfl, rfl⟩ := h'
    refine h w' ?_ (hb.trans ((Below.refl B w).grown hgrow hB (by intro k hk; cases hk)))
    unfold Row
    rw [hg, ← made_zeroBd, ← htake, List.take_of_length_le (by simp [hcs])]
theorem rowBd_set (es : List Bd) (k : Nat) (hk : k < es.length) (po : Int) (vl : Int) (tn : Int) (ic : Int) (he : es[k] = ⟨po, vl, tn, ic⟩) :
    (((((rowBd (es.take k ++ List.replicate (es.length - k) zeroBd)).set (k * 4) (.int .i64 po)).set (k * 4 + 1) (.int .i64 vl)).set (k * 4 + 2) (.int .i64 tn)).set (k * 4 + 3) (.int .i64 ic)) = rowBd (es.take (k + 1) ++ List.replicate (es.length - (k + 1)) zeroBd) := by
  have e1 : es.length - k = (es.length - (k + 1)) + 1 := by omega
  rw [e1, List.replicate_succ, rowBd_append, rowBd_cons, List.take_succ_eq_append_getElem hk, List.append_assoc, rowBd_append, List.singleton_append, rowBd_cons, he]
  exact setBd _ _ k (by rw [rowBd_length, List.length_take]; omega) _ _ _ _ _ _ _ _
set_option maxRecDepth 100000 in
theorem toBindS_any (x : Option Addr) (cap : Nat) (es : List Bd) (w : World) (h : ArgBd w x es.length es) (hn : es.length ≤ 1048576) :
    Calls Tryz.prog 22 #[.slice x es.length cap] w fun e w' => ∃ g, e = .returned (.slice (some ⟨g, 0, none⟩) es.length es.length) ∧ w.heap.size ≤ g ∧ Row w' g 77 (rowBd es) ∧ Below w.heap.size w w' := by
  have HE : Hid (∀ e w, Calls Tryz.prog 50 #[bdV e] w fun r w' => r = .returned (bdV e) ∧ Below w.heap.size w w') := toBind_any
  have HX : Hid (ArgBd w x es.length es) := h
  clear h
  go_enter Tryz.func22, Tryz.ntmps22
  go_wp2_with (at_make; refine wpList_make_bds rfl _ _ rfl _ es.length rfl rfl rfl (by omega) w.heap.size w (Below.refl _ _) (Nat.le_refl _) ?_)
  intro w0 hr0 hb0
  have hz : es.take 0 ++ List.replicate (es.length - 0) zeroBd = List.replicate es.length zeroBd := by simp
  rw [← hz] at hr0
  clear hz
  go_wp2_with fail
  go_loopw [4] (fun i wr => ∃ k : Nat, k ≤ es.length ∧ i = .int .i64 k ∧ Row wr w.heap.size 77 (rowBd (es.take k ++ List.replicate (es.length - k) zeroBd)) ∧ Below w.heap.size w wr) (fun i _ => es.length - (intOf i).toNat)
  case atStart => exact ⟨0, Nat.zero_le _, rfl, hr0, hb0⟩
  case round =>
    obtain ⟨k, hk, rfl, hr, hb⟩ := hrel
    by_cases hlt : k < es.length
    · obtain ⟨p, po, vl, tn, ic, rfl, hek, c0, c1, c2, c3⟩ := (HX.out.below hb).at k hlt
      have HEk : Hid (∀ w, Calls Tryz.prog 50 #[.agg #[.int .i64 po, .int .i64 vl, .int .i64 tn, .int .i64 ic]] w fun r w' => r = .returned (.agg #[.int .i64 po, .int .i64 vl, .int .i64 tn, .int .i64 ic]) ∧ Below w.heap.size w w') := HE.out ⟨po, vl, tn, ic⟩
      have hset := rowBd_set es k hlt po vl tn ic hek
      have HS : Hid _ := hset
      clear hset HE hek hr0 hb0
      go_wp2_with fail
      refine (HEk.out _).mono ?_
      rintro e w1 ⟨rfl, hb1⟩
      have hr1 := hr.below hb1 hr.lt
      have hB1 := hb.trans (hb1.mono hb.size)
      clear c0 c1 c2 c3 hb1 HEk hr hb
      have hlr : (rowBd (es.take k ++ List.replicate (es.length - k) zeroBd)).length = es.length * 4 := by rw [rowBd_length]; simp; omega
      obtain ⟨z0, hz0⟩ := Row.someBd hr1 (k * 4) (by omega)
      obtain ⟨z1, hz1⟩ := Row.someBd hr1 (k * 4 + 1) (by omega)
      obtain ⟨z2, hz2⟩ := Row.someBd hr1 (k * 4 + 2) (by omega)
      obtain ⟨z3, hz3⟩ := Row.someBd hr1 (k * 4 + 3) (by omega)
      have f0 := hr1.frozen (k * 4)
      have f1 := hr1.frozen (k * 4 + 1)
      have f2 := hr1.frozen (k * 4 + 2)
      have f3 := hr1.frozen (k * 4 + 3)
      have hr2 := fourBd_row hr1 (k * 4) (.int .i64 po) (.int .i64 vl) (.int .i64 tn) (.int .i64 ic)
      rw [HS.out] at hr2
      have hB2 := fourBd_below hB1 w.heap.size (k * 4) (Nat.le_refl _) (.int .i64 po) (.int .i64 vl) (.int .i64 tn) (.int .i64 ic)
      unfold fourBd at hr2 hB2
      have HH : Hid _ := And.intro hr2 hB2
      clear hr1 hB1 HS hlr hr2 hB2
      go_wp2_with fail
      go_roundw
      case rel => exact ⟨k + 1, hlt, by go_num, HH.out.1, HH.out.2⟩
      case measure => simp [intOf]; omega
    · obtain rfl : k = es.length := by omega
      rw [List.take_length, Nat.sub_self, List.replicate_zero, List.append_nil] at hr
      clear hlt hk
      go_wp2
      go_ret
      exact ⟨_, rfl, Nat.le_refl _, hr, hb⟩
set_option maxRecDepth 100000 in
theorem szBindS_any (x : Option Addr) (len cap : Nat) (L : Int) (w : World) (hl : len ≤ maxLen) (h0 : 0 ≤ L) (h1 : L ≤ 1048576) : Calls Tryz.prog 15 #[.slice x len cap, .int .i64 L] w fun e w' => e = .returned (.int .i64 (if (len : Int) ≤ L then L - (len : Int) else -1)) ∧ w = w' := by
  unfold maxLen at hl
  have z : IntKind.i64.wrap (L - (len : Int)) = L - (len : Int) := wrap_i64_in _ (by omega) (by omega)
  by_cases h : (len : Int) ≤ L
  · rw [if_pos h]
    have d : decide (L - (len : Int) < 0) = false := by simp; omega
    go_enter Tryz.func15, Tryz.ntmps15
    go_wp2
    go_ret
    exact ⟨rfl, rfl⟩
  · rw [if_neg h]
    have d : decide (L - (len : Int) < 0) = true := by simp; omega
    go_enter Tryz.func15, Tryz.ntmps15
    go_wp2
    go_ret
    exact ⟨rfl, rfl⟩
end Go.Proofs.YtialedffpaoacaaGreatDoor
/- The laws' own marks in lists of Binds: written, and looked for. (Written by gen_markflat.py.) -/
namespace Go.Proofs.YtialedffpaoacaaGreatDoor
open Go.RowKit Go.Sort

def mkBd (K i : Nat) : Bd := ⟨(K : Int) + 4 * (i : Int) + 0, (K : Int) + 4 * (i : Int) + 1, (K : Int) + 4 * (i : Int) + 2, (K : Int) + 4 * (i : Int) + 3⟩
def mksBd (K n : Nat) : List Bd := (List.range n).map (mkBd K)
theorem mksBd_length (K n : Nat) : (mksBd K n).length = n := by simp [mksBd]
theorem mksBd_set (K : Nat) (es : List Bd) (rest : List Value) (k : Nat) (hk : k < es.length) :
    (((((rowBd (mksBd K k ++ es.drop k) ++ rest).set (k * 4) (.int .i64 ((K : Int) + 4 * (k : Int) + 0))).set (k * 4 + 1) (.int .i64 ((K : Int) + 4 * (k : Int) + 1))).set (k * 4 + 2) (.int .i64 ((K : Int) + 4 * (k : Int) + 2))).set (k * 4 + 3) (.int .i64 ((K : Int) + 4 * (k : Int) + 3))) = rowBd (mksBd K (k + 1) ++ es.drop (k + 1)) ++ rest := by
  have e : es.drop k = es[k] :: es.drop (k + 1) := List.drop_eq_getElem_cons hk
  have e2 : mksBd K (k + 1) = mksBd K k ++ [mkBd K k] := by simp [mksBd, List.range_succ]
  rw [e, e2, rowBd_append, rowBd_cons, List.append_assoc, List.append_assoc, List.append_assoc, rowBd_append, List.singleton_append, rowBd_cons, List.append_assoc]
  exact setBd _ _ k (by rw [rowBd_length, mksBd_length]; omega) _ _ _ _ _ _ _ _
set_option maxRecDepth 100000 in
set_option maxHeartbeats 4000000 in
theorem markBindS_ix (K g n cv : Nat) (es : List Bd) (rest : List Value) (w : World) (hn : n = es.length) (hK : K ≤ 100000000) (h8 : n ≤ 100000000) (hr : Row w g 77 (rowBd es ++ rest)) :
    Calls Tryz.prog 34 #[.slice (some ⟨g, 0, none⟩) n cv, .int .i64 K] w fun e w' => e = .returned (.int .i64 ((K : Int) + 4 * (n : Int))) ∧ Row w' g 77 (rowBd (mksBd K n) ++ rest) ∧ Below g w w' ∧ ∀ b t l, b ≠ g → Row w b t l → Row w' b t l := by
  have HN : Hid (n = es.length) := hn
  have hr0 : Row w g 77 (rowBd (mksBd K 0 ++ es.drop 0) ++ rest) := hr
  clear hn hr
  go_enter Tryz.func34, Tryz.ntmps34
  go_wp2_with fail
  go_loopw [5, 1] (fun i m wr => ∃ k : Nat, k ≤ n ∧ i = .int .i64 k ∧ m = .int .i64 ((K : Int) + 4 * (k : Int)) ∧ Row wr g 77 (rowBd (mksBd K k ++ es.drop k) ++ rest) ∧ Below g w wr ∧ ∀ b t l, b ≠ g → Row w b t l → Row wr b t l) (fun i _ _ => n - (intOf i).toNat)
  case atStart => exact ⟨0, Nat.zero_le _, rfl, by go_num, hr0, Below.refl _ _, fun _ _ _ _ h => h⟩
  case round =>
    obtain ⟨k, hk, rfl, rfl, hr, hb, hoth⟩ := hrel
    have HOT : Hid (∀ b t l, b ≠ g → Row w b t l → Row wr b t l) := hoth
    clear hr0 hoth
    by_cases hlt : k < n
    · have hlen : (mksBd K k ++ es.drop k).length = n := by rw [List.length_append, mksBd_length, List.length_drop, ← HN.out]; omega
      have hlr : k * 4 + 3 < (rowBd (mksBd K k ++ es.drop k) ++ rest).length := by rw [List.length_append, rowBd_length, hlen]; omega
      obtain ⟨z0, c0⟩ := Row.someBd hr (k * 4) (by omega)
      obtain ⟨z1, c1⟩ := Row.someBd hr (k * 4 + 1) (by omega)
      obtain ⟨z2, c2⟩ := Row.someBd hr (k * 4 + 2) (by omega)
      obtain ⟨z3, c3⟩ := Row.someBd hr (k * 4 + 3) (by omega)
      have f0 := hr.frozen (k * 4)
      have f1 := hr.frozen (k * 4 + 1)
      have f2 := hr.frozen (k * 4 + 2)
      have f3 := hr.frozen (k * 4 + 3)
      have hr2 := fourBd_row hr (k * 4) (.int .i64 ((K : Int) + 4 * (k : Int) + 0)) (.int .i64 ((K : Int) + 4 * (k : Int) + 1)) (.int .i64 ((K : Int) + 4 * (k : Int) + 2)) (.int .i64 ((K : Int) + 4 * (k : Int) + 3))
      rw [mksBd_set K es rest k (by rw [← HN.out]; exact hlt)] at hr2
      have hB2 := fourBd_below hb g (k * 4) (Nat.le_refl _) (.int .i64 ((K : Int) + 4 * (k : Int) + 0)) (.int .i64 ((K : Int) + 4 * (k : Int) + 1)) (.int .i64 ((K : Int) + 4 * (k : Int) + 2)) (.int .i64 ((K : Int) + 4 * (k : Int) + 3))
      have hO2 := fun b t l (hne : b ≠ g) (h : Row w b t l) => fourBd_other (HOT.out b t l hne h) hne (k * 4) (.int .i64 ((K : Int) + 4 * (k : Int) + 0)) (.int .i64 ((K : Int) + 4 * (k : Int) + 1)) (.int .i64 ((K : Int) + 4 * (k : Int) + 2)) (.int .i64 ((K : Int) + 4 * (k : Int) + 3))
      unfold fourBd at hr2 hB2 hO2
      have HH : Hid _ := And.intro hr2 (And.intro hB2 hO2)
      clear hr hb hr2 hB2 hlen hlr hO2 HOT
      go_wp2_with fail
      rw [show (K : Int) + 4 * (k : Int) + 1 + 1 + 1 + 1 = (K : Int) + 4 * ((k + 1 : Nat) : Int) by omega, show (K : Int) + 4 * (k : Int) + 1 + 1 + 1 = (K : Int) + 4 * (k : Int) + 3 by omega, show (K : Int) + 4 * (k : Int) + 1 + 1 = (K : Int) + 4 * (k : Int) + 2 by omega]
      refine ⟨⟨k + 1, hlt, by go_num, rfl, HH.out.1, HH.out.2.1, HH.out.2.2⟩, ?_⟩
      simp [intOf]
      omega
    · obtain rfl : k = n := by omega
      have hre : mksBd K k ++ es.drop k = mksBd K k := by rw [HN.out, List.drop_length, List.append_nil]
      rw [hre] at hr
      clear hlt hk hre
      go_wp2
      go_ret
      exact ⟨rfl, hr, hb, HOT.out⟩
set_option maxRecDepth 100000 in
set_option maxHeartbeats 4000000 in
theorem markBindS_0 (K : Nat) (p : Option Addr) (cv : Nat) (w : World) : Calls Tryz.prog 34 #[.slice p 0 cv, .int .i64 K] w fun e w' => e = .returned (.int .i64 K) ∧ w = w' := by
  go_enter Tryz.func34, Tryz.ntmps34
  go_wp2_with fail
  go_loop [5, 1] (fun i k => i = .int .i64 0 ∧ k = .int .i64 K) (fun _ _ => 0)
  case atStart => exact ⟨rfl, rfl⟩
  case round =>
    obtain ⟨rfl, rfl⟩ := hrel
    go_wp2
    go_ret
    exact ⟨rfl, rfl⟩
theorem markBindS_own (K : Nat) (p : Option Addr) (n cv base : Nat) (es : List Bd) (w : World) (hn : n = es.length) (hK : K ≤ 100000000) (h8 : n ≤ 100000000) (h : w.ownsRow base 77 4 (.slice p n cv) n (rowBd es)) :
    Calls Tryz.prog 34 #[.slice p n cv, .int .i64 K] w fun e w' => e = .returned (.int .i64 ((K : Int) + 4 * (n : Int))) ∧ w'.ownsRow base 77 4 (.slice p n cv) n (rowBd (mksBd K n)) ∧ Below base w w' ∧ ∀ b t l, p ≠ some ⟨b, 0, none⟩ → Row w b t l → Row w' b t l := by
  rcases owns_opened h with h0 | ⟨g, rest, rfl, hb, h1, h2, hr, hl⟩
  · have hq : es = [] := List.length_eq_zero_iff.1 (by omega)
    subst hq
    subst h0
    exact (markBindS_0 K p cv w).mono fun e w' ⟨he, hw⟩ => ⟨by rw [he]; simp, hw ▸ h, hw ▸ Below.refl _ _, fun _ _ _ _ h => hw ▸ h⟩
  · refine (markBindS_ix K g n cv es rest w hn hK h8 hr).mono fun e w' ⟨he, hr', hb', ho'⟩ => ⟨he, owns_shut (by rw [rowBd_length, mksBd_length]; omega) hb h1 h2 hr' ?_, hb'.mono hb, fun b t l hp h => ho' b t l (fun e => hp (by rw [e])) h⟩
    rw [List.length_append, rowBd_length, mksBd_length]
    rw [List.length_append, rowBd_length, ← hn] at hl
    exact hl
set_option maxRecDepth 100000 in
set_option maxHeartbeats 4000000 in
theorem heldBindS_ix (K : Nat) (p : Option Addr) (n cv : Nat) (w : World) (hK : K ≤ 100000000) (h8 : n ≤ 100000000) (hE : BdsIn w p (mksBd K n)) :
    Calls Tryz.prog 37 #[.slice p n cv, .int .i64 K] w fun e w' => e = .returned (.int .i64 ((K : Int) + 4 * (n : Int))) ∧ w = w' := by
  have HX : Hid (BdsIn w p (mksBd K n)) := hE
  clear hE
  go_enter Tryz.func37, Tryz.ntmps37
  go_wp2_with fail
  go_loop [5, 1] (fun i m => ∃ k : Nat, k ≤ n ∧ i = .int .i64 k ∧ m = .int .i64 ((K : Int) + 4 * (k : Int))) (fun i _ => n - (intOf i).toNat)
  case atStart => exact ⟨0, Nat.zero_le _, rfl, by go_num⟩
  case round =>
    obtain ⟨k, hk, rfl, rfl⟩ := hrel
    by_cases hlt : k < n
    · have dk : decide ((k : Int) < (n : Int)) = true := by simpa using hlt
      obtain ⟨g, m0, m1, m2, m3, rfl, hg, hek, c0, c1, c2, c3⟩ := HX.out.at k (by rw [mksBd_length]; exact hlt)
      have hm : (mksBd K n)[k]'(by rw [mksBd_length]; exact hlt) = mkBd K k := by simp [mksBd]
      rw [hm] at hek
      simp only [mkBd, Bd.mk.injEq] at hek
      obtain ⟨rfl, rfl, rfl, rfl⟩ := hek
      simp only [Int.add_zero] at c0
      have d0 : ((K : Int) + 4 * (k : Int) != (K : Int) + 4 * (k : Int)) = false := by simp
      have d1 : ((K : Int) + 4 * (k : Int) + 1 != (K : Int) + 4 * (k : Int) + 1) = false := by simp
      have d2 : ((K : Int) + 4 * (k : Int) + 2 != (K : Int) + 4 * (k : Int) + 1 + 1) = false := by simp; omega
      have d3 : ((K : Int) + 4 * (k : Int) + 3 != (K : Int) + 4 * (k : Int) + 1 + 1 + 1) = false := by simp; omega
      clear hm HX
      go_wp2
      go_round
      case rel => exact ⟨k + 1, hlt, by go_num, by rw [show (K : Int) + 4 * (k : Int) + 1 + 1 + 1 + 1 = (K : Int) + 4 * ((k + 1 : Nat) : Int) by omega]⟩
      case measure => simp [intOf]; omega
    · obtain rfl : k = n := by omega
      have dk : decide ((k : Int) < (k : Int)) = false := by simp
      clear hlt hk HX
      go_wp2
      go_ret
      exact ⟨rfl, rfl⟩
end Go.Proofs.YtialedffpaoacaaGreatDoor
/- The laws' own Leaks handed in: opened. (Written by gen_lk.py.) -/
namespace Go.Proofs.YtialedffpaoacaaGreatDoor
open Go.ChangeShapes Go.WideShapes Go.RowKit Go.Deep Go.WideElems Go.Maps Go.Joins

def lkL (f : Lk) : List Value := [.int .i64 f.fr, .int .i64 f.tt, .int .i64 f.a, .int .i64 f.l, .int .i64 f.ad, .int .i64 f.tg]
theorem array6k {α : Type} {cs : Array α} (h : cs.size = 6) : ∃ c0 c1 c2 c3 c4 c5, cs = #[c0, c1, c2, c3, c4, c5] := by
  obtain ⟨l⟩ := cs
  match l, h with
  | [c0, c1, c2, c3, c4, c5], _ => exact ⟨c0, c1, c2, c3, c4, c5, rfl⟩
/-- All six numbers of a Leak are of 64 bits. -/
def LkW (f : Lk) : Prop := (Lit.int .i64 f.fr).wf = true ∧ (Lit.int .i64 f.tt).wf = true ∧ (Lit.int .i64 f.a).wf = true ∧ (Lit.int .i64 f.l).wf = true ∧ (Lit.int .i64 f.ad).wf = true ∧ (Lit.int .i64 f.tg).wf = true
theorem Tryz.cellsLeak : Tryz.prog.cellsOf 117 = 6 := by kernel_rfl
theorem Tryz.cellsNetK : Tryz.prog.cellsOf 115 = 2 := by kernel_rfl
theorem Tryz.cellsIntK : Tryz.prog.cellsOf 2 = 1 := by kernel_rfl
section
variable {H : Type} {enc : TypeId × Value → H} {w : World} {base : Nat} {spare : Nat → Bool} {held : Bool}
set_option maxRecDepth 100000 in
theorem open_lk {fuel : Nat} {cs : List Value} {x : DataW H × List MemPlace} (h : DataW.trod enc Tryz.prog w base spare held fuel 117 cs = some x) : ∃ f : Lk, cs = lkL f ∧ LkW f := by
  obtain ⟨xs, n, _, _, hl, hx, hg⟩ := DataW.trod_struct Tryz.underlying117 h
  rw [Tryz.cellsLeak] at hl
  match cs, hl, xs, hx with
  | [c0, c1, c2, c3, c4, c5], _, [y0, y1, y2, y3, y4], _ =>
    have h0 : DataW.trod enc Tryz.prog w base spare held n 2 ((([c0, c1, c2, c3, c4, c5] : List Value).drop 0).take (Tryz.prog.cellsOf 2)) = [y0, y1, y2, y3, y4][0]? := hg 0 _ rfl
    rw [Tryz.cellsIntK] at h0
    replace h0 : DataW.trod enc Tryz.prog w base spare held n 2 [c0] = some y0 := h0
    have h1 : DataW.trod enc Tryz.prog w base spare held n 2 ((([c0, c1, c2, c3, c4, c5] : List Value).drop 1).take (Tryz.prog.cellsOf 2)) = [y0, y1, y2, y3, y4][1]? := hg 1 _ rfl
    rw [Tryz.cellsIntK] at h1
    replace h1 : DataW.trod enc Tryz.prog w base spare held n 2 [c1] = some y1 := h1
    have h2 : DataW.trod enc Tryz.prog w base spare held n 115 ((([c0, c1, c2, c3, c4, c5] : List Value).drop 2).take (Tryz.prog.cellsOf 115)) = [y0, y1, y2, y3, y4][2]? := hg 2 _ rfl
    rw [Tryz.cellsNetK] at h2
    replace h2 : DataW.trod enc Tryz.prog w base spare held n 115 [c2, c3] = some y2 := h2
    have h3 : DataW.trod enc Tryz.prog w base spare held n 2 ((([c0, c1, c2, c3, c4, c5] : List Value).drop 4).take (Tryz.prog.cellsOf 2)) = [y0, y1, y2, y3, y4][3]? := hg 3 _ rfl
    rw [Tryz.cellsIntK] at h3
    replace h3 : DataW.trod enc Tryz.prog w base spare held n 2 [c4] = some y3 := h3
    have h4 : DataW.trod enc Tryz.prog w base spare held n 2 ((([c0, c1, c2, c3, c4, c5] : List Value).drop 5).take (Tryz.prog.cellsOf 2)) = [y0, y1, y2, y3, y4][4]? := hg 4 _ rfl
    rw [Tryz.cellsIntK] at h4
    replace h4 : DataW.trod enc Tryz.prog w base spare held n 2 [c5] = some y4 := h4
    obtain ⟨zs, k, _, _, _, hz, hk⟩ := DataW.trod_struct Tryz.underlying115 h2
    match zs, hz with
    | [z0, z1], _ =>
      have k0 : DataW.trod enc Tryz.prog w base spare held k 2 ((([c2, c3] : List Value).drop 0).take (Tryz.prog.cellsOf 2)) = [z0, z1][0]? := hk 0 _ rfl
      rw [Tryz.cellsIntK] at k0
      replace k0 : DataW.trod enc Tryz.prog w base spare held k 2 [c2] = some z0 := k0
      have k1 : DataW.trod enc Tryz.prog w base spare held k 2 ((([c2, c3] : List Value).drop 1).take (Tryz.prog.cellsOf 2)) = [z0, z1][1]? := hk 1 _ rfl
      rw [Tryz.cellsIntK] at k1
      replace k1 : DataW.trod enc Tryz.prog w base spare held k 2 [c3] = some z1 := k1
      obtain ⟨fr, efr, _, wfr⟩ := DataW.trod_int Tryz.underlying2 h0
      obtain ⟨tt, ett, _, wtt⟩ := DataW.trod_int Tryz.underlying2 h1
      obtain ⟨a, ea, _, wa⟩ := DataW.trod_int Tryz.underlying2 k0
      obtain ⟨l, el, _, wl⟩ := DataW.trod_int Tryz.underlying2 k1
      obtain ⟨ad, ead, _, wad⟩ := DataW.trod_int Tryz.underlying2 h3
      obtain ⟨tg, etg, _, wtg⟩ := DataW.trod_int Tryz.underlying2 h4
      simp only [List.cons.injEq, and_true] at efr ett ea el ead etg
      subst efr ett ea el ead etg
      exact ⟨⟨fr, tt, a, l, ad, tg⟩, rfl, wfr, wtt, wa, wl, wad, wtg⟩
set_option maxRecDepth 100000 in
theorem open_lkV {r : Reach} {b0 : Nat} {v : Value} {d : DataW H} {p : List MemPlace} (hv : Value.okWide Tryz.prog w r b0 117 v) (h : DataW.Trod enc Tryz.prog w base spare held 117 v d p) :
    ∃ f : Lk, v = lkV f ∧ LkW f := by
  obtain ⟨cs, rfl, hsz⟩ := okWide_struct Tryz.underlying117 hv
  obtain ⟨c0, c1, c2, c3, c4, c5, rfl⟩ := array6k (hsz.trans Tryz.cellsLeak)
  obtain ⟨fuel, hf⟩ := h
  obtain ⟨f, he, hw⟩ := open_lk hf
  refine ⟨f, ?_, hw⟩
  simp only [Value.cells, lkL] at he
  simp only [List.cons.injEq, and_true] at he
  obtain ⟨rfl, rfl, rfl, rfl, rfl, rfl⟩ := he
  rfl
end
end Go.Proofs.YtialedffpaoacaaGreatDoor
/- Lists of Leaks in memory. (Written by gen_lks.py.) -/
namespace Go.Proofs.YtialedffpaoacaaGreatDoor
open Go.RowKit Go.Sort

def rowL (rs : List Lk) : List Value := rs.flatMap lkL
theorem lkL_length (r : Lk) : (lkL r).length = 6 := rfl
theorem rowL_length (rs : List Lk) : (rowL rs).length = 6 * rs.length := by
  induction rs with
  | nil => rfl
  | cons e es ih => simp only [rowL, List.flatMap_cons, List.length_append, List.length_cons] at ih ⊢; rw [ih, lkL_length]; omega
theorem rowL_append (a b : List Lk) : rowL (a ++ b) = rowL a ++ rowL b := by simp [rowL]
theorem rowL_cons (e : Lk) (es : List Lk) : rowL (e :: es) = lkL e ++ rowL es := rfl
theorem rowL_get (es : List Lk) (i k : Nat) (hi : i < es.length) (hk : k < 6) : (rowL es)[i * 6 + k]? = (lkL es[i])[k]? := by
  induction es generalizing i with
  | nil => simp at hi
  | cons e es ih =>
    rw [rowL_cons]
    match i with
    | 0 => rw [Nat.zero_mul, Nat.zero_add, List.getElem?_append_left (by rw [lkL_length]; omega)]; rfl
    | i + 1 =>
      rw [List.getElem?_append_right (by rw [lkL_length]; omega), lkL_length, show (i + 1) * 6 + k - 6 = i * 6 + k by omega, ih i (by simpa using hi)]
      rfl
theorem rowL_one (es : List Lk) : ∀ u ∈ rowL es, u.oneCell' = true := by
  intro u hu
  simp only [rowL, List.mem_flatMap, lkL, List.mem_cons, List.not_mem_nil, or_false] at hu
  obtain ⟨e, _, h⟩ := hu
  rcases h with h | h | h | h | h | h <;> (rw [h]; rfl)
/-- The slice (p, rs.length) holds the Leaks rs. -/
def LksIn (w : World) (p : Option Addr) (rs : List Lk) : Prop := rs = [] ∨ ∃ g, p = some ⟨g, 0, none⟩ ∧ g < w.heap.size ∧ ∀ j u, (rowL rs)[j]? = some u → w.cell? ⟨g, j, none⟩ = some u
theorem LksIn.below {w w' : World} {p : Option Addr} {rs : List Lk} (h : LksIn w p rs) (hb : Below w.heap.size w w') : LksIn w' p rs := by
  rcases h with h | ⟨g, hp, hg, hc⟩
  · exact .inl h
  · refine .inr ⟨g, hp, by have := hb.size; omega, fun j u hj => ?_⟩
    rw [hb.cell (p := ⟨g, j, none⟩) hg]
    exact hc j u hj
theorem LksIn.alloc {w : World} {p : Option Addr} {rs : List Lk} (h : LksIn w p rs) (o : Obj) : LksIn (w.alloc o) p rs := h.below (ent_new0 w o)
theorem LksIn.at {w : World} {p : Option Addr} {rs : List Lk} (h : LksIn w p rs) (i : Nat) (hi : i < rs.length) : ∃ g fr tt a l ad tg, p = some ⟨g, 0, none⟩ ∧ g < w.heap.size ∧ rs[i] = ⟨fr, tt, a, l, ad, tg⟩ ∧ w.cell? ⟨g, i * 6, none⟩ = some (.int .i64 fr) ∧ w.cell? ⟨g, i * 6 + 1, none⟩ = some (.int .i64 tt) ∧ w.cell? ⟨g, i * 6 + 2, none⟩ = some (.int .i64 a) ∧ w.cell? ⟨g, i * 6 + 3, none⟩ = some (.int .i64 l) ∧ w.cell? ⟨g, i * 6 + 4, none⟩ = some (.int .i64 ad) ∧ w.cell? ⟨g, i * 6 + 5, none⟩ = some (.int .i64 tg) := by
  rcases h with rfl | ⟨g, hp, hg, hc⟩
  · simp at hi
  · exact ⟨g, rs[i].fr, rs[i].tt, rs[i].a, rs[i].l, rs[i].ad, rs[i].tg, hp, hg, rfl, hc _ _ (rowL_get rs i 0 hi (by omega)), hc _ _ (rowL_get rs i 1 hi (by omega)), hc _ _ (rowL_get rs i 2 hi (by omega)), hc _ _ (rowL_get rs i 3 hi (by omega)), hc _ _ (rowL_get rs i 4 hi (by omega)), hc _ _ (rowL_get rs i 5 hi (by omega))⟩
theorem lksIn_row {w : World} {g : Nat} {t : TypeId} {rs : List Lk} (h : Row w g t (rowL rs)) : LksIn w (some ⟨g, 0, none⟩) rs := .inr ⟨g, rfl, h.lt, fun j _ hj => (h.cell j).trans hj⟩
end Go.Proofs.YtialedffpaoacaaGreatDoor
/- The laws' own lists of Leaks: opened. (Written by gen_lks.py.) -/
namespace Go.Proofs.YtialedffpaoacaaGreatDoor
open Go.ChangeShapes Go.WideShapes Go.RowKit Go.Sort Go.Deep Go.Joins

/-- The slice (x, len) that was handed in holds the Leaks rs. -/
def ArgL (w : World) (x : Option Addr) (len : Nat) (rs : List Lk) : Prop := rs.length = len ∧ len ≤ maxLen ∧ (∀ e ∈ rs, LkW e) ∧ ∀ i, (h : i < rs.length) → ∃ p, x = some p ∧ w.cell? (p.add (i * 6)) = some (.int .i64 rs[i].fr) ∧ w.cell? (p.add (i * 6 + 1)) = some (.int .i64 rs[i].tt) ∧ w.cell? (p.add (i * 6 + 2)) = some (.int .i64 rs[i].a) ∧ w.cell? (p.add (i * 6 + 3)) = some (.int .i64 rs[i].l) ∧ w.cell? (p.add (i * 6 + 4)) = some (.int .i64 rs[i].ad) ∧ w.cell? (p.add (i * 6 + 5)) = some (.int .i64 rs[i].tg)
theorem ArgL.below {w w' : World} {x : Option Addr} {len : Nat} {rs : List Lk} (h : ArgL w x len rs) (hb : Below w.heap.size w w') : ArgL w' x len rs := by
  obtain ⟨h1, h2, h3, h4⟩ := h
  refine ⟨h1, h2, h3, fun i hi => ?_⟩
  obtain ⟨p, hp, c0, c1, c2, c3, c4, c5⟩ := h4 i hi
  have hk : ∀ k v, w.cell? (p.add k) = some v → w'.cell? (p.add k) = some v := fun k v hv => by rw [hb.cell (World.block_lt_of_cell? w _ hv)]; exact hv
  exact ⟨p, hp, hk _ _ c0, hk _ _ c1, hk _ _ c2, hk _ _ c3, hk _ _ c4, hk _ _ c5⟩
theorem addr_moreL (p : Addr) (m j : Nat) (hj : j ≠ 0) : p.add (m + j) = ⟨(p.add m).block, (p.add m).off + j, none⟩ := by
  rw [← Addr.add_add]
  generalize p.add m = q
  unfold Addr.add
  rw [if_neg hj]
theorem ArgL.at {w : World} {x : Option Addr} {len : Nat} {rs : List Lk} (h : ArgL w x len rs) (i : Nat) (hi : i < rs.length) : ∃ p fr tt a l ad tg, x = some p ∧ rs[i] = ⟨fr, tt, a, l, ad, tg⟩ ∧ w.cell? (p.add (i * 6)) = some (.int .i64 fr) ∧ w.cell? ⟨(p.add (i * 6)).block, (p.add (i * 6)).off + 1, none⟩ = some (.int .i64 tt) ∧ w.cell? ⟨(p.add (i * 6)).block, (p.add (i * 6)).off + 2, none⟩ = some (.int .i64 a) ∧ w.cell? ⟨(p.add (i * 6)).block, (p.add (i * 6)).off + 3, none⟩ = some (.int .i64 l) ∧ w.cell? ⟨(p.add (i * 6)).block, (p.add (i * 6)).off + 4, none⟩ = some (.int .i64 ad) ∧ w.cell? ⟨(p.add (i * 6)).block, (p.add (i * 6)).off + 5, none⟩ = some (.int .i64 tg) := by
  obtain ⟨p, hp, c0, c1, c2, c3, c4, c5⟩ := h.2.2.2 i hi
  rw [addr_moreL _ _ _ (by omega)] at c1 c2 c3 c4 c5
  exact ⟨p, _, _, _, _, _, _, hp, rfl, c0, c1, c2, c3, c4, c5⟩
section
variable {H : Type} {enc : TypeId × Value → H} {w : World} {base : Nat} {spare : Nat → Bool} {held : Bool}
set_option maxRecDepth 100000 in
theorem open_lks {fuel : Nat} {v : Value} {x : DataW H × List MemPlace} (h : DataW.trod enc Tryz.prog w base spare held fuel 24 [v] = some x) : ∃ y len cap rs, v = .slice y len cap ∧ ArgL w y len rs := by
  rcases open_slice Tryz.underlying24 h with ⟨h0, _⟩ | ⟨a, len, cap, m, n, D, Pl, h0, hb, hl, hm, hmm, _, hx⟩
  · simp only [List.cons.injEq, and_true] at h0
    exact ⟨none, 0, 0, [], h0, rfl, Nat.zero_le _, by simp, fun i hi => absurd hi (by simp)⟩
  · simp only [List.cons.injEq, and_true] at h0
    have hlm : len ≤ m := by rw [hmm]; split <;> omega
    have each : ∀ i, i < m → ∃ e : Lk, LkW e ∧ w.cell? (a.add (i * 6)) = some (.int .i64 e.fr) ∧ w.cell? (a.add (i * 6 + 1)) = some (.int .i64 e.tt) ∧ w.cell? (a.add (i * 6 + 2)) = some (.int .i64 e.a) ∧ w.cell? (a.add (i * 6 + 3)) = some (.int .i64 e.l) ∧ w.cell? (a.add (i * 6 + 4)) = some (.int .i64 e.ad) ∧ w.cell? (a.add (i * 6 + 5)) = some (.int .i64 e.tg) := by
      intro i hi
      obtain ⟨cs', h1, h2⟩ := hx i hi
      rw [Tryz.cellsLeak] at h1
      obtain ⟨e, rfl, hw⟩ := open_lk h2
      obtain ⟨_, _, hcell⟩ := World.cells?_some h1
      have hadd : ∀ j k, (a.add j).add k = a.add (j + k) := fun j k => by
        unfold Addr.add
        by_cases hj : j = 0
        · subst hj; by_cases hk : k = 0 <;> simp [hk]
        · by_cases hk : k = 0
          · simp [hj, hk]
          · simp [hj, hk, Nat.add_assoc]
      refine ⟨e, hw, ?_⟩
      have k0 := hcell 0 (by omega)
      have k1 := hcell 1 (by omega)
      have k2 := hcell 2 (by omega)
      have k3 := hcell 3 (by omega)
      have k4 := hcell 4 (by omega)
      have k5 := hcell 5 (by omega)
      simp only [hadd, Nat.add_zero, lkL] at k0 k1 k2 k3 k4 k5
      exact ⟨by simpa using k0, by simpa using k1, by simpa using k2, by simpa using k3, by simpa using k4, by simpa using k5⟩
    obtain ⟨E, hE⟩ := choose_lt (α := Lk) (p := fun i e => LkW e ∧ w.cell? (a.add (i * 6)) = some (.int .i64 e.fr) ∧ w.cell? (a.add (i * 6 + 1)) = some (.int .i64 e.tt) ∧ w.cell? (a.add (i * 6 + 2)) = some (.int .i64 e.a) ∧ w.cell? (a.add (i * 6 + 3)) = some (.int .i64 e.l) ∧ w.cell? (a.add (i * 6 + 4)) = some (.int .i64 e.ad) ∧ w.cell? (a.add (i * 6 + 5)) = some (.int .i64 e.tg)) each
    refine ⟨some a, len, cap, (List.range len).map E, h0, by simp, by omega, ?_, ?_⟩
    · intro e he
      simp only [List.mem_map, List.mem_range] at he
      obtain ⟨i, hi, rfl⟩ := he
      exact (hE i (by omega)).1
    · intro i hi
      simp only [List.length_map, List.length_range] at hi
      refine ⟨a, rfl, ?_⟩
      simp only [List.getElem_map, List.getElem_range]
      exact (hE i (by omega)).2
end
end Go.Proofs.YtialedffpaoacaaGreatDoor
/- The laws' own lists of Leaks measured and handed over. (Written by gen_lks.py.) -/
namespace Go.Proofs.YtialedffpaoacaaGreatDoor
open Go.RowKit Go.Sort

def sixL (w : World) (g o : Nat) (x0 x1 x2 x3 x4 x5 : Value) : World := ((((((w.setCell ⟨g, o, none⟩ x0).setCell ⟨g, o + 1, none⟩ x1).setCell ⟨g, o + 2, none⟩ x2).setCell ⟨g, o + 3, none⟩ x3).setCell ⟨g, o + 4, none⟩ x4).setCell ⟨g, o + 5, none⟩ x5)
theorem sixL_below {B : Nat} {w0 w : World} (h : Below B w0 w) (g o : Nat) (hg : B ≤ g) (x0 x1 x2 x3 x4 x5 : Value) : Below B w0 (sixL w g o x0 x1 x2 x3 x4 x5) := ((((((h.setCell (p := ⟨g, o, none⟩) hg x0).setCell (p := ⟨g, o + 1, none⟩) hg x1).setCell (p := ⟨g, o + 2, none⟩) hg x2).setCell (p := ⟨g, o + 3, none⟩) hg x3).setCell (p := ⟨g, o + 4, none⟩) hg x4).setCell (p := ⟨g, o + 5, none⟩) hg x5)
theorem sixL_row {w : World} {g : Nat} {t : TypeId} {l : List Value} (h : Row w g t l) (o : Nat) (x0 x1 x2 x3 x4 x5 : Value) : Row (sixL w g o x0 x1 x2 x3 x4 x5) g t ((((((l.set (o) x0).set (o + 1) x1).set (o + 2) x2).set (o + 3) x3).set (o + 4) x4).set (o + 5) x5) := ((((((h.set (o) x0).set (o + 1) x1).set (o + 2) x2).set (o + 3) x3).set (o + 4) x4).set (o + 5) x5)
theorem sixL_other {w : World} {b g : Nat} {t : TypeId} {l : List Value} (h : Row w b t l) (hne : b ≠ g) (o : Nat) (x0 x1 x2 x3 x4 x5 : Value) : Row (sixL w g o x0 x1 x2 x3 x4 x5) b t l := ((((((h.other (o) x0 hne).other (o + 1) x1 hne).other (o + 2) x2 hne).other (o + 3) x3 hne).other (o + 4) x4 hne).other (o + 5) x5 hne)
theorem set6L (A R : List Value) (k : Nat) (hA : A.length = k * 6) (z0 z1 z2 z3 z4 z5 x0 x1 x2 x3 x4 x5 : Value) : (((((((A ++ ([z0, z1, z2, z3, z4, z5] ++ R)).set (k * 6) x0).set (k * 6 + 1) x1).set (k * 6 + 2) x2).set (k * 6 + 3) x3).set (k * 6 + 4) x4).set (k * 6 + 5) x5) = A ++ ([x0, x1, x2, x3, x4, x5] ++ R) := by
  have e : ∀ (L : List Value) (j : Nat) (x : Value), (A ++ L).set (k * 6 + j) x = A ++ L.set j x := fun L j x => by
    rw [List.set_append, if_neg (by omega), hA, Nat.add_sub_cancel_left]
  have e0 : ∀ (L : List Value) (x : Value), (A ++ L).set (k * 6) x = A ++ L.set 0 x := fun L x => e L 0 x
  rw [e0, e, e, e, e, e]
  rfl
theorem Row.someL {w : World} {g : Nat} {t : TypeId} {l : List Value} (h : Row w g t l) (k : Nat) (hk : k < l.length) : ∃ v, w.cell? ⟨g, k, none⟩ = some v := ⟨l[k], by rw [h.cell, List.getElem?_eq_getElem hk]⟩
theorem Tryz.infoL : (Tryz.prog.info? 113).map (fun i => (i.zero, i.size, i.bytes)) = some (some (.agg #[.int .i64 0, .int .i64 0, .int .i64 0, .int .i64 0, .int .i64 0, .int .i64 0]), 6, 48) := by kernel_rfl
def zeroLk : Lk := ⟨0, 0, 0, 0, 0, 0⟩
theorem rowL_zero_get (n i : Nat) (h : i < n * 6) : (rowL (List.replicate n zeroLk))[i]? = some (.int .i64 0) := by
  have hi : i / 6 < (List.replicate n zeroLk).length := by simp; omega
  have := rowL_get (List.replicate n zeroLk) (i / 6) (i % 6) hi (by omega)
  rw [show i / 6 * 6 + i % 6 = i by omega] at this
  rw [this, List.getElem_replicate]
  have h9 : i % 6 = 0 ∨ i % 6 = 1 ∨ i % 6 = 2 ∨ i % 6 = 3 ∨ i % 6 = 4 ∨ i % 6 = 5 := by omega
  rcases h9 with h | h | h | h | h | h <;> (rw [h]; rfl)
theorem made_zeroL (n : Nat) : (madeCells (Value.agg #[.int .i64 0, .int .i64 0, .int .i64 0, .int .i64 0, .int .i64 0, .int .i64 0]).cells (n * 6)).toList = rowL (List.replicate n zeroLk) := by
  apply List.ext_getElem?
  intro i
  by_cases h : i < n * 6
  · rw [rowL_zero_get n i h]
    simp only [madeCells, Value.cells, Array.toList_map, List.getElem?_map]
    have h9 : i % 6 = 0 ∨ i % 6 = 1 ∨ i % 6 = 2 ∨ i % 6 = 3 ∨ i % 6 = 4 ∨ i % 6 = 5 := by omega
    rcases h9 with h9 | h9 | h9 | h9 | h9 | h9 <;> simp [h9, h]
  · rw [List.getElem?_eq_none (by simp [madeCells]; omega), List.getElem?_eq_none (by rw [rowL_length]; simp; omega)]
set_option maxRecDepth 100000 in
/-- 'make([]Leak, n)'. -/
theorem wpList_make_lks {w : World} {ops : Array Oper} {rest : List Oper} {o : Oper} {a : Act} {Q : Exit → Act → World → Prop}
    (hgd : o.guard = none) (l c : Operand) (hop : o.op = Op.makeSlice 31 l c)
    (L : Int) (n : Nat) (hl : a.eval l = .int .i64 L) (hc : a.eval c = .int .i64 L) (hL : L = (n : Int)) (hn : n ≤ 100000000)
    (B : Nat) (w0 : World) (hb : Below B w0 w) (hB : B ≤ w.heap.size)
    (h : ∀ w', Row w' w.heap.size 113 (rowL (List.replicate n zeroLk)) → Below B w0 w' → wpList Tryz.prog ops Q rest (a.put o.dst (.slice (some ⟨w.heap.size, 0, none⟩) n n)) w') : wpList Tryz.prog ops Q (o :: rest) a w := by
  obtain ⟨i0, hi0, hz0, hz1, hz2⟩ := info_parts Tryz.infoL
  refine wpList_make_full w hgd l c 31 hop B 113 i0 _ 6 Tryz.underlying31 hi0 hz0 hz1 .i64 .i64 L L n hl hc hL hL (by rw [hz2]; omega) (by unfold maxLen; omega) hB ?_
  intro w' hown hgrow
  rcases hown.2 with ⟨h', _⟩ | ⟨g, cap, cur, h', hbg, hg, hnc, hcm, hcs, htake⟩
  · simp at h'
  · simp only [Value.slice.injEq, Option.some.injEq, Addr.mk.injEq, and_true, true_and] at h'
    obtain ⟨rfl, rfl⟩ := h'
    refine h w' ?_ (hb.trans ((Below.refl B w).grown hgrow hB (by intro k hk; cases hk)))
    unfold Row
    rw [hg, ← made_zeroL, ← htake, List.take_of_length_le (by simp [hcs])]
theorem rowL_set (es : List Lk) (k : Nat) (hk : k < es.length) (fr tt a l ad tg : Int) (he : es[k] = ⟨fr, tt, a, l, ad, tg⟩) :
    (((((((rowL (es.take k ++ List.replicate (es.length - k) zeroLk)).set (k * 6) (.int .i64 fr)).set (k * 6 + 1) (.int .i64 tt)).set (k * 6 + 2) (.int .i64 a)).set (k * 6 + 3) (.int .i64 l)).set (k * 6 + 4) (.int .i64 ad)).set (k * 6 + 5) (.int .i64 tg)) = rowL (es.take (k + 1) ++ List.replicate (es.length - (k + 1)) zeroLk) := by
  have e1 : es.length - k = (es.length - (k + 1)) + 1 := by omega
  rw [e1, List.replicate_succ, rowL_append, rowL_cons, List.take_succ_eq_append_getElem hk, List.append_assoc, rowL_append, List.singleton_append, rowL_cons, he]
  exact set6L _ _ k (by rw [rowL_length, List.length_take]; omega) _ _ _ _ _ _ _ _ _ _ _ _
set_option maxRecDepth 100000 in
theorem szLeakS_any (x : Option Addr) (len cap : Nat) (w : World) (hl : len ≤ maxLen) : Calls Tryz.prog 16 #[.slice x len cap, .int .i64 1048576] w fun e w' => e = .returned (.int .i64 (if len ≤ 1048576 then 1048576 - (len : Int) else -1)) ∧ w = w' := by
  unfold maxLen at hl
  by_cases h : len ≤ 1048576
  · rw [if_pos h]
    have d : decide (1048576 - (len : Int) < 0) = false := by simp; omega
    go_enter Tryz.func16, Tryz.ntmps16
    go_wp2
    go_ret
    exact ⟨rfl, rfl⟩
  · rw [if_neg h]
    have d : decide (1048576 - (len : Int) < 0) = true := by simp; omega
    go_enter Tryz.func16, Tryz.ntmps16
    go_wp2
    go_ret
    exact ⟨rfl, rfl⟩
set_option maxRecDepth 100000 in
theorem toLeakS_any (x : Option Addr) (cap : Nat) (es : List Lk) (w : World) (h : ArgL w x es.length es) (hn : es.length ≤ 1048576) :
    Calls Tryz.prog 23 #[.slice x es.length cap] w fun e w' => ∃ g, e = .returned (.slice (some ⟨g, 0, none⟩) es.length es.length) ∧ w.heap.size ≤ g ∧ Row w' g 113 (rowL es) ∧ Below w.heap.size w w' := by
  have HE : Hid (∀ e w, Calls Tryz.prog 51 #[lkV e] w fun r w' => r = .returned (lkV e) ∧ Below w.heap.size w w') := toLeak_any
  have HX : Hid (ArgL w x es.length es) := h
  clear h
  go_enter Tryz.func23, Tryz.ntmps23
  go_wp2_with (at_make; refine wpList_make_lks rfl _ _ rfl _ es.length rfl rfl rfl (by omega) w.heap.size w (Below.refl _ _) (Nat.le_refl _) ?_)
  intro w0 hr0 hb0
  have hz : es.take 0 ++ List.replicate (es.length - 0) zeroLk = List.replicate es.length zeroLk := by simp
  rw [← hz] at hr0
  clear hz
  go_wp2_with fail
  go_loopw [4] (fun i wr => ∃ k : Nat, k ≤ es.length ∧ i = .int .i64 k ∧ Row wr w.heap.size 113 (rowL (es.take k ++ List.replicate (es.length - k) zeroLk)) ∧ Below w.heap.size w wr) (fun i _ => es.length - (intOf i).toNat)
  case atStart => exact ⟨0, Nat.zero_le _, rfl, hr0, hb0⟩
  case round =>
    obtain ⟨k, hk, rfl, hr, hb⟩ := hrel
    by_cases hlt : k < es.length
    · obtain ⟨p, fr, tt, a, l, ad, tg, rfl, hek, c0, c1, c2, c3, c4, c5⟩ := (HX.out.below hb).at k hlt
      have HEk : Hid (∀ w, Calls Tryz.prog 51 #[.agg #[.int .i64 fr, .int .i64 tt, .int .i64 a, .int .i64 l, .int .i64 ad, .int .i64 tg]] w fun r w' => r = .returned (.agg #[.int .i64 fr, .int .i64 tt, .int .i64 a, .int .i64 l, .int .i64 ad, .int .i64 tg]) ∧ Below w.heap.size w w') := HE.out ⟨fr, tt, a, l, ad, tg⟩
      have hset := rowL_set es k hlt fr tt a l ad tg hek
      have HS : Hid _ := hset
      clear hset HE hek hr0 hb0
      go_wp2_with fail
      refine (HEk.out _).mono ?_
      rintro e w1 ⟨rfl, hb1⟩
      have hr1 := hr.below hb1 hr.lt
      have hB1 := hb.trans (hb1.mono hb.size)
      clear c0 c1 c2 c3 c4 c5 hb1 HEk hr hb
      have hlr : (rowL (es.take k ++ List.replicate (es.length - k) zeroLk)).length = es.length * 6 := by rw [rowL_length]; simp; omega
      obtain ⟨z0, hz0⟩ := Row.someL hr1 (k * 6) (by omega)
      obtain ⟨z1, hz1⟩ := Row.someL hr1 (k * 6 + 1) (by omega)
      obtain ⟨z2, hz2⟩ := Row.someL hr1 (k * 6 + 2) (by omega)
      obtain ⟨z3, hz3⟩ := Row.someL hr1 (k * 6 + 3) (by omega)
      obtain ⟨z4, hz4⟩ := Row.someL hr1 (k * 6 + 4) (by omega)
      obtain ⟨z5, hz5⟩ := Row.someL hr1 (k * 6 + 5) (by omega)
      have f0 := hr1.frozen (k * 6)
      have f1 := hr1.frozen (k * 6 + 1)
      have f2 := hr1.frozen (k * 6 + 2)
      have f3 := hr1.frozen (k * 6 + 3)
      have f4 := hr1.frozen (k * 6 + 4)
      have f5 := hr1.frozen (k * 6 + 5)
      have hr2 := sixL_row hr1 (k * 6) (.int .i64 fr) (.int .i64 tt) (.int .i64 a) (.int .i64 l) (.int .i64 ad) (.int .i64 tg)
      rw [HS.out] at hr2
      have hB2 := sixL_below hB1 w.heap.size (k * 6) (Nat.le_refl _) (.int .i64 fr) (.int .i64 tt) (.int .i64 a) (.int .i64 l) (.int .i64 ad) (.int .i64 tg)
      unfold sixL at hr2 hB2
      have HH : Hid _ := And.intro hr2 hB2
      clear hr1 hB1 HS hlr hr2 hB2
      go_wp2_with fail
      go_roundw
      case rel => exact ⟨k + 1, hlt, by go_num, HH.out.1, HH.out.2⟩
      case measure => simp [intOf]; omega
    · obtain rfl : k = es.length := by omega
      rw [List.take_length, Nat.sub_self, List.replicate_zero, List.append_nil] at hr
      clear hlt hk
      go_wp2
      go_ret
      exact ⟨_, rfl, Nat.le_refl _, hr, hb⟩
end Go.Proofs.YtialedffpaoacaaGreatDoor
/- The laws' own marks in lists of Leaks: written, and looked for. (Written by gen_markflat.py.) -/
namespace Go.Proofs.YtialedffpaoacaaGreatDoor
open Go.RowKit Go.Sort

def mkLk (K i : Nat) : Lk := ⟨(K : Int) + 6 * (i : Int) + 0, (K : Int) + 6 * (i : Int) + 1, (K : Int) + 6 * (i : Int) + 2, (K : Int) + 6 * (i : Int) + 3, (K : Int) + 6 * (i : Int) + 4, (K : Int) + 6 * (i : Int) + 5⟩
def mksLk (K n : Nat) : List Lk := (List.range n).map (mkLk K)
theorem mksLk_length (K n : Nat) : (mksLk K n).length = n := by simp [mksLk]
theorem mksLk_set (K : Nat) (es : List Lk) (rest : List Value) (k : Nat) (hk : k < es.length) :
    (((((((rowL (mksLk K k ++ es.drop k) ++ rest).set (k * 6) (.int .i64 ((K : Int) + 6 * (k : Int) + 0))).set (k * 6 + 1) (.int .i64 ((K : Int) + 6 * (k : Int) + 1))).set (k * 6 + 2) (.int .i64 ((K : Int) + 6 * (k : Int) + 2))).set (k * 6 + 3) (.int .i64 ((K : Int) + 6 * (k : Int) + 3))).set (k * 6 + 4) (.int .i64 ((K : Int) + 6 * (k : Int) + 4))).set (k * 6 + 5) (.int .i64 ((K : Int) + 6 * (k : Int) + 5))) = rowL (mksLk K (k + 1) ++ es.drop (k + 1)) ++ rest := by
  have e : es.drop k = es[k] :: es.drop (k + 1) := List.drop_eq_getElem_cons hk
  have e2 : mksLk K (k + 1) = mksLk K k ++ [mkLk K k] := by simp [mksLk, List.range_succ]
  rw [e, e2, rowL_append, rowL_cons, List.append_assoc, List.append_assoc, List.append_assoc, rowL_append, List.singleton_append, rowL_cons, List.append_assoc]
  exact set6L _ _ k (by rw [rowL_length, mksLk_length]; omega) _ _ _ _ _ _ _ _ _ _ _ _
set_option maxRecDepth 100000 in
set_option maxHeartbeats 4000000 in
theorem markLeakS_ix (K g n cv : Nat) (es : List Lk) (rest : List Value) (w : World) (hn : n = es.length) (hK : K ≤ 100000000) (h8 : n ≤ 100000000) (hr : Row w g 113 (rowL es ++ rest)) :
    Calls Tryz.prog 35 #[.slice (some ⟨g, 0, none⟩) n cv, .int .i64 K] w fun e w' => e = .returned (.int .i64 ((K : Int) + 6 * (n : Int))) ∧ Row w' g 113 (rowL (mksLk K n) ++ rest) ∧ Below g w w' ∧ ∀ b t l, b ≠ g → Row w b t l → Row w' b t l := by
  have HN : Hid (n = es.length) := hn
  have hr0 : Row w g 113 (rowL (mksLk K 0 ++ es.drop 0) ++ rest) := hr
  clear hn hr
  go_enter Tryz.func35, Tryz.ntmps35
  go_wp2_with fail
  go_loopw [5, 1] (fun i m wr => ∃ k : Nat, k ≤ n ∧ i = .int .i64 k ∧ m = .int .i64 ((K : Int) + 6 * (k : Int)) ∧ Row wr g 113 (rowL (mksLk K k ++ es.drop k) ++ rest) ∧ Below g w wr ∧ ∀ b t l, b ≠ g → Row w b t l → Row wr b t l) (fun i _ _ => n - (intOf i).toNat)
  case atStart => exact ⟨0, Nat.zero_le _, rfl, by go_num, hr0, Below.refl _ _, fun _ _ _ _ h => h⟩
  case round =>
    obtain ⟨k, hk, rfl, rfl, hr, hb, hoth⟩ := hrel
    have HOT : Hid (∀ b t l, b ≠ g → Row w b t l → Row wr b t l) := hoth
    clear hr0 hoth
    by_cases hlt : k < n
    · have hlen : (mksLk K k ++ es.drop k).length = n := by rw [List.length_append, mksLk_length, List.length_drop, ← HN.out]; omega
      have hlr : k * 6 + 5 < (rowL (mksLk K k ++ es.drop k) ++ rest).length := by rw [List.length_append, rowL_length, hlen]; omega
      obtain ⟨z0, c0⟩ := Row.someL hr (k * 6) (by omega)
      obtain ⟨z1, c1⟩ := Row.someL hr (k * 6 + 1) (by omega)
      obtain ⟨z2, c2⟩ := Row.someL hr (k * 6 + 2) (by omega)
      obtain ⟨z3, c3⟩ := Row.someL hr (k * 6 + 3) (by omega)
      obtain ⟨z4, c4⟩ := Row.someL hr (k * 6 + 4) (by omega)
      obtain ⟨z5, c5⟩ := Row.someL hr (k * 6 + 5) (by omega)
      have f0 := hr.frozen (k * 6)
      have f1 := hr.frozen (k * 6 + 1)
      have f2 := hr.frozen (k * 6 + 2)
      have f3 := hr.frozen (k * 6 + 3)
      have f4 := hr.frozen (k * 6 + 4)
      have f5 := hr.frozen (k * 6 + 5)
      have hr2 := sixL_row hr (k * 6) (.int .i64 ((K : Int) + 6 * (k : Int) + 0)) (.int .i64 ((K : Int) + 6 * (k : Int) + 1)) (.int .i64 ((K : Int) + 6 * (k : Int) + 2)) (.int .i64 ((K : Int) + 6 * (k : Int) + 3)) (.int .i64 ((K : Int) + 6 * (k : Int) + 4)) (.int .i64 ((K : Int) + 6 * (k : Int) + 5))
      rw [mksLk_set K es rest k (by rw [← HN.out]; exact hlt)] at hr2
      have hB2 := sixL_below hb g (k * 6) (Nat.le_refl _) (.int .i64 ((K : Int) + 6 * (k : Int) + 0)) (.int .i64 ((K : Int) + 6 * (k : Int) + 1)) (.int .i64 ((K : Int) + 6 * (k : Int) + 2)) (.int .i64 ((K : Int) + 6 * (k : Int) + 3)) (.int .i64 ((K : Int) + 6 * (k : Int) + 4)) (.int .i64 ((K : Int) + 6 * (k : Int) + 5))
      have hO2 := fun b t l (hne : b ≠ g) (h : Row w b t l) => sixL_other (HOT.out b t l hne h) hne (k * 6) (.int .i64 ((K : Int) + 6 * (k : Int) + 0)) (.int .i64 ((K : Int) + 6 * (k : Int) + 1)) (.int .i64 ((K : Int) + 6 * (k : Int) + 2)) (.int .i64 ((K : Int) + 6 * (k : Int) + 3)) (.int .i64 ((K : Int) + 6 * (k : Int) + 4)) (.int .i64 ((K : Int) + 6 * (k : Int) + 5))
      unfold sixL at hr2 hB2 hO2
      have HH : Hid _ := And.intro hr2 (And.intro hB2 hO2)
      clear hr hb hr2 hB2 hlen hlr hO2 HOT
      go_wp2_with fail
      rw [show (K : Int) + 6 * (k : Int) + 1 + 1 + 1 + 1 + 1 + 1 = (K : Int) + 6 * ((k + 1 : Nat) : Int) by omega, show (K : Int) + 6 * (k : Int) + 1 + 1 + 1 + 1 + 1 = (K : Int) + 6 * (k : Int) + 5 by omega, show (K : Int) + 6 * (k : Int) + 1 + 1 + 1 + 1 = (K : Int) + 6 * (k : Int) + 4 by omega, show (K : Int) + 6 * (k : Int) + 1 + 1 + 1 = (K : Int) + 6 * (k : Int) + 3 by omega, show (K : Int) + 6 * (k : Int) + 1 + 1 = (K : Int) + 6 * (k : Int) + 2 by omega]
      refine ⟨⟨k + 1, hlt, by go_num, rfl, HH.out.1, HH.out.2.1, HH.out.2.2⟩, ?_⟩
      simp [intOf]
      omega
    · obtain rfl : k = n := by omega
      have hre : mksLk K k ++ es.drop k = mksLk K k := by rw [HN.out, List.drop_length, List.append_nil]
      rw [hre] at hr
      clear hlt hk hre
      go_wp2
      go_ret
      exact ⟨rfl, hr, hb, HOT.out⟩
set_option maxRecDepth 100000 in
set_option maxHeartbeats 4000000 in
theorem markLeakS_0 (K : Nat) (p : Option Addr) (cv : Nat) (w : World) : Calls Tryz.prog 35 #[.slice p 0 cv, .int .i64 K] w fun e w' => e = .returned (.int .i64 K) ∧ w = w' := by
  go_enter Tryz.func35, Tryz.ntmps35
  go_wp2_with fail
  go_loop [5, 1] (fun i k => i = .int .i64 0 ∧ k = .int .i64 K) (fun _ _ => 0)
  case atStart => exact ⟨rfl, rfl⟩
  case round =>
    obtain ⟨rfl, rfl⟩ := hrel
    go_wp2
    go_ret
    exact ⟨rfl, rfl⟩
theorem markLeakS_own (K : Nat) (p : Option Addr) (n cv base : Nat) (es : List Lk) (w : World) (hn : n = es.length) (hK : K ≤ 100000000) (h8 : n ≤ 100000000) (h : w.ownsRow base 113 6 (.slice p n cv) n (rowL es)) :
    Calls Tryz.prog 35 #[.slice p n cv, .int .i64 K] w fun e w' => e = .returned (.int .i64 ((K : Int) + 6 * (n : Int))) ∧ w'.ownsRow base 113 6 (.slice p n cv) n (rowL (mksLk K n)) ∧ Below base w w' ∧ ∀ b t l, p ≠ some ⟨b, 0, none⟩ → Row w b t l → Row w' b t l := by
  rcases owns_opened h with h0 | ⟨g, rest, rfl, hb, h1, h2, hr, hl⟩
  · have hq : es = [] := List.length_eq_zero_iff.1 (by omega)
    subst hq
    subst h0
    exact (markLeakS_0 K p cv w).mono fun e w' ⟨he, hw⟩ => ⟨by rw [he]; simp, hw ▸ h, hw ▸ Below.refl _ _, fun _ _ _ _ h => hw ▸ h⟩
  · refine (markLeakS_ix K g n cv es rest w hn hK h8 hr).mono fun e w' ⟨he, hr', hb', ho'⟩ => ⟨he, owns_shut (by rw [rowL_length, mksLk_length]; omega) hb h1 h2 hr' ?_, hb'.mono hb, fun b t l hp h => ho' b t l (fun e => hp (by rw [e])) h⟩
    rw [List.length_append, rowL_length, mksLk_length]
    rw [List.length_append, rowL_length, ← hn] at hl
    exact hl
set_option maxRecDepth 100000 in
set_option maxHeartbeats 4000000 in
theorem heldLeakS_ix (K : Nat) (p : Option Addr) (n cv : Nat) (w : World) (hK : K ≤ 100000000) (h8 : n ≤ 100000000) (hE : LksIn w p (mksLk K n)) :
    Calls Tryz.prog 38 #[.slice p n cv, .int .i64 K] w fun e w' => e = .returned (.int .i64 ((K : Int) + 6 * (n : Int))) ∧ w = w' := by
  have HX : Hid (LksIn w p (mksLk K n)) := hE
  clear hE
  go_enter Tryz.func38, Tryz.ntmps38
  go_wp2_with fail
  go_loop [5, 1] (fun i m => ∃ k : Nat, k ≤ n ∧ i = .int .i64 k ∧ m = .int .i64 ((K : Int) + 6 * (k : Int))) (fun i _ => n - (intOf i).toNat)
  case atStart => exact ⟨0, Nat.zero_le _, rfl, by go_num⟩
  case round =>
    obtain ⟨k, hk, rfl, rfl⟩ := hrel
    by_cases hlt : k < n
    · have dk : decide ((k : Int) < (n : Int)) = true := by simpa using hlt
      obtain ⟨g, m0, m1, m2, m3, m4, m5, rfl, hg, hek, c0, c1, c2, c3, c4, c5⟩ := HX.out.at k (by rw [mksLk_length]; exact hlt)
      have hm : (mksLk K n)[k]'(by rw [mksLk_length]; exact hlt) = mkLk K k := by simp [mksLk]
      rw [hm] at hek
      simp only [mkLk, Lk.mk.injEq] at hek
      obtain ⟨rfl, rfl, rfl, rfl, rfl, rfl⟩ := hek
      simp only [Int.add_zero] at c0
      have d0 : ((K : Int) + 6 * (k : Int) != (K : Int) + 6 * (k : Int)) = false := by simp
      have d1 : ((K : Int) + 6 * (k : Int) + 1 != (K : Int) + 6 * (k : Int) + 1) = false := by simp
      have d2 : ((K : Int) + 6 * (k : Int) + 2 != (K : Int) + 6 * (k : Int) + 1 + 1) = false := by simp; omega
      have d3 : ((K : Int) + 6 * (k : Int) + 3 != (K : Int) + 6 * (k : Int) + 1 + 1 + 1) = false := by simp; omega
      have d4 : ((K : Int) + 6 * (k : Int) + 4 != (K : Int) + 6 * (k : Int) + 1 + 1 + 1 + 1) = false := by simp; omega
      have d5 : ((K : Int) + 6 * (k : Int) + 5 != (K : Int) + 6 * (k : Int) + 1 + 1 + 1 + 1 + 1) = false := by simp; omega
      clear hm HX
      go_wp2
      go_round
      case rel => exact ⟨k + 1, hlt, by go_num, by rw [show (K : Int) + 6 * (k : Int) + 1 + 1 + 1 + 1 + 1 + 1 = (K : Int) + 6 * ((k + 1 : Nat) : Int) by omega]⟩
      case measure => simp [intOf]; omega
    · obtain rfl : k = n := by omega
      have dk : decide ((k : Int) < (k : Int)) = false := by simp
      clear hlt hk HX
      go_wp2
      go_ret
      exact ⟨rfl, rfl⟩
end Go.Proofs.YtialedffpaoacaaGreatDoor
/- The laws' own Tenants handed in: opened. (Written by gen_opten.py.) -/
namespace Go.Proofs.YtialedffpaoacaaGreatDoor
open Go.ChangeShapes Go.WideShapes Go.RowKit Go.Sort Go.Deep Go.Joins Go.WideElems Go.Maps

theorem Tryz.cellsTn : Tryz.prog.cellsOf 92 = 8 := by kernel_rfl
theorem Tryz.cellsTnI : Tryz.prog.cellsOf 88 = 3 := by kernel_rfl
theorem Tryz.cellsTnS : Tryz.prog.cellsOf 9 = 1 := by kernel_rfl
theorem Tryz.cellsTnN : Tryz.prog.cellsOf 2 = 1 := by kernel_rfl
theorem Tryz.cellsTnR : Tryz.prog.cellsOf 89 = 1 := by kernel_rfl
theorem Tryz.cellsTnH : Tryz.prog.cellsOf 90 = 1 := by kernel_rfl
def TnW (t : Tn) : Prop := t.key.size ≤ maxLen ∧ (Lit.int .i64 t.now).wf = true ∧ (Lit.int .i64 t.qu).wf = true ∧ (Lit.int .i64 t.dr).wf = true
section
variable {H : Type} {enc : TypeId × Value → H} {w : World} {base : Nat} {spare : Nat → Bool} {held : Bool}
set_option maxRecDepth 100000 in
set_option maxHeartbeats 4000000 in
theorem open_inst3 {fuel : Nat} {e0 e1 e2 : Value} {x : DataW H × List MemPlace} (h : DataW.trod enc Tryz.prog w base spare held fuel 88 [e0, e1, e2] = some x) :
    ∃ x n1 c1 is y n2 c2 rs now, e0 = .slice x n1 c1 ∧ e1 = .slice y n2 c2 ∧ e2 = .int .i64 now ∧ ArgI w x n1 is ∧ ArgR w y n2 rs ∧ (Lit.int .i64 now).wf = true := by
  obtain ⟨xs, n, _, _, hl, hx, hg⟩ := DataW.trod_struct Tryz.underlying88 h
  match xs, hx with
  | [y0, y1, y2], _ =>
    have h0 : DataW.trod enc Tryz.prog w base spare held n 83 ((([e0, e1, e2] : List Value).drop 0).take (Tryz.prog.cellsOf 83)) = [y0, y1, y2][0]? := hg 0 _ rfl
    rw [Tryz.cellsIfsI] at h0
    replace h0 : DataW.trod enc Tryz.prog w base spare held n 83 [e0] = some y0 := h0
    have h1 : DataW.trod enc Tryz.prog w base spare held n 86 ((([e0, e1, e2] : List Value).drop 1).take (Tryz.prog.cellsOf 86)) = [y0, y1, y2][1]? := hg 1 _ rfl
    rw [Tryz.cellsRibI] at h1
    replace h1 : DataW.trod enc Tryz.prog w base spare held n 86 [e1] = some y1 := h1
    have h2 : DataW.trod enc Tryz.prog w base spare held n 2 ((([e0, e1, e2] : List Value).drop 2).take (Tryz.prog.cellsOf 2)) = [y0, y1, y2][2]? := hg 2 _ rfl
    rw [Tryz.cellsIntN] at h2
    replace h2 : DataW.trod enc Tryz.prog w base spare held n 2 [e2] = some y2 := h2
    obtain ⟨xs', n', _, _, hl', hx', hg'⟩ := DataW.trod_struct Tryz.underlying86 h1
    match xs', hx' with
    | [z0], _ =>
      have k0 : DataW.trod enc Tryz.prog w base spare held n' 84 ((([e1] : List Value).drop 0).take (Tryz.prog.cellsOf 84)) = [z0][0]? := hg' 0 _ rfl
      rw [Tryz.cellsRibS] at k0
      replace k0 : DataW.trod enc Tryz.prog w base spare held n' 84 [e1] = some z0 := k0
      obtain ⟨x, n1, c1, is, rfl, hA⟩ := open_ifs h0
      obtain ⟨y, n2, c2, rs, rfl, hR⟩ := open_rts k0
      obtain ⟨now, en, _, wn⟩ := DataW.trod_int Tryz.underlying2 h2
      simp only [List.cons.injEq, and_true] at en
      subst en
      exact ⟨x, n1, c1, is, y, n2, c2, rs, now, rfl, rfl, rfl, hA, hR, wn⟩
set_option maxRecDepth 100000 in
set_option maxHeartbeats 4000000 in
theorem open_tn {fuel : Nat} {cs : List Value} {x : DataW H × List MemPlace} (h : DataW.trod enc Tryz.prog w base spare held fuel 92 cs = some x) : ∃ (a : Tp) (t : Tn), cs = tnL a t ∧ ArgT w a t ∧ TnW t := by
  obtain ⟨xs, n, _, _, hl, hx, hg⟩ := DataW.trod_struct Tryz.underlying92 h
  rw [Tryz.cellsTn] at hl
  match cs, hl, xs, hx with
  | [c0, c1, c2, c3, c4, c5, c6, c7], _, [y0, y1, y2, y3, y4, y5], _ =>
    have h0 : DataW.trod enc Tryz.prog w base spare held n 88 ((([c0, c1, c2, c3, c4, c5, c6, c7] : List Value).drop 0).take (Tryz.prog.cellsOf 88)) = [y0, y1, y2, y3, y4, y5][0]? := hg 0 _ rfl
    rw [Tryz.cellsTnI] at h0
    replace h0 : DataW.trod enc Tryz.prog w base spare held n 88 [c0, c1, c2] = some y0 := h0
    have h1 : DataW.trod enc Tryz.prog w base spare held n 9 ((([c0, c1, c2, c3, c4, c5, c6, c7] : List Value).drop 3).take (Tryz.prog.cellsOf 9)) = [y0, y1, y2, y3, y4, y5][1]? := hg 1 _ rfl
    rw [Tryz.cellsTnS] at h1
    replace h1 : DataW.trod enc Tryz.prog w base spare held n 9 [c3] = some y1 := h1
    have h2 : DataW.trod enc Tryz.prog w base spare held n 2 ((([c0, c1, c2, c3, c4, c5, c6, c7] : List Value).drop 4).take (Tryz.prog.cellsOf 2)) = [y0, y1, y2, y3, y4, y5][2]? := hg 2 _ rfl
    rw [Tryz.cellsTnN] at h2
    replace h2 : DataW.trod enc Tryz.prog w base spare held n 2 [c4] = some y2 := h2
    have h3 : DataW.trod enc Tryz.prog w base spare held n 89 ((([c0, c1, c2, c3, c4, c5, c6, c7] : List Value).drop 5).take (Tryz.prog.cellsOf 89)) = [y0, y1, y2, y3, y4, y5][3]? := hg 3 _ rfl
    rw [Tryz.cellsTnR] at h3
    replace h3 : DataW.trod enc Tryz.prog w base spare held n 89 [c5] = some y3 := h3
    have h4 : DataW.trod enc Tryz.prog w base spare held n 90 ((([c0, c1, c2, c3, c4, c5, c6, c7] : List Value).drop 6).take (Tryz.prog.cellsOf 90)) = [y0, y1, y2, y3, y4, y5][4]? := hg 4 _ rfl
    rw [Tryz.cellsTnH] at h4
    replace h4 : DataW.trod enc Tryz.prog w base spare held n 90 [c6] = some y4 := h4
    have h5 : DataW.trod enc Tryz.prog w base spare held n 2 ((([c0, c1, c2, c3, c4, c5, c6, c7] : List Value).drop 7).take (Tryz.prog.cellsOf 2)) = [y0, y1, y2, y3, y4, y5][5]? := hg 5 _ rfl
    rw [Tryz.cellsTnN] at h5
    replace h5 : DataW.trod enc Tryz.prog w base spare held n 2 [c7] = some y5 := h5
    obtain ⟨x, n1, k1, is, y, n2, k2, rs, now, rfl, rfl, rfl, hI, hR, wn⟩ := open_inst3 h0
    obtain ⟨key, ek, _, wk⟩ := DataW.trod_string Tryz.underlying9 h1
    obtain ⟨qu, eq, _, wq⟩ := DataW.trod_int Tryz.underlying2 h2
    obtain ⟨p, n3, k3, ss, rfl, hS⟩ := open_sns h3
    obtain ⟨q, n4, k4, es, rfl, hE⟩ := open_ses h4
    obtain ⟨dr, ed, _, wd⟩ := DataW.trod_int Tryz.underlying2 h5
    simp only [List.cons.injEq, and_true] at ek eq ed
    subst ek eq ed
    obtain rfl : is.length = n1 := hI.1
    obtain rfl : rs.length = n2 := hR.1
    obtain rfl : ss.length = n3 := hS.1
    obtain rfl : es.length = n4 := hE.1
    exact ⟨⟨x, k1, y, k2, p, k3, q, k4⟩, ⟨is, rs, now, key, qu, ss, es, dr⟩, rfl, ⟨hI, hR, hS, hE⟩, wk, wn, wq, wd⟩
set_option maxRecDepth 100000 in
set_option maxHeartbeats 4000000 in
theorem open_tnV {r : Reach} {b0 : Nat} {v : Value} {d : DataW H} {p : List MemPlace} (hv : Value.okWide Tryz.prog w r b0 92 v) (h : DataW.Trod enc Tryz.prog w base spare held 92 v d p) :
    ∃ (a : Tp) (t : Tn), v = tnV a t ∧ ArgT w a t ∧ TnW t := by
  obtain ⟨cs, rfl, hsz⟩ := okWide_struct Tryz.underlying92 hv
  obtain ⟨fuel, hf⟩ := h
  obtain ⟨a, t, he, hA, hW⟩ := open_tn hf
  refine ⟨a, t, ?_, hA, hW⟩
  obtain ⟨l⟩ := cs
  simp only [Value.cells] at he
  subst he
  rfl
end
end Go.Proofs.YtialedffpaoacaaGreatDoor
