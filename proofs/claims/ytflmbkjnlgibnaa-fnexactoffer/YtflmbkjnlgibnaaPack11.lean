/- Texts that stand on each other, in one file: OwnE, MarkE, MarkEL. -/
import Derived.Test.YtflmbkjnlgibnaaPack10
import Derived.OwnWalk
/- Lists of entries that a call makes by appending. -/
namespace Go.Proofs.Ytflmbkjnlgibnaa
open Go.RowKit Go.Sort

theorem Try.infoEn : (Try.prog.info? 103).map (fun i => (i.zero, i.size, i.bytes)) = some (some (.agg #[.int .i64 0, .int .i64 0, .int .i64 0, .int .i64 0, .int .i64 0]), 5, 40) := by kernel_rfl
/-- The slice value v owns just the entries es, in memory from block 'base' on. -/
def OwnE (w : World) (base : Nat) (v : Value) (es : List Ent) : Prop := w.ownsRow base 103 5 v es.length (rowE es)
theorem OwnE.nil (w : World) (base : Nat) : OwnE w base (.slice none 0 0) [] := World.ownsRow_nil w base _ 5
theorem OwnE.alloc {w : World} {base : Nat} {v : Value} {es : List Ent} (h : OwnE w base v es) (o : Obj) : OwnE (w.alloc o) base v es := World.ownsRow.alloc h o
theorem OwnE.of_block {w w' : World} {base : Nat} {v : Value} {es : List Ent} (h : OwnE w base v es) (hb : ∀ g, g < w.heap.size → base ≤ g → w'.heap[g]? = w.heap[g]?) : OwnE w' base v es := by
  refine ⟨h.1, ?_⟩
  rcases h.2 with h2 | ⟨g, cap, cur, hv, hg0, hg, h3⟩
  · exact .inl h2
  · refine .inr ⟨g, cap, cur, hv, hg0, ?_, h3⟩
    rw [hb g (Array.getElem?_eq_some_iff.1 hg).1 hg0]
    exact hg
theorem OwnE.below {w w' : World} {base : Nat} {v : Value} {es : List Ent} (h : OwnE w base v es) (hb : Below w.heap.size w w') : OwnE w' base v es := h.of_block fun g hg _ => hb.block g hg
theorem OwnE.set {w : World} {base : Nat} {v : Value} {es : List Ent} (h : OwnE w base v es) (p : Addr) (hp : p.block < base) (u : Value) : OwnE (w.setCell p u) base v es := h.of_block fun g _ hg => Below.heap_setCell w p u g (by omega)
theorem OwnE.mono {w : World} {base base' : Nat} {v : Value} {es : List Ent} (h : OwnE w base v es) (hb : base' ≤ base) : OwnE w base' v es := by
  refine ⟨h.1, ?_⟩
  rcases h.2 with h2 | ⟨g, cap, cur, hv, hg0, h3⟩
  · exact .inl h2
  · exact .inr ⟨g, cap, cur, hv, by omega, h3⟩
theorem OwnE.form {w : World} {base : Nat} {v : Value} {es : List Ent} (h : OwnE w base v es) : ∃ p cap, v = .slice p es.length cap ∧ EntsIn w p es := by
  have h0 := h
  rcases h.2 with ⟨hv, hn⟩ | ⟨g, cap, cur, rfl, hg0, hg, hnc, _⟩
  · exact ⟨none, 0, by rw [hn]; exact hv, .inl (List.length_eq_zero_iff.1 hn)⟩
  · refine ⟨some ⟨g, 0, none⟩, cap, rfl, .inr ⟨g, rfl, (Array.getElem?_eq_some_iff.1 hg).1, fun j u hj => ?_⟩⟩
    have := World.ownsRow.cells h0 rfl j u hj
    have ea : (⟨g, 0, none⟩ : Addr).add j = ⟨g, j, none⟩ := by unfold Addr.add; split <;> simp_all
    rwa [ea] at this
set_option maxRecDepth 100000 in
/-- 'v = append(v, e)', e laid in a block of its own just ahead. -/
theorem wpList_append_ent {w : World} {ops : Array Oper} {rest : List Oper} {o : Oper} {a : Act} {Q : Exit → Act → World → Prop} (hgd : o.guard = none) (s x : Operand)
    (ho : o.op = .call { callee := .builtin .append, args := #[s, x], argTypes := #[51, 51] })
    (base : Nat) (v : Value) (es : List Ent) (hs : a.eval s = v) (hown : OwnE w base v es) (g c : Nat) (e : Ent) (hx : a.eval x = .slice (some ⟨g, 0, none⟩) 1 c) (hr : Row w g 103 (entL e))
    (hlen : es.length ≤ 1000000) (hbase : base ≤ w.heap.size)
    (h : ∀ v' w', OwnE w' base v' (es ++ [e]) → Below base w w' → wpList Try.prog ops Q rest (a.put o.dst v') w') : wpList Try.prog ops Q (o :: rest) a w := by
  obtain ⟨i0, hi0, hz0, hz1, hz2⟩ := info_parts Try.infoEn
  refine wpList_append_own w hgd s x 51 ho base 103 i0 _ 5 40 Try.underlying51 hi0 hz0 hz1 hz2 rfl (by decide) v es.length (rowE es) hs hown ⟨g, 0, none⟩ 1 c (entL e) hx rfl ?_ ?_ ?_ ?_ hbase ?_
  · intro j u hj
    have ea : (⟨g, 0, none⟩ : Addr).add j = ⟨g, j, none⟩ := by unfold Addr.add; split <;> simp_all
    rw [ea, hr.cell]
    exact hj
  · intro u hu
    have := rowE_one [e] u (by simpa [rowE] using hu)
    exact this
  · unfold maxLen; omega
  · omega
  · intro v' w' hown' hgrow _
    refine h v' w' ?_ ((Below.refl base w).grown hgrow hbase fun k hk => (World.ownsRow.lt hown k hk).1)
    unfold OwnE
    rw [List.length_append, rowE_append, show rowE [e] = entL e by simp [rowE]]
    exact hown'
end Go.Proofs.Ytflmbkjnlgibnaa
/- The laws' own marks in a list of entries: written, and looked for. -/
namespace Go.Proofs.Ytflmbkjnlgibnaa
open Go.RowKit Go.Sort

def markE (i : Nat) : Ent := ⟨1 + 5 * (i : Int), 2 + 5 * (i : Int), 3 + 5 * (i : Int), 4 + 5 * (i : Int), 5 + 5 * (i : Int)⟩
def marksE (n : Nat) : List Ent := (List.range n).map markE
theorem marksE_length (n : Nat) : (marksE n).length = n := by simp [marksE]
theorem OwnE.opened {w : World} {base : Nat} {p : Option Addr} {n cv : Nat} {es : List Ent} (h : OwnE w base (.slice p n cv) es) : n = es.length ∧ (es = [] ∨ ∃ g rest, p = some ⟨g, 0, none⟩ ∧ base ≤ g ∧ n ≤ cv ∧ cv ≤ maxLen ∧ Row w g 103 (rowE es ++ rest) ∧ (rowE es ++ rest).length = cv * 5) := by
  rcases h.2 with ⟨h1, h2⟩ | ⟨g, cap, cur, h1, h2, h3, h4, h5, h6, h7⟩
  · simp only [Value.slice.injEq] at h1
    exact ⟨by omega, .inl (List.length_eq_zero_iff.1 h2)⟩
  · simp only [Value.slice.injEq] at h1
    obtain ⟨rfl, rfl, rfl⟩ := h1
    refine ⟨rfl, .inr ⟨g, cur.toList.drop (es.length * 5), rfl, h2, h4, h5, ?_, ?_⟩⟩
    · unfold Row
      rw [← h7, List.take_append_drop]
      exact h3
    · rw [← h7, List.take_append_drop]; simpa using h6
theorem OwnE.shut {w : World} {base g n cv : Nat} {es : List Ent} {rest : List Value} (hn : n = es.length) (hb : base ≤ g) (h4 : n ≤ cv) (h5 : cv ≤ maxLen) (hr : Row w g 103 (rowE es ++ rest)) (hl : (rowE es ++ rest).length = cv * 5) : OwnE w base (.slice (some ⟨g, 0, none⟩) n cv) es := by
  subst hn
  exact ⟨by rw [rowE_length]; omega, .inr ⟨g, cv, _, rfl, hb, hr, h4, h5, by simpa using hl, by
    have : (rowE es).length = es.length * 5 := by rw [rowE_length]; omega
    simp only
    rw [← this]; simp⟩⟩
theorem marks_set (es : List Ent) (rest : List Value) (k : Nat) (hk : k < es.length) :
    (((((rowE (marksE k ++ es.drop k) ++ rest).set (k * 5) (.int .i64 (1 + 5 * (k : Int)))).set (k * 5 + 1) (.int .i64 (2 + 5 * (k : Int)))).set (k * 5 + 2) (.int .i64 (3 + 5 * (k : Int)))).set (k * 5 + 3) (.int .i64 (4 + 5 * (k : Int)))).set (k * 5 + 4) (.int .i64 (5 + 5 * (k : Int))) = rowE (marksE (k + 1) ++ es.drop (k + 1)) ++ rest := by
  have e1 : marksE (k + 1) = marksE k ++ [markE k] := by simp [marksE, List.range_succ]
  rw [List.drop_eq_getElem_cons hk, e1, rowE_append, rowE_cons, List.append_assoc (marksE k), rowE_append, List.singleton_append, rowE_cons, List.append_assoc, List.append_assoc, List.append_assoc, List.append_assoc]
  exact set5 _ _ k (by rw [rowE_length, marksE_length]; omega) _ _ _ _ _ _ _ _ _ _
theorem entsIn_rest {w : World} {g : Nat} {t : TypeId} {es : List Ent} {rest : List Value} (h : Row w g t (rowE es ++ rest)) : EntsIn w (some ⟨g, 0, none⟩) es := .inr ⟨g, rfl, h.lt, fun j u hj => by rw [h.cell, List.getElem?_append_left (List.getElem?_eq_some_iff.1 hj).1]; exact hj⟩
set_option maxRecDepth 100000 in
set_option maxHeartbeats 1000000 in
theorem markEntryS_in (g n cv : Nat) (es : List Ent) (rest : List Value) (w : World) (hn : n = es.length) (h8 : n ≤ 1000) (hr : Row w g 103 (rowE es ++ rest)) :
    Calls Try.prog 29 #[.slice (some ⟨g, 0, none⟩) n cv, .int .i64 1] w fun e w' => e = .returned (.int .i64 (1 + 5 * (n : Int))) ∧ Row w' g 103 (rowE (marksE n) ++ rest) ∧ Below g w w' ∧ ∀ b t l, b ≠ g → Row w b t l → Row w' b t l := by
  have HN : Hid (n = es.length) := hn
  have hr0 : Row w g 103 (rowE (marksE 0 ++ es.drop 0) ++ rest) := hr
  clear hn hr
  go_enter Try.func29, Try.ntmps29
  go_wp2_with fail
  go_loopw [5, 1] (fun i m wr => ∃ k : Nat, k ≤ n ∧ i = .int .i64 k ∧ m = .int .i64 (1 + 5 * (k : Int)) ∧ Row wr g 103 (rowE (marksE k ++ es.drop k) ++ rest) ∧ Below g w wr ∧ ∀ b t l, b ≠ g → Row w b t l → Row wr b t l) (fun i _ _ => n - (intOf i).toNat)
  case atStart => exact ⟨0, Nat.zero_le _, rfl, rfl, hr0, Below.refl _ _, fun _ _ _ _ h => h⟩
  case round =>
    obtain ⟨k, hk, rfl, rfl, hr, hb, hoth⟩ := hrel
    have HOT : Hid (∀ b t l, b ≠ g → Row w b t l → Row wr b t l) := hoth
    clear hr0 hoth
    by_cases hlt : k < n
    · have hlen : (marksE k ++ es.drop k).length = n := by rw [List.length_append, marksE_length, List.length_drop, ← HN.out]; omega
      have hlr : k * 5 + 4 < (rowE (marksE k ++ es.drop k) ++ rest).length := by rw [List.length_append, rowE_length, hlen]; omega
      obtain ⟨z0, c0⟩ := Row.someE hr (k * 5) (by omega)
      obtain ⟨z1, c1⟩ := Row.someE hr (k * 5 + 1) (by omega)
      obtain ⟨z2, c2⟩ := Row.someE hr (k * 5 + 2) (by omega)
      obtain ⟨z3, c3⟩ := Row.someE hr (k * 5 + 3) (by omega)
      obtain ⟨z4, c4⟩ := Row.someE hr (k * 5 + 4) (by omega)
      have f0 := hr.frozen (k * 5)
      have f1 := hr.frozen (k * 5 + 1)
      have f2 := hr.frozen (k * 5 + 2)
      have f3 := hr.frozen (k * 5 + 3)
      have f4 := hr.frozen (k * 5 + 4)
      have hr2 := five5_row hr (k * 5) (.int .i64 (1 + 5 * (k : Int))) (.int .i64 (2 + 5 * (k : Int))) (.int .i64 (3 + 5 * (k : Int))) (.int .i64 (4 + 5 * (k : Int))) (.int .i64 (5 + 5 * (k : Int)))
      rw [marks_set es rest k (by rw [← HN.out]; exact hlt)] at hr2
      have hB2 := five5_below hb g (k * 5) (Nat.le_refl _) (.int .i64 (1 + 5 * (k : Int))) (.int .i64 (2 + 5 * (k : Int))) (.int .i64 (3 + 5 * (k : Int))) (.int .i64 (4 + 5 * (k : Int))) (.int .i64 (5 + 5 * (k : Int)))
      have hO2 := fun b t l (hne : b ≠ g) (h : Row w b t l) => five5_other (HOT.out b t l hne h) hne (k * 5) (.int .i64 (1 + 5 * (k : Int))) (.int .i64 (2 + 5 * (k : Int))) (.int .i64 (3 + 5 * (k : Int))) (.int .i64 (4 + 5 * (k : Int))) (.int .i64 (5 + 5 * (k : Int)))
      unfold five5 at hr2 hB2 hO2
      have HH : Hid _ := And.intro hr2 (And.intro hB2 hO2)
      clear hr hb hr2 hB2 hlen hlr hO2 HOT
      go_wp2_with fail
      rw [show 1 + 5 * (k : Int) + 1 + 1 + 1 + 1 + 1 = 1 + 5 * ((k + 1 : Nat) : Int) by omega, show 1 + 5 * (k : Int) + 1 + 1 + 1 + 1 = 5 + 5 * (k : Int) by omega, show 1 + 5 * (k : Int) + 1 + 1 + 1 = 4 + 5 * (k : Int) by omega, show 1 + 5 * (k : Int) + 1 + 1 = 3 + 5 * (k : Int) by omega, show 1 + 5 * (k : Int) + 1 = 2 + 5 * (k : Int) by omega]
      refine ⟨⟨k + 1, hlt, by go_num, rfl, HH.out.1, HH.out.2.1, HH.out.2.2⟩, ?_⟩
      simp [intOf]
      omega
    · obtain rfl : k = n := by omega
      have hre : marksE k ++ es.drop k = marksE k := by rw [HN.out, List.drop_length, List.append_nil]
      rw [hre] at hr
      clear hlt hk hre
      go_wp2
      go_ret
      exact ⟨rfl, hr, hb, HOT.out⟩
set_option maxRecDepth 100000 in
set_option maxHeartbeats 1000000 in
theorem heldEntryS_in (p : Option Addr) (n cv : Nat) (w : World) (h8 : n ≤ 1000) (hE : EntsIn w p (marksE n)) :
    Calls Try.prog 30 #[.slice p n cv, .int .i64 1] w fun e w' => e = .returned (.int .i64 (1 + 5 * (n : Int))) ∧ w = w' := by
  have HX : Hid (EntsIn w p (marksE n)) := hE
  clear hE
  go_enter Try.func30, Try.ntmps30
  go_wp2_with fail
  go_loop [5, 1] (fun i m => ∃ k : Nat, k ≤ n ∧ i = .int .i64 k ∧ m = .int .i64 (1 + 5 * (k : Int))) (fun i _ => n - (intOf i).toNat)
  case atStart => exact ⟨0, Nat.zero_le _, rfl, rfl⟩
  case round =>
    obtain ⟨k, hk, rfl, rfl⟩ := hrel
    by_cases hlt : k < n
    · obtain ⟨g, a, l, m, mt, tg, rfl, hg, hek, c0, c1, c2, c3, c4⟩ := HX.out.at k (by rw [marksE_length]; exact hlt)
      have hmk : (marksE n)[k]'(by rw [marksE_length]; exact hlt) = markE k := by simp [marksE]
      rw [hmk] at hek
      simp only [markE, Ent.mk.injEq] at hek
      obtain ⟨rfl, rfl, rfl, rfl, rfl⟩ := hek
      rw [show 2 + 5 * (k : Int) = 1 + 5 * (k : Int) + 1 by omega] at c1
      rw [show 3 + 5 * (k : Int) = 1 + 5 * (k : Int) + 1 + 1 by omega] at c2
      rw [show 4 + 5 * (k : Int) = 1 + 5 * (k : Int) + 1 + 1 + 1 by omega] at c3
      rw [show 5 + 5 * (k : Int) = 1 + 5 * (k : Int) + 1 + 1 + 1 + 1 by omega] at c4
      clear hmk
      go_wp2_with fail
      refine ⟨⟨k + 1, hlt, by go_num, by go_num⟩, ?_⟩
      simp [intOf]
      omega
    · obtain rfl : k = n := by omega
      clear hlt hk
      go_wp2
      go_ret
      exact ⟨rfl, rfl⟩
end Go.Proofs.Ytflmbkjnlgibnaa
/- The laws' own marks in an owned list of entries. -/
namespace Go.Proofs.Ytflmbkjnlgibnaa
open Go.RowKit Go.Sort

set_option maxRecDepth 100000 in
theorem markEntryS_0 (p : Option Addr) (cv : Nat) (w : World) : Calls Try.prog 29 #[.slice p 0 cv, .int .i64 1] w fun e w' => e = .returned (.int .i64 1) ∧ w = w' := by
  go_enter Try.func29, Try.ntmps29
  go_wp2_with fail
  go_loop [5, 1] (fun i k => i = .int .i64 0 ∧ k = .int .i64 1) (fun _ _ => 0)
  case atStart => exact ⟨rfl, rfl⟩
  case round =>
    obtain ⟨rfl, rfl⟩ := hrel
    go_wp2
    go_ret
    exact ⟨rfl, rfl⟩
theorem markEntryS_any (p : Option Addr) (n cv base : Nat) (es : List Ent) (w : World) (h8 : n ≤ 1000) (h : OwnE w base (.slice p n cv) es) :
    Calls Try.prog 29 #[.slice p n cv, .int .i64 1] w fun e w' => e = .returned (.int .i64 (1 + 5 * (n : Int))) ∧ OwnE w' base (.slice p n cv) (marksE n) ∧ Below base w w' ∧ ∀ b t l, p ≠ some ⟨b, 0, none⟩ → Row w b t l → Row w' b t l := by
  obtain ⟨hn, h0 | ⟨g, rest, rfl, hb, h1, h2, hr, hl⟩⟩ := h.opened
  · subst h0
    obtain rfl : n = 0 := hn
    exact (markEntryS_0 p cv w).mono fun e w' ⟨he, hw⟩ => ⟨he, hw ▸ h, hw ▸ Below.refl _ _, fun _ _ _ _ h => hw ▸ h⟩
  · refine (markEntryS_in g n cv es rest w hn h8 hr).mono fun e w' ⟨he, hr', hb', ho'⟩ => ⟨he, OwnE.shut (marksE_length n).symm hb h1 h2 hr' ?_, hb'.mono hb, fun b t l hp h => ho' b t l (fun e => hp (by rw [e])) h⟩
    rw [List.length_append, rowE_length, marksE_length, hn]
    rw [List.length_append, rowE_length] at hl
    exact hl
end Go.Proofs.Ytflmbkjnlgibnaa
