/- Texts that stand on each other, in one file: AppN. -/
import Derived.Test.YtialedffpaoacaaGreatDoorPack31
import Derived.Maps.AppendAt
/- slices.AppendSeq and Collect at nets, over maps.Keys. (Written by gen_appn.py.) -/
namespace Go.Proofs.YtialedffpaoacaaGreatDoor
open Go.RowKit Go.Sort Go.Shelf
attribute [local go_sem] Oper.semAt_some

theorem cell_two_new (W : World) (a b : Value) (t : TypeId) : ∀ j u, [a, b][j]? = some u → (W.alloc (.cells #[a, b] t)).cell? ((⟨W.heap.size, 0, none⟩ : Addr).add j) = some u := by
  intro j u hj
  match j, hj with
  | 0, hj => cases hj; exact (Row.new W t [a, b]).cell 0
  | 1, hj => cases hj; exact (Row.new W t [a, b]).cell 1
  | j + 2, hj => simp at hj
theorem Tryz.infoNet : (Tryz.prog.info? 70).map (fun i => (i.zero, i.size, i.bytes)) = some (some (.agg #[.int .i64 0, .int .i64 0]), 2, 16) := by kernel_rfl
theorem keys_stops (F : Fence) (n : Nat) (hf : F.fn 242) (hro : F.round = none) (hn : 1 ≤ n) (Bm b : Nat) (rs : List Rt) (w : World) (hm : w.cell? ⟨Bm, 0, none⟩ = some (.map (some b))) (hM : MapIs w b rs) :
    SeqStopsK F n Tryz.prog 242 #[.pointer (some ⟨Bm, 0, none⟩)] (fun x : NP => #[netV x.1 x.2]) KeepsWalks (fun xs => xs.Perm (rs.map netOfR)) (fun _ => True) rs.length w := fun l J Jx W hW hJ _ hY h0 =>
  keys1_in F n hf hro hn l Bm b rs J Jx hY W hJ ((hW.cell (p := ⟨Bm, 0, none⟩) (World.block_lt_of_cell? w _ hm)).trans hm) (hM.below hW hM.lt) h0
set_option maxRecDepth 100000 in
set_option maxHeartbeats 2000000 in
theorem appendSeqN (Bm b : Nat) (rs : List Rt) (w : World) (h8 : rs.length ≤ 100) (hm : w.cell? ⟨Bm, 0, none⟩ = some (.map (some b))) (hM : MapIs w b rs) :
    Calls Tryz.prog 243 #[.slice none 0 0, .func (.func 242) #[] #[.pointer (some ⟨Bm, 0, none⟩)]] w fun e w' => ∃ v xs, e = .returned v ∧ xs.Perm (rs.map netOfR) ∧ w'.ownsRow w.heap.size 70 2 v xs.length (flatN xs) ∧ Below w.heap.size w w' := by
  refine (callsIn_wide (n := 9)).1 ?_
  refine callsIn_of_wp_marks Tryz.func243 rfl trivial ?_ rfl
  simp only [Tryz.ntmps243, List.size_toArray, List.length_cons, List.length_nil, Nat.reduceAdd, Nat.reduceSub, Array.replicate_succ, Array.replicate_zero, List.push_toArray, List.append_toArray, List.nil_append, List.cons_append]
  gi_wp2
  have bS := Boxed.new w 278 (.slice none 0 0)
  have hB0 : Below w.heap.size w (w.alloc (.cells #[.slice none 0 0] 278)) := ent_new0 w _
  have hm0 : (w.alloc (.cells #[.slice none 0 0] 278)).cell? ⟨Bm, 0, none⟩ = some (.map (some b)) := by rw [hB0.cell (p := ⟨Bm, 0, none⟩) (World.block_lt_of_cell? w _ hm)]; exact hm
  have hM0 := hM.below hB0 hM.lt
  have hs0 : (w.alloc (.cells #[.slice none 0 0] 278)).heap.size = w.heap.size + 1 := by simp
  obtain ⟨Z, hZ⟩ : ∃ Z, (w.alloc (.cells #[.slice none 0 0] 278)) = Z := ⟨_, rfl⟩
  rw [hZ] at bS hB0 hm0 hM0 hs0 ⊢
  clear hZ hm hM
  refine wpIn_rangeFunc_ownH rfl (by omega) (gf := 242) (lb := #[.pointer (some ⟨Bm, 0, none⟩)]) rfl trivial (enters_of Tryz.func242 (by kernel_rfl) rfl)
    (keys_stops Fence.wide (9 - 1) trivial rfl (by omega) Bm b rs Z hm0 hM0) walksK_t walksK_b (Below.refl _ _) (fun _ => rfl)
    (fun pre W => (∃ v, Boxed W w.heap.size 278 v ∧ W.ownsRow w.heap.size 70 2 v pre.length (flatN pre) ∧ True) ∧ Below w.heap.size w W)
    (fun _ _ _ => False)
    (OwnFrom.and (Own.from (holdsRow_own w.heap.size w.heap.size 278 70 2 (fun pre : List NP => pre.length) flatN (fun _ _ => True)) _) (ownFrom_below (Nat.le_refl _) (by omega)))
    (fun _ _ _ _ _ hs _ _ => hs)
    ⟨⟨_, bS, World.ownsRow_nil Z _ _ 2, trivial⟩, hB0⟩
    (fun x a' W => ∃ Bx, w.heap.size < Bx ∧ Row W Bx 70 [.int .i64 x.1, .int .i64 x.2] ∧ a' = { tmps := #[.slice none 0 0, .func (.func 242) #[] #[.pointer (some ⟨Bm, 0, none⟩)], .pointer (some ⟨w.heap.size, 0, none⟩), undef, .slice none 0 0, .pointer (some ⟨Bx, 0, none⟩), .func (.func 242) #[] #[.pointer (some ⟨Bm, 0, none⟩)], netV x.1 x.2, undef, undef, undef, undef, undef], defers := [] })
    (fun x a' _ X Y row hs hg hr => by
      obtain ⟨Bx, h1, h2, h3⟩ := hs
      refine ⟨Bx, h1, (hg.block Bx h2.lt (fun e => ?_)).trans h2, h3⟩
      obtain ⟨_, o, ho, hc⟩ := hr Bx e.symm
      rw [show X.heap[Bx]? = _ from h2] at ho
      cases ho
      cases hc)
    ?assign ?body ?done ?stop
  case assign =>
    rintro l pre x W K ⟨⟨v, bv, hv, -⟩, hB1⟩ hK
    obtain ⟨xa, xl⟩ := x
    unfold netV at hK ⊢
    simp only at hK ⊢
    gi_wp2
    exact hK _ _ ((KeepsOthers.alloc _ _).from _) (KeepsWalks.alloc _ _) ⟨⟨v, bv.alloc _, hv.alloc _, trivial⟩, hB1.alloc hB1.size _⟩ ⟨W.heap.size, bv.lt, Row.new W 70 [.int .i64 xa, .int .i64 xl], rfl⟩
  case body =>
    rintro l pre x a' W hl ⟨r, hr⟩ ⟨⟨v, bv, hv, -⟩, hB1⟩ ⟨Bx, hBx, hRx, rfl⟩ hlt
    obtain ⟨xa, xl⟩ := x
    unfold netV
    simp only at hRx ⊢
    have c0 := bv.cell
    have x0 : W.cell? ⟨Bx, 0, none⟩ = some (.int .i64 xa) := hRx.cell 0
    have x1 : W.cell? ⟨Bx, 1, none⟩ = some (.int .i64 xl) := hRx.cell 1
    obtain ⟨i0, hi0, hz0, hz1, hz2⟩ := info_parts Tryz.infoNet
    gi_wp2_with (gi_at_builtin; refine wpListIn_append_own _ rfl _ _ 278 rfl w.heap.size 70 i0 (.agg #[.int .i64 0, .int .i64 0]) 2 16 Tryz.underlying278 hi0 hz0 hz1 hz2 rfl (by decide) _ _ _ rfl (hv.alloc _) ⟨W.heap.size, 0, none⟩ 1 1 [.int .i64 xa, .int .i64 xl] rfl rfl (cell_two_new W _ _ _) (by simp [Value.oneCell']) (by unfold maxLen; omega) (by omega) (by have := hB1.size; simp; omega) ?_; intro v' w1 hown' hgrow _; obtain ⟨g', cap', rfl⟩ := ownsRow_succ hown'; obtain ⟨hv1, hv2, hr2, hk2, hb2⟩ := bv.appended (by decide) hv hB1.size (Nat.le_refl _) hown' hgrow; have hc1 := hv1.cell; have hf1 := hv1.frozen)
    refine ⟨hk2.from _, hk2.walks, ⟨_, hv2, ?_, trivial⟩, hB1.trans hb2⟩
    rw [List.length_append, show flatN (pre ++ [(xa, xl)]) = flatN pre ++ [.int .i64 xa, .int .i64 xl] by simp [flatN]]
    exact hr2
  case done =>
    rintro D xs W hD hS ⟨⟨v, bv, hv, -⟩, hB1⟩ hK
    have c0 := bv.cell
    gi_wp2
    refine ⟨by simp, .inl ⟨_, _, rfl, run_takeDeferred hK, ?_⟩⟩
    refine ⟨_, results_tmp rfl _ _ _, v, xs, rfl, hS, ownsRow_putObj hv _ hK rfl, ?_⟩
    exact hB1.trans (belowK_b (w := w) (Nat.le_refl _) W D _ _ (by omega) hK rfl rfl)
  case stop =>
    rintro D c pre W _ _ h _
    exact h.elim
set_option maxRecDepth 100000 in
theorem collectN (Bm b : Nat) (rs : List Rt) (w : World) (h8 : rs.length ≤ 100) (hm : w.cell? ⟨Bm, 0, none⟩ = some (.map (some b))) (hM : MapIs w b rs) :
    Calls Tryz.prog 240 #[.func (.func 242) #[] #[.pointer (some ⟨Bm, 0, none⟩)]] w fun e w' => ∃ v xs, e = .returned v ∧ xs.Perm (rs.map netOfR) ∧ w'.ownsRow w.heap.size 70 2 v xs.length (flatN xs) ∧ Below w.heap.size w w' := by
  have HA : Hid (Calls Tryz.prog 243 #[.slice none 0 0, .func (.func 242) #[] #[.pointer (some ⟨Bm, 0, none⟩)]] w fun e w' => ∃ v xs, e = .returned v ∧ xs.Perm (rs.map netOfR) ∧ w'.ownsRow w.heap.size 70 2 v xs.length (flatN xs) ∧ Below w.heap.size w w') := appendSeqN Bm b rs w h8 hm hM
  clear hm hM
  go_enter Tryz.func240, Tryz.ntmps240
  go_wp2_with fail
  refine (HA.out).mono ?_
  rintro e w1 ⟨v, xs, rfl, h1, h2, h3⟩
  go_wp2
  go_ret
  exact ⟨v, xs, rfl, h1, h2, h3⟩
end Go.Proofs.YtialedffpaoacaaGreatDoor
