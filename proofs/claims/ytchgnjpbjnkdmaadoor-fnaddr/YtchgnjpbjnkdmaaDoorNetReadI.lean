/- NetRead of the program. -/
import Derived.Test.YtchgnjpbjnkdmaaDoorAddrOf
import Derived.Test.YtchgnjpbjnkdmaaDoorNetOf
import Derived.Test.YtchgnjpbjnkdmaaDoorTailB
import Derived.Test.YtchgnjpbjnkdmaaDoorReadN
namespace Go.Proofs.YtchgnjpbjnkdmaaDoor
open Go.RowKit Go.Sort

theorem cut_any (s : ByteArray) (w : World) (hM : MaxI w) (hs : s.size ≤ 1048576) :
    Calls Tryd.prog 52 #[.string s, .string ⟨#[47]⟩] w fun e w' => e = .returned (.tuple #[.string ⟨(Lib.cut s.data.toList [47]).1.toArray⟩, .string ⟨(Lib.cut s.data.toList [47]).2.1.toArray⟩, .bool (Lib.cut s.data.toList [47]).2.2]) ∧ Below w.heap.size w w' := by
  obtain ⟨m, hm⟩ := hM
  exact (Any.strings_Cut Tryd.lays145 s ⟨#[47]⟩ m w (by omega) hm).mono fun e w' ⟨he, n, hw⟩ => ⟨he, hw ▸ below_drewN (Below.refl _ _) n⟩
theorem cut_short (l : List UInt8) : (Lib.cut l [47]).1.length ≤ l.length ∧ (Lib.cut l [47]).2.1.length ≤ l.length := by
  rcases index_form 47 l with ⟨_, hn⟩ | ⟨p, r, rfl, hp, _⟩
  · rw [cut_no 47 l hn]; simp
  · rw [cut_hit 47 p r hp]; simp; omega
theorem two_at {w1 w2 : World} {b : Nat} {x y : Value} (h0 : w1.cell? ⟨b, 0, none⟩ = some x) (h1 : w1.cell? ⟨b, 1, none⟩ = some y) (hb : Below w1.heap.size w1 w2) : w2.cell? ⟨b, 0, none⟩ = some x ∧ w2.cell? ⟨b, 1, none⟩ = some y :=
  ⟨by rw [hb.cell (p := ⟨b, 0, none⟩) (World.block_lt_of_cell? w1 _ h0)]; exact h0, by rw [hb.cell (p := ⟨b, 1, none⟩) (World.block_lt_of_cell? w1 _ h1)]; exact h1⟩
theorem froz_at {w1 w2 : World} {b : Nat} (hl : b < w1.heap.size) (h : ∀ o, w1.frozen? ⟨b, o, none⟩ = false) (hb : Below w1.heap.size w1 w2) : ∀ o, w2.frozen? ⟨b, o, none⟩ = false := fun o => by
  rw [hb.frozen (p := ⟨b, o, none⟩) hl]; exact h o
theorem froz_new (w : World) (x y : Value) (t : TypeId) : ∀ o, (w.alloc (.cells #[x, y] t)).frozen? ⟨w.heap.size, o, none⟩ = false := fun o => by
  unfold World.frozen?
  rw [heap_alloc_new w]
  simp
/-- What netOfText hands back. -/
def netW (s : ByteArray) : (Int × Int) × Bool := match addrR (Lib.cut s.data.toList [47]).1, dR 32 (Lib.cut s.data.toList [47]).2.1 with
  | some a, some n => (((a : Int), (n : Int)), rightB (a : Int) (n : Int))
  | _, _ => ((0, 0), false)
def netWV (s : ByteArray) : Value := .tuple #[netV (netW s).1.1 (netW s).1.2, .bool (netW s).2]
set_option maxRecDepth 100000 in
theorem netOfText_any (s : ByteArray) (w : World) (hM : MaxI w) (hs : s.size ≤ 1048576) :
    Calls Tryd.prog 35 #[.string s] w fun e w' => e = .returned (netWV s) ∧ Below w.heap.size w w' := by
  have hsh := cut_short s.data.toList
  rw [show s.data.toList.length = s.size by simp] at hsh
  have HC : Hid (∀ w, MaxI w → Calls Tryd.prog 52 #[.string s, .string ⟨#[47]⟩] w fun e w' => e = .returned (.tuple #[.string ⟨(Lib.cut s.data.toList [47]).1.toArray⟩, .string ⟨(Lib.cut s.data.toList [47]).2.1.toArray⟩, .bool (Lib.cut s.data.toList [47]).2.2]) ∧ Below w.heap.size w w') := fun w h => cut_any s w h hs
  have HA : Hid (∀ w, MaxI w → Calls Tryd.prog 34 #[.string ⟨(Lib.cut s.data.toList [47]).1.toArray⟩] w fun e w' => e = .returned (addrV ⟨(Lib.cut s.data.toList [47]).1.toArray⟩) ∧ Below w.heap.size w w') := fun w h => addrOf_any _ w h (by simp [ByteArray.size]; omega)
  have HD : Hid (∀ w, Calls Tryd.prog 51 #[.string ⟨(Lib.cut s.data.toList [47]).2.1.toArray⟩, .int .i64 32] w fun e w' => e = .returned (digV 32 ⟨(Lib.cut s.data.toList [47]).2.1.toArray⟩) ∧ Below w.heap.size w w') := fun w => digits_any _ 32 w (by omega) (by simp [ByteArray.size]; omega)
  have HM : Hid (MaxI w) := hM
  clear hM hsh
  generalize (Lib.cut s.data.toList [47]).2.2 = fb at *
  cases hr : addrR (Lib.cut s.data.toList [47]).1 with
  | none =>
    have HV : Hid (netWV s = .tuple #[.agg #[.int .i64 0, .int .i64 0], .bool false]) := by show _ = _; unfold netWV netW; rw [hr]; rfl
    rw [addrV_none (by simpa using hr)] at HA
    clear hr
    have HDX : Hid (∃ x b, digV 32 ⟨(Lib.cut s.data.toList [47]).2.1.toArray⟩ = .tuple #[.int .i64 x, .bool b]) := by
      cases hq : dR 32 (⟨(Lib.cut s.data.toList [47]).2.1.toArray⟩ : ByteArray).data.toList with
      | none => exact ⟨_, _, digV_none hq⟩
      | some n => exact ⟨_, _, digV_some hq⟩
    obtain ⟨x, b, hx⟩ := HDX.out
    rw [hx] at HD
    clear hx HDX
    generalize (⟨(Lib.cut s.data.toList [47]).1.toArray⟩ : ByteArray) = h1 at *
    generalize (⟨(Lib.cut s.data.toList [47]).2.1.toArray⟩ : ByteArray) = h2 at *
    generalize netWV s = V at *
    go_enter Tryd.func35, Tryd.ntmps35
    go_wp2_with fail
    refine (HC.out _ (HM.out.below ((Below.refl _ _).alloc (Nat.le_refl _) _))).mono ?_
    rintro e w1 ⟨rfl, hb1⟩
    obtain ⟨c0, c1, hs1, hB1⟩ := cell2_later rfl hb1
    have f1 := froz_at (by simp) (froz_new w _ _ _) hb1
    clear hb1
    go_wp2_with fail
    refine (HA.out _ (HM.out.below hB1)).mono ?_
    rintro e w2 ⟨rfl, hb2⟩
    obtain ⟨d0, d1⟩ := two_at c0 c1 hb2
    have f2 := froz_at hs1 f1 hb2
    have hB2 := hB1.trans (hb2.mono hB1.size)
    have hs2 : w.heap.size < w2.heap.size := by have := hb2.size; omega
    clear c0 c1 f1 hb2 hB1
    go_wp2_with fail
    refine (HD.out _).mono ?_
    rintro e w3 ⟨rfl, hb3⟩
    obtain ⟨c0, c1⟩ := two_at d0 d1 hb3
    have f3 := froz_at hs2 f2 hb3
    have hB3 := hB2.trans (hb3.mono hB2.size)
    have hs3 : w.heap.size < w3.heap.size := by have := hb3.size; omega
    clear d0 d1 f2 hb3 hB2
    go_wp2
    refine bodyPost_ret (v := V) (by rw [HV.out]; simp [results, Tryd.results35, go_sem, c0, c1]) rfl ⟨rfl, ?_⟩
    exact (hB3.setCell (Nat.le_refl _) _).setCell (Nat.le_refl _) _
  | some a =>
    rw [addrV_some (by simpa using hr)] at HA
    cases hq : dR 32 (Lib.cut s.data.toList [47]).2.1 with
    | none =>
      have HV : Hid (netWV s = .tuple #[.agg #[.int .i64 0, .int .i64 0], .bool false]) := by show _ = _; unfold netWV netW; rw [hr, hq]; rfl
      rw [digV_none (by simpa using hq)] at HD
      clear hr hq
      generalize (⟨(Lib.cut s.data.toList [47]).1.toArray⟩ : ByteArray) = h1 at *
      generalize (⟨(Lib.cut s.data.toList [47]).2.1.toArray⟩ : ByteArray) = h2 at *
      generalize netWV s = V at *
      go_enter Tryd.func35, Tryd.ntmps35
      go_wp2_with fail
      refine (HC.out _ (HM.out.below ((Below.refl _ _).alloc (Nat.le_refl _) _))).mono ?_
      rintro e w1 ⟨rfl, hb1⟩
      obtain ⟨c0, c1, hs1, hB1⟩ := cell2_later rfl hb1
      have f1 := froz_at (by simp) (froz_new w _ _ _) hb1
      clear hb1
      go_wp2_with fail
      refine (HA.out _ (HM.out.below hB1)).mono ?_
      rintro e w2 ⟨rfl, hb2⟩
      obtain ⟨d0, d1⟩ := two_at c0 c1 hb2
      have f2 := froz_at hs1 f1 hb2
      have hB2 := hB1.trans (hb2.mono hB1.size)
      have hs2 : w.heap.size < w2.heap.size := by have := hb2.size; omega
      clear c0 c1 f1 hb2 hB1
      go_wp2_with fail
      refine (HD.out _).mono ?_
      rintro e w3 ⟨rfl, hb3⟩
      obtain ⟨c0, c1⟩ := two_at d0 d1 hb3
      have f3 := froz_at hs2 f2 hb3
      have hB3 := hB2.trans (hb3.mono hB2.size)
      have hs3 : w.heap.size < w3.heap.size := by have := hb3.size; omega
      clear d0 d1 f2 hb3 hB2
      go_wp2
      refine bodyPost_ret (v := V) (by rw [HV.out]; simp [results, Tryd.results35, go_sem, c0, c1]) rfl ⟨rfl, ?_⟩
      exact (hB3.setCell (Nat.le_refl _) _).setCell (Nat.le_refl _) _
    | some n =>
      have HV : Hid (netWV s = .tuple #[.agg #[.int .i64 (a : Int), .int .i64 (n : Int)], .bool (rightB (a : Int) (n : Int))]) := by show _ = _; unfold netWV netW; rw [hr, hq]; rfl
      rw [digV_some (by simpa using hq)] at HD
      have HR : Hid (∀ w, Calls Tryd.prog 22 #[.agg #[.int .i64 (a : Int), .int .i64 (n : Int)]] w fun e w' => e = .returned (.bool (rightB (a : Int) (n : Int))) ∧ Below w.heap.size w w') := implRight_any (a : Int) (n : Int)
      clear hr hq
      generalize (⟨(Lib.cut s.data.toList [47]).1.toArray⟩ : ByteArray) = h1 at *
      generalize (⟨(Lib.cut s.data.toList [47]).2.1.toArray⟩ : ByteArray) = h2 at *
      generalize netWV s = V at *
      generalize rightB (a : Int) (n : Int) = B at *
      go_enter Tryd.func35, Tryd.ntmps35
      go_wp2_with fail
      refine (HC.out _ (HM.out.below ((Below.refl _ _).alloc (Nat.le_refl _) _))).mono ?_
      rintro e w1 ⟨rfl, hb1⟩
      obtain ⟨c0, c1, hs1, hB1⟩ := cell2_later rfl hb1
      have f1 := froz_at (by simp) (froz_new w _ _ _) hb1
      clear hb1
      go_wp2_with fail
      refine (HA.out _ (HM.out.below hB1)).mono ?_
      rintro e w2 ⟨rfl, hb2⟩
      obtain ⟨d0, d1⟩ := two_at c0 c1 hb2
      have f2 := froz_at hs1 f1 hb2
      have hB2 := hB1.trans (hb2.mono hB1.size)
      have hs2 : w.heap.size < w2.heap.size := by have := hb2.size; omega
      clear c0 c1 f1 hb2 hB1
      go_wp2_with fail
      refine (HD.out _).mono ?_
      rintro e w3 ⟨rfl, hb3⟩
      obtain ⟨c0, c1⟩ := two_at d0 d1 hb3
      have f3 := froz_at hs2 f2 hb3
      have hB3 := hB2.trans (hb3.mono hB2.size)
      have hs3 : w.heap.size < w3.heap.size := by have := hb3.size; omega
      clear d0 d1 f2 hb3 hB2
      have k0 := cell_regrown (cell2_0 w3 (.int .i64 (a : Int)) (.int .i64 (n : Int)) 25)
      have k1 := cell_regrown (cell2_1 w3 (.int .i64 (a : Int)) (.int .i64 (n : Int)) 25)
      go_wp2_with fail
      refine wp_region_tail_below 3 (by kernel_rfl) (by kernel_rfl) ?_
      simp only [List.take_succ_cons, List.take_zero, List.drop_succ_cons, List.drop_zero]
      repeat (quiet_step ((go_at_call 22; exact Calls.regrown_of (HR.out _))))
      refine wpQuiet_nil ?_
      intro w4 hw'
      obtain ⟨⟨dq, osq⟩, hw''⟩ := hw'
      have hbq := below_regrown (w3.alloc (.cells #[.int .i64 (a : Int), .int .i64 (n : Int)] 25)) dq osq
      rw [← hw''] at hbq
      clear hw'' osq dq k0 k1
      have hA3 : Below w3.heap.size w3 (w3.alloc (.cells #[.int .i64 (a : Int), .int .i64 (n : Int)] 25)) := (Below.refl _ _).alloc (Nat.le_refl _) _
      have hb4 : Below w3.heap.size w3 w4 := hA3.trans (hbq.mono (by simp))
      obtain ⟨d0, d1⟩ := two_at c0 c1 hb4
      have f4 := froz_at hs3 f3 hb4
      have hB4 := hB3.trans (hb4.mono hB3.size)
      clear c0 c1 f3 hbq hA3 hb4
      go_wp2
      refine bodyPost_ret (v := V) (by rw [HV.out]; simp [results, Tryd.results35, go_sem, d0, d1]) rfl ⟨rfl, ?_⟩
      exact (hB4.setCell (Nat.le_refl _) _).setCell (Nat.le_refl _) _
theorem netW_some {s : ByteArray} {a n : Nat} (h : netR s.data.toList = some (a, n)) : netWV s = .tuple #[.agg #[.int .i64 (a : Int), .int .i64 (n : Int)], .bool true] := by
  obtain ⟨h1, h2, h3, _⟩ := (netR_iff _ _ _).1 h
  unfold netR at h
  simp only [Option.bind_eq_some_iff] at h
  obtain ⟨x, hx, y, hy, h⟩ := h
  by_cases hc : cutV (x : Int) (y : Int) = (x : Int)
  · rw [if_pos hc] at h
    simp only [Option.some.injEq, Prod.mk.injEq] at h
    obtain ⟨rfl, rfl⟩ := h
    have hr : rightB (x : Int) (y : Int) = true := by simp [rightB, hc]; omega
    unfold netWV netW
    rw [hx, hy]
    simp only
    rw [hr]
    rfl
  · rw [if_neg hc] at h; cases h
theorem netW_none {s : ByteArray} (h : netR s.data.toList = none) : ∃ a n, netWV s = .tuple #[.agg #[.int .i64 a, .int .i64 n], .bool false] := by
  cases hx : addrR (Lib.cut s.data.toList [47]).1 with
  | none => exact ⟨0, 0, by unfold netWV netW; rw [hx]; rfl⟩
  | some x =>
    cases hy : dR 32 (Lib.cut s.data.toList [47]).2.1 with
    | none => exact ⟨0, 0, by unfold netWV netW; rw [hx, hy]; rfl⟩
    | some y =>
      refine ⟨(x : Int), (y : Int), ?_⟩
      unfold netR at h
      rw [hx, hy] at h
      simp only [Option.bind_some] at h
      have hc : ¬ cutV (x : Int) (y : Int) = (x : Int) := by
        intro hc
        rw [if_pos hc] at h; cases h
      have hr : rightB (x : Int) (y : Int) = false := by simp [rightB, hc]
      unfold netWV netW
      rw [hx, hy]
      simp only
      rw [hr]
      rfl
set_option maxRecDepth 100000 in
theorem implNetRead_any (s : ByteArray) (w : World) (hM : MaxI w) (hs : s.size ≤ 1048576) :
    Calls Tryd.prog 13 #[.string s] w fun e w' => e = .returned (netO (readN s).1.1 (readN s).1.2 (readN s).2) ∧ Below w.heap.size w w' := by
  by_cases hz : 8000 < s.size
  · rw [readN_big hz]
    unfold netO
    go_enter Tryd.func13, Tryd.ntmps13
    go_wp2
    refine bodyPost_ret (v := .agg #[.int .i64 0, .int .i64 0, .int .i64 2]) (by simp [results, Tryd.results13, go_sem]) rfl ⟨rfl, (Below.refl _ _).alloc (Nat.le_refl _) _⟩
  · have HC : Hid (∀ w, MaxI w → Calls Tryd.prog 35 #[.string s] w fun e w' => e = .returned (netWV s) ∧ Below w.heap.size w w') := fun w h => netOfText_any s w h hs
    have HM : Hid (MaxI w) := hM
    clear hM
    cases hr : netR s.data.toList with
    | none =>
      rw [readN_none hz hr]
      obtain ⟨x, y, hxy⟩ := netW_none hr
      rw [hxy] at HC
      unfold netO
      clear hr hxy
      go_enter Tryd.func13, Tryd.ntmps13
      go_wp2_with fail
      refine (HC.out _ (HM.out.below ((Below.refl _ _).alloc (Nat.le_refl _) _))).mono ?_
      rintro e w1 ⟨rfl, hb1⟩
      obtain ⟨hc1, hf1⟩ := bcell hb1
      have hs1 : w.heap.size < w1.heap.size := by have := hb1.size; simp at this; omega
      have hB : Below w.heap.size w w1 := ((Below.refl _ _).alloc (Nat.le_refl _) _).trans (hb1.mono (by simp))
      go_wp2
      refine bodyPost_ret (v := .agg #[.int .i64 0, .int .i64 0, .int .i64 3]) (by simp [results, Tryd.results13, go_sem, hc1, hs1]) rfl ⟨rfl, ?_⟩
      exact (((hB.setCell (Nat.le_refl _) _).setCell (Nat.le_refl _) _).setCell (Nat.le_refl _) _).alloc (by simp [World.setCell]; omega) _
    | some an =>
      obtain ⟨a, n⟩ := an
      rw [readN_some hz hr]
      rw [netW_some hr] at HC
      unfold netO
      clear hr
      go_enter Tryd.func13, Tryd.ntmps13
      go_wp2_with fail
      refine (HC.out _ (HM.out.below ((Below.refl _ _).alloc (Nat.le_refl _) _))).mono ?_
      rintro e w1 ⟨rfl, hb1⟩
      obtain ⟨hc1, hf1⟩ := bcell hb1
      have hs1 : w.heap.size < w1.heap.size := by have := hb1.size; simp at this; omega
      have hB : Below w.heap.size w w1 := ((Below.refl _ _).alloc (Nat.le_refl _) _).trans (hb1.mono (by simp))
      go_wp2
      refine bodyPost_ret (v := .agg #[.int .i64 a, .int .i64 n, .int .i64 0]) (by simp [results, Tryd.results13, go_sem, hc1, hs1]) rfl ⟨rfl, ?_⟩
      exact (((hB.setCell (Nat.le_refl _) _).setCell (Nat.le_refl _) _).setCell (Nat.le_refl _) _).alloc (by simp [World.setCell]; omega) _
end Go.Proofs.YtchgnjpbjnkdmaaDoor
