/- Texts that stand on each other, in one file: CloneL, AtWork, OutI, AppTn. -/
import Derived.Test.YtialedffpaoacaaGreatDoorPack21
import Derived.Lib.SliceRun
import Derived.Test.YtialedffpaoacaaGreatDoorPack2
import Derived.Test.YtialedffpaoacaaGreatDoorPack22
import Derived.Test.YtialedffpaoacaaGreatDoorPack23
/- slices.Clone, of Ifaces and of Routes. (Written by gen_near.py.) -/
namespace Go.Proofs.YtialedffpaoacaaGreatDoor
open Go.RowKit Go.Sort

theorem ownsR_shapeC {w : World} {base n : Nat} {v : Value} {xs : List Value} (h : w.ownsRow base 144 9 v n xs) : ∃ q c, v = .slice q n c := by
  rcases h.2 with ⟨h1, h2⟩ | ⟨g, cap, cur, h1, _⟩
  · exact ⟨none, 0, by rw [h1, h2]⟩
  · exact ⟨_, _, h1⟩
set_option maxRecDepth 100000 in
set_option maxHeartbeats 2000000 in
theorem cloneR_any (p : Option Addr) (cap : Nat) (rs : List Rt) (w : World) (h : RtsIn w p rs) (hc : p = none → cap = 0) (hn : rs.length ≤ 100000000) :
    Calls Tryz.prog 143 #[.slice p rs.length cap] w fun e w' => ∃ q c, e = .returned (.slice q rs.length c) ∧ w'.ownsRow w.heap.size 144 9 (.slice q rs.length c) rs.length (rowR rs) ∧ Below w.heap.size w w' := by
  cases p with
  | none =>
    obtain rfl := rtsIn_none h rfl
    obtain rfl := hc rfl
    clear h hc hn
    have hq : (binOp .eql 47 (.slice none 0 0) (.slice none 0 0)).run Tryz.prog w = .ok (.bool true) w := Lib.run_eql_slice_nil w 47 _ none 0 0 0 0 Tryz.underlying47
    go_enter Tryz.func143, Tryz.ntmps143
    go_wp2
    go_ret
    exact ⟨none, 0, rfl, World.ownsRow_nil w _ _ _, Below.refl _ _⟩
  | some ad =>
    have hX := h.alloc (.cells #[] 144)
    have ho := World.ownsRow_lit (base := w.heap.size) (e := 144) (size := 9) w #[] 0 (Nat.le_refl _) (Nat.zero_le _) (by simp)
    obtain ⟨v4, w4, happ, hown4, hb4⟩ := run_append_rts (w.alloc (.cells #[] 144)) w.heap.size (.slice (some ⟨w.heap.size, 0, none⟩) 0 0) [] rs (some ad) cap 47 (by simpa [rowR] using ho) (fun e => by cases e) (fun ad e j u hj => by
      rcases hX with rfl | ⟨g, hg, _, hcell⟩
      · simp [rowR] at hj
      · cases e
        cases hg
        rw [show (⟨g, 0, none⟩ : Addr).add j = ⟨g, j, none⟩ by unfold Addr.add; split <;> simp_all]
        exact hcell j u hj) (by simp; omega) (by simp)
    rw [List.nil_append] at hown4
    obtain ⟨q4, c4, rfl⟩ := ownsR_shapeC hown4
    have hB : Below w.heap.size w w4 := (ent_new0 w _).trans hb4
    have HE : Hid _ := And.intro hown4 hB
    clear hown4 hB hb4 ho hX h hc hn
    have hq : (binOp .eql 47 (.slice (some ad) rs.length cap) (.slice none 0 0)).run Tryz.prog w = .ok (.bool false) w := Lib.run_eql_slice_nil w 47 _ (some ad) rs.length cap 0 0 Tryz.underlying47
    go_enter Tryz.func143, Tryz.ntmps143
    go_wp2_with (at_builtin; refine wpList_append_runs rfl _ _ 47 rfl _ _ rfl rfl happ ?_)
    go_ret
    exact ⟨q4, c4, rfl, HE.out.1, HE.out.2⟩
set_option maxRecDepth 100000 in
set_option maxHeartbeats 2000000 in
theorem cloneI_any (p : Option Addr) (cap : Nat) (rs : List If) (w : World) (h : IfsIn w p rs) (hc : p = none → cap = 0) (hn : rs.length ≤ 100000000) :
    Calls Tryz.prog 144 #[.slice p rs.length cap] w fun e w' => ∃ q c, e = .returned (.slice q rs.length c) ∧ w'.ownsRow w.heap.size 72 5 (.slice q rs.length c) rs.length (rowI rs) ∧ Below w.heap.size w w' := by
  cases p with
  | none =>
    obtain rfl := ifsIn_none h rfl
    obtain rfl := hc rfl
    clear h hc hn
    have hq : (binOp .eql 46 (.slice none 0 0) (.slice none 0 0)).run Tryz.prog w = .ok (.bool true) w := Lib.run_eql_slice_nil w 46 _ none 0 0 0 0 Tryz.underlying46
    go_enter Tryz.func144, Tryz.ntmps144
    go_wp2
    go_ret
    exact ⟨none, 0, rfl, World.ownsRow_nil w _ _ _, Below.refl _ _⟩
  | some ad =>
    have hX := h.alloc (.cells #[] 72)
    have ho := World.ownsRow_lit (base := w.heap.size) (e := 72) (size := 5) w #[] 0 (Nat.le_refl _) (Nat.zero_le _) (by simp)
    obtain ⟨v4, w4, happ, hown4, hb4⟩ := run_append_ifs (w.alloc (.cells #[] 72)) w.heap.size (.slice (some ⟨w.heap.size, 0, none⟩) 0 0) [] rs (some ad) cap 46 (by simpa [rowI] using ho) (fun e => by cases e) (fun ad e j u hj => by
      rcases hX with rfl | ⟨g, hg, _, hcell⟩
      · simp [rowI] at hj
      · cases e
        cases hg
        rw [show (⟨g, 0, none⟩ : Addr).add j = ⟨g, j, none⟩ by unfold Addr.add; split <;> simp_all]
        exact hcell j u hj) (by simp; omega) (by simp)
    rw [List.nil_append] at hown4
    obtain ⟨q4, c4, rfl⟩ := ownsI_shape hown4
    have hB : Below w.heap.size w w4 := (ent_new0 w _).trans hb4
    have HE : Hid _ := And.intro hown4 hB
    clear hown4 hB hb4 ho hX h hc hn
    have hq : (binOp .eql 46 (.slice (some ad) rs.length cap) (.slice none 0 0)).run Tryz.prog w = .ok (.bool false) w := Lib.run_eql_slice_nil w 46 _ (some ad) rs.length cap 0 0 Tryz.underlying46
    go_enter Tryz.func144, Tryz.ntmps144
    go_wp2_with (at_builtin; refine wpList_append_runs rfl _ _ 46 rfl _ _ rfl rfl happ ?_)
    go_ret
    exact ⟨q4, c4, rfl, HE.out.1, HE.out.2⟩
end Go.Proofs.YtialedffpaoacaaGreatDoor
/- A router at work: its lists are its own. (Written by gen_near.py.) -/
namespace Go.Proofs.YtialedffpaoacaaGreatDoor
open Go.RowKit Go.Sort

theorem stab_ownI (B n1 : Nat) (is : List If) : ∀ (v : Value) (w1 w2 : World), (∃ q c, v = .slice q n1 c ∧ w1.ownsRow B 72 5 (.slice q n1 c) n1 (rowI is)) → Below w1.heap.size w1 w2 → ∃ q c, v = .slice q n1 c ∧ w2.ownsRow B 72 5 (.slice q n1 c) n1 (rowI is) := by
  rintro v w1 w2 ⟨q, c, e, h⟩ hb
  exact ⟨q, c, e, ownsI_below h hb⟩
theorem stab_atw (B n1 n2 k2 : Nat) (q2 : Option Addr) (now : Int) (is : List If) : ∀ (v : Value) (w1 w2 : World), (∃ q c, v = .agg #[.slice q2 n2 k2, .slice q n1 c, .int .i64 now] ∧ w1.ownsRow B 72 5 (.slice q n1 c) n1 (rowI is)) → Below w1.heap.size w1 w2 → ∃ q c, v = .agg #[.slice q2 n2 k2, .slice q n1 c, .int .i64 now] ∧ w2.ownsRow B 72 5 (.slice q n1 c) n1 (rowI is) := by
  rintro v w1 w2 ⟨q, c, e, h⟩ hb
  exact ⟨q, c, e, ownsI_below h hb⟩
theorem ownsR_kept' {w w' : World} {base n : Nat} {v : Value} {xs l : List Value} {g : Nat} {t : TypeId} (h : w.ownsRow base 144 9 v n xs) (hr : Row w g t l) (ht : t ≠ 144) (k : Nat) (u : Value) (e : w' = w.setCell ⟨g, k, none⟩ u) : w'.ownsRow base 144 9 v n xs := by
  subst e
  refine ⟨h.1, ?_⟩
  rcases h.2 with h2 | ⟨b, cap, cur, h1, h2, h3, h4⟩
  · exact .inl h2
  · refine .inr ⟨b, cap, cur, h1, h2, ?_, h4⟩
    have hr' : Row w b 144 cur.toList := by unfold Row; simpa using h3
    have := hr'.other k u (row_ne hr' hr (fun e => ht e.symm))
    unfold Row at this
    simpa using this
/-- What a router at work is: a block of its own, both its lists of its own. -/
def AtW (base : Nat) (is : List If) (rs : List Rt) (now : Int) (g : Nat) (w : World) : Prop := ∃ q1 k1 q2 k2, base ≤ g ∧ Row w g 179 [.slice q2 rs.length k2, .slice q1 is.length k1, .int .i64 now] ∧ w.ownsRow base 72 5 (.slice q1 is.length k1) is.length (rowI is) ∧ w.ownsRow base 144 9 (.slice q2 rs.length k2) rs.length (rowR rs)
set_option maxRecDepth 100000 in
set_option maxHeartbeats 2000000 in
theorem atWork_any (x : Option Addr) (c1 : Nat) (y : Option Addr) (c2 : Nat) (is : List If) (rs : List Rt) (now : Int) (w : World) (h1 : IfsIn w x is) (hc1 : x = none → c1 = 0) (h2 : RtsIn w y rs) (hc2 : y = none → c2 = 0) (hn1 : is.length ≤ 100000000) (hn2 : rs.length ≤ 100000000) :
    Calls Tryz.prog 100 #[instV x is.length c1 y rs.length c2 now] w fun e w' => ∃ g, e = .returned (.pointer (some ⟨g, 0, none⟩)) ∧ AtW w.heap.size is rs now g w' ∧ Below w.heap.size w w' := by
  have HI : Hid (∀ w, IfsIn w x is → Calls Tryz.prog 144 #[.slice x is.length c1] w fun e w' => ∃ q c, e = .returned (.slice q is.length c) ∧ w'.ownsRow w.heap.size 72 5 (.slice q is.length c) is.length (rowI is) ∧ Below w.heap.size w w') := fun w h => cloneI_any x c1 is w h hc1 hn1
  have HR : Hid (∀ w, RtsIn w y rs → Calls Tryz.prog 143 #[.slice y rs.length c2] w fun e w' => ∃ q c, e = .returned (.slice q rs.length c) ∧ w'.ownsRow w.heap.size 144 9 (.slice q rs.length c) rs.length (rowR rs) ∧ Below w.heap.size w w') := fun w h => cloneR_any y c2 rs w h hc2 hn2
  have HX : Hid (IfsIn w x is ∧ RtsIn w y rs) := ⟨h1, h2⟩
  clear h1 h2 hc1 hc2 hn1 hn2
  suffices H : Calls Tryz.prog 100 #[instV x is.length c1 y rs.length c2 now] w fun e w' => ∃ g q1 k1 q2 k2, e = .returned (.pointer (some ⟨g, 0, none⟩)) ∧ w.heap.size ≤ g ∧ Row w' g 179 [.slice q2 rs.length k2, .slice q1 is.length k1, .int .i64 now] ∧ w'.ownsRow w.heap.size 72 5 (.slice q1 is.length k1) is.length (rowI is) ∧ w'.ownsRow w.heap.size 144 9 (.slice q2 rs.length k2) rs.length (rowR rs) ∧ Below w.heap.size w w' from
    H.mono fun e w' ⟨g, q1, k1, q2, k2, he, a, b, c, d, f⟩ => ⟨g, he, ⟨q1, k1, q2, k2, a, b, c, d⟩, f⟩
  unfold instV
  generalize is.length = n1 at *
  generalize rs.length = n2 at *
  have q0 := Row.new w 51 [.slice x n1 c1, .slice y n2 c2, .int .i64 now]
  have HQ : Hid _ := And.intro q0 (ent_new0 w (.cells #[.slice x n1 c1, .slice y n2 c2, .int .i64 now] 51))
  clear q0
  go_enter Tryz.func100, Tryz.ntmps100
  go_wp2_with fail
  obtain ⟨r0, hB⟩ := HQ.out
  refine (HR.out _ (HX.out.2.below hB)).mono ?_
  rintro e w1 ⟨q2, k2, rfl, o2, hb1⟩
  have r0 := r0.below hb1 r0.lt
  have hB := hB.trans (hb1.mono hB.size)
  have o2 := ownsR_mono (base' := w.heap.size) o2 (by simp)
  clear hb1 HR HQ
  have r3 := Row.new w1 49 [.slice q2 n2 k2]
  have r0 := r0.alloc (.cells #[.slice q2 n2 k2] 49)
  have o2 := World.ownsRow.alloc o2 (.cells #[.slice q2 n2 k2] 49)
  have hB := hB.alloc hB.size (.cells #[.slice q2 n2 k2] 49)
  have HA : Hid _ := And.intro r0 (And.intro r3 (And.intro o2 hB))
  clear r0 r3 o2 hB
  go_wp2_with fail
  generalize hb3 : w1.heap.size = b3 at *
  generalize w1.alloc (.cells #[.slice q2 n2 k2] 49) = W3 at *
  clear hb3
  obtain ⟨r0, r3, o2, hB⟩ := HA.out
  clear HA
  have r3 : Row W3 b3 49 [.slice q2 n2 k2] := r3
  have hGN : (([(9, Is (.agg #[.slice q2 n2 k2])), (10, Is (.agg #[.slice q2 n2 k2])), (11, Is (.pointer (some ⟨w.heap.size, 0, none⟩))), (12, Is (.slice x n1 c1)), (13, fun v W => ∃ q c, v = .slice q n1 c ∧ W.ownsRow w.heap.size 72 5 (.slice q n1 c) n1 (rowI is)), (14, Is (.pointer (some ⟨w.heap.size, 2, none⟩))), (15, Is (.int .i64 now)), (16, fun v W => ∃ q c, v = .agg #[.slice q2 n2 k2, .slice q n1 c, .int .i64 now] ∧ W.ownsRow w.heap.size 72 5 (.slice q n1 c) n1 (rowI is))] : List (Nat × (Value → World → Prop))).map (·.1)).Nodup := by simp
  refine wp_region_steady 8 (SlotG [(9, Is (.agg #[.slice q2 n2 k2])), (10, Is (.agg #[.slice q2 n2 k2])), (11, Is (.pointer (some ⟨w.heap.size, 0, none⟩))), (12, Is (.slice x n1 c1)), (13, fun v W => ∃ q c, v = .slice q n1 c ∧ W.ownsRow w.heap.size 72 5 (.slice q n1 c) n1 (rowI is)), (14, Is (.pointer (some ⟨w.heap.size, 2, none⟩))), (15, Is (.int .i64 now)), (16, fun v W => ∃ q c, v = .agg #[.slice q2 n2 k2, .slice q n1 c, .int .i64 now] ∧ W.ownsRow w.heap.size 72 5 (.slice q n1 c) n1 (rowI is))]) (by kernel_rfl) (by kernel_rfl) (Stabs.all ⟨stab_is _, stab_is _, stab_is _, stab_is _, stab_ownI w.heap.size n1 is, stab_is _, stab_is _, stab_atw w.heap.size n1 n2 k2 q2 now is, trivial⟩) ?_ ?_
  · intro o ho
    simp only [List.take_succ_cons, List.take_zero, List.mem_cons, List.not_mem_nil, or_false] at ho
    rcases ho with rfl | rfl | rfl | rfl | rfl | rfl | rfl | rfl
    · intro a' w' hb ha hdep
      have d3 : a'.tmps.getD 3 undef = .pointer (some ⟨b3, 0, none⟩) := ha.at 3 (by kernel_rfl)
      have hmk := fun (x : Value) (W : World) => SlotG.mk (x := x) (w := W) 0 rfl hGN
      clear hGN ha hdep
      have y0 : w'.cell? ⟨b3, 0, none⟩ = some (.slice q2 n2 k2) := (r3.below hb r3.lt).cell 0
      go_simp
      exact ⟨_, rfl, Below.refl _ _, hmk _ _ rfl⟩
    · intro a' w' hb ha hdep
      have d9 : a'.tmps.getD 9 undef = .agg #[.slice q2 n2 k2] := (hdep 9 (of_decide_eq_true (by kernel_rfl))).is 0 rfl
      have hmk := fun (x : Value) (W : World) => SlotG.mk (x := x) (w := W) 1 rfl hGN
      clear hGN ha hdep
      have D9 : a'.tmps[9]?.getD undef = .agg #[.slice q2 n2 k2] := by simpa using d9
      go_simp
      exact ⟨_, rfl, Below.refl _ _, hmk _ _ rfl⟩
    · intro a' w' hb ha hdep
      have d1 : a'.tmps.getD 1 undef = .pointer (some ⟨w.heap.size, 0, none⟩) := ha.at 1 (by kernel_rfl)
      have hmk := fun (x : Value) (W : World) => SlotG.mk (x := x) (w := W) 2 rfl hGN
      clear hGN ha hdep
      go_simp
      exact ⟨_, rfl, Below.refl _ _, hmk _ _ rfl⟩
    · intro a' w' hb ha hdep
      have d11 : a'.tmps.getD 11 undef = .pointer (some ⟨w.heap.size, 0, none⟩) := (hdep 11 (of_decide_eq_true (by kernel_rfl))).is 2 rfl
      have hmk := fun (x : Value) (W : World) => SlotG.mk (x := x) (w := W) 3 rfl hGN
      clear hGN ha hdep
      have y0 : w'.cell? ⟨w.heap.size, 0, none⟩ = some (.slice x n1 c1) := (r0.below hb r0.lt).cell 0
      go_simp
      exact ⟨_, rfl, Below.refl _ _, hmk _ _ rfl⟩
    · intro a' w' hb ha hdep
      have d12 : a'.tmps.getD 12 undef = .slice x n1 c1 := (hdep 12 (of_decide_eq_true (by kernel_rfl))).is 3 rfl
      have hmk := fun (x : Value) (W : World) => SlotG.mk (x := x) (w := W) 4 rfl hGN
      clear hGN ha hdep
      go_simp
      refine (HI.out _ (HX.out.1.below (hB.trans (hb.mono hB.size)))).mono ?_
      rintro e w2 ⟨q, c, rfl, ho, hb2⟩
      exact ⟨_, rfl, hb2, hmk _ _ ⟨q, c, rfl, ownsI_mono ho (by have := hB.size; have := hb.size; omega)⟩⟩
    · intro a' w' hb ha hdep
      have d1 : a'.tmps.getD 1 undef = .pointer (some ⟨w.heap.size, 0, none⟩) := ha.at 1 (by kernel_rfl)
      have hmk := fun (x : Value) (W : World) => SlotG.mk (x := x) (w := W) 5 rfl hGN
      clear hGN ha hdep
      go_simp
      exact ⟨_, rfl, Below.refl _ _, hmk _ _ rfl⟩
    · intro a' w' hb ha hdep
      have d14 : a'.tmps.getD 14 undef = .pointer (some ⟨w.heap.size, 2, none⟩) := (hdep 14 (of_decide_eq_true (by kernel_rfl))).is 5 rfl
      have hmk := fun (x : Value) (W : World) => SlotG.mk (x := x) (w := W) 6 rfl hGN
      clear hGN ha hdep
      have y0 : w'.cell? ⟨w.heap.size, 2, none⟩ = some (.int .i64 now) := (r0.below hb r0.lt).cell 2
      go_simp
      exact ⟨_, rfl, Below.refl _ _, hmk _ _ rfl⟩
    · intro a' w' hb ha hdep
      have d10 : a'.tmps.getD 10 undef = .agg #[.slice q2 n2 k2] := (hdep 10 (of_decide_eq_true (by kernel_rfl))).is 1 rfl
      have D13 := (hdep 13 (of_decide_eq_true (by kernel_rfl))).get 4 rfl
      have d15 : a'.tmps.getD 15 undef = .int .i64 now := (hdep 15 (of_decide_eq_true (by kernel_rfl))).is 6 rfl
      have hmk := fun (x : Value) (W : World) => SlotG.mk (x := x) (w := W) 7 rfl hGN
      clear hGN ha hdep
      obtain ⟨q, c, d13, ho⟩ := D13
      have D10 : a'.tmps[10]?.getD undef = .agg #[.slice q2 n2 k2] := by simpa using d10
      have D13 : a'.tmps[13]?.getD undef = .slice q n1 c := by simpa using d13
      have D15 : a'.tmps[15]?.getD undef = .int .i64 now := by simpa using d15
      go_simp
      exact ⟨_, rfl, Below.refl _ _, hmk _ _ ⟨q, c, rfl, ho⟩⟩
  · intro a' w' hb ha hG
    clear hGN
    have D16 := (hG _ (List.mem_of_getElem? (i := 7) rfl) 16 rfl).get 7 rfl
    have e2 : a' = ⟨#[a'.tmps.getD 0 undef, a'.tmps.getD 1 undef, a'.tmps.getD 2 undef, a'.tmps.getD 3 undef, a'.tmps.getD 4 undef, a'.tmps.getD 5 undef, a'.tmps.getD 6 undef, a'.tmps.getD 7 undef, a'.tmps.getD 8 undef, a'.tmps.getD 9 undef, a'.tmps.getD 10 undef, a'.tmps.getD 11 undef, a'.tmps.getD 12 undef, a'.tmps.getD 13 undef, a'.tmps.getD 14 undef, a'.tmps.getD 15 undef, a'.tmps.getD 16 undef, a'.tmps.getD 17 undef], []⟩ := by rw [← (show a'.defers = [] from ha.2.1)]; exact act_eq a' 18 ha.1
    clear hG ha 
    generalize a'.tmps.getD 0 undef = x0 at *
    generalize a'.tmps.getD 1 undef = x1 at *
    generalize a'.tmps.getD 2 undef = x2 at *
    generalize a'.tmps.getD 3 undef = x3 at *
    generalize a'.tmps.getD 4 undef = x4 at *
    generalize a'.tmps.getD 5 undef = x5 at *
    generalize a'.tmps.getD 6 undef = x6 at *
    generalize a'.tmps.getD 7 undef = x7 at *
    generalize a'.tmps.getD 8 undef = x8 at *
    generalize a'.tmps.getD 9 undef = x9 at *
    generalize a'.tmps.getD 10 undef = x10 at *
    generalize a'.tmps.getD 11 undef = x11 at *
    generalize a'.tmps.getD 12 undef = x12 at *
    generalize a'.tmps.getD 13 undef = x13 at *
    generalize a'.tmps.getD 14 undef = x14 at *
    generalize a'.tmps.getD 15 undef = x15 at *
    generalize a'.tmps.getD 16 undef = x16 at *
    generalize a'.tmps.getD 17 undef = x17 at *
    subst e2
    simp only [List.drop_succ_cons, List.drop_zero]
    obtain ⟨q1, k1, rfl, o1⟩ := D16
    have o2 := ownsR_below o2 hb
    have hB := hB.trans (hb.mono hB.size)
    have hBs := hB.size
    have HE : Hid _ := And.intro (Row.new w' 179 [.slice q2 n2 k2, .slice q1 n1 k1, .int .i64 now]) (And.intro (World.ownsRow.alloc o1 (.cells #[.slice q2 n2 k2, .slice q1 n1 k1, .int .i64 now] 179)) (And.intro (World.ownsRow.alloc o2 (.cells #[.slice q2 n2 k2, .slice q1 n1 k1, .int .i64 now] 179)) (hB.alloc hBs (.cells #[.slice q2 n2 k2, .slice q1 n1 k1, .int .i64 now] 179))))
    clear r0 r3 o1 o2 hb hB
    go_wp2
    go_ret
    exact ⟨_, _, _, _, _, rfl, hBs, HE.out.1, HE.out.2.1, HE.out.2.2.1, HE.out.2.2.2⟩
end Go.Proofs.YtialedffpaoacaaGreatDoor
/- An answer of InstOut; a router at work goes on. (Written by gen_insti.py.) -/
namespace Go.Proofs.YtialedffpaoacaaGreatDoor
open Go.RowKit Go.Sort

/-- An answer of InstOut: its code, its lists in memory of their own. -/
def OutI (base : Nat) (r : Int × (List If × (List Rt × Int))) (e : Ending) (w : World) : Prop := ∃ p c1 q c2, e = .returned (.agg #[.slice p r.2.1.length c1, .slice q r.2.2.1.length c2, .int .i64 r.2.2.2, .int .i64 r.1]) ∧ w.ownsRow base 72 5 (.slice p r.2.1.length c1) r.2.1.length (rowI r.2.1) ∧ w.ownsRow base 144 9 (.slice q r.2.2.1.length c2) r.2.2.1.length (rowR r.2.2.1)
/-- What is told with a code. -/
def outW (c : Int) (is : List If) (rs : List Rt) (now : Int) : Int × (List If × (List Rt × Int)) := if c = 0 then (0, is, rs, now) else (c, [], [], 0)
theorem ownsI_nil (w : World) (base : Nat) : w.ownsRow base 72 5 (.slice none 0 0) 0 (rowI []) := World.ownsRow_nil _ _ _ 5
theorem ownsR_nil (w : World) (base : Nat) : w.ownsRow base 144 9 (.slice none 0 0) 0 (rowR []) := World.ownsRow_nil _ _ _ 9
theorem outI_no (base : Nat) (c : Int) (w : World) : OutI base (c, [], [], 0) (.returned (.agg #[.slice none 0 0, .slice none 0 0, .int .i64 0, .int .i64 c])) w := ⟨none, 0, none, 0, rfl, ownsI_nil _ _, ownsR_nil _ _⟩
theorem atW_lt {base : Nat} {is : List If} {rs : List Rt} {now : Int} {g : Nat} {w : World} (h : AtW base is rs now g w) : g < w.heap.size := by
  obtain ⟨_, _, _, _, _, hr, _⟩ := h
  exact hr.lt
theorem atW_ge {base : Nat} {is : List If} {rs : List Rt} {now : Int} {g : Nat} {w : World} (h : AtW base is rs now g w) : base ≤ g := by
  obtain ⟨_, _, _, _, hg, _⟩ := h
  exact hg
theorem atW_below {base : Nat} {is : List If} {rs : List Rt} {now : Int} {g : Nat} {w w' : World} (h : AtW base is rs now g w) (hb : Below w.heap.size w w') : AtW base is rs now g w' := by
  obtain ⟨q1, k1, q2, k2, hg, hr, oi, orr⟩ := h
  exact ⟨q1, k1, q2, k2, hg, hr.below hb hr.lt, ownsI_below oi hb, ownsR_below orr hb⟩
theorem atW_mono {base base' : Nat} {is : List If} {rs : List Rt} {now : Int} {g : Nat} {w : World} (h : AtW base is rs now g w) (hb : base' ≤ base) : AtW base' is rs now g w := by
  obtain ⟨q1, k1, q2, k2, hg, hr, oi, orr⟩ := h
  exact ⟨q1, k1, q2, k2, by omega, hr, ownsI_mono oi hb, ownsR_mono orr hb⟩
theorem atW_took {base : Nat} {is : List If} {rs : List Rt} {now : Int} {g : Nat} {w w' : World} {c : Int} {qs : List Rt} {q1 : Option Addr} {k1 : Nat} {q2 : Option Addr} {k2 : Nat} (hg : base ≤ g) (hr : Row w g 179 [.slice q2 rs.length k2, .slice q1 is.length k1, .int .i64 now]) (oi : w.ownsRow base 72 5 (.slice q1 is.length k1) is.length (rowI is)) (orr : w.ownsRow base 144 9 (.slice q2 rs.length k2) rs.length (rowR rs)) (ht : Took g 0 179 [.slice q2 rs.length k2, .slice q1 is.length k1, .int .i64 now] w.heap.size c qs w w') : AtW base is (if c = 0 then qs else rs) now g w' ∧ Below base w w' := by
  obtain ⟨h1, h2, h3⟩ := ht
  have hlt := hr.lt
  refine ⟨?_, h2.mono hg⟩
  have oi' := ownsI_kept oi (fun b t l e h => h3 b t l (fun e2 => ownsI_ne oi hr (by decide) (by rw [e, e2])) h)
  by_cases hc : c = 0
  · rw [if_pos hc] at h1 ⊢
    obtain ⟨q', c', hr', ho'⟩ := h1
    exact ⟨q1, k1, q', c', hg, hr', oi', ownsR_mono ho' (by omega)⟩
  · rw [if_neg hc] at h1 ⊢
    exact ⟨q1, k1, q2, k2, hg, h1, oi', ownsR_kept rfl orr (fun b t l e h => h3 b t l (fun e2 => ownsR_ne orr hr (by decide) (by rw [e, e2])) h)⟩
theorem toldW_any (base : Nat) (is : List If) (rs : List Rt) (now c : Int) (g : Nat) (w : World) (h : AtW base is rs now g w) :
    Calls Tryz.prog 119 #[.pointer (some ⟨g, 0, none⟩), .int .i64 c] w fun e w' => OutI base (outW c is rs now) e w' ∧ Below w.heap.size w w' := by
  obtain ⟨q1, k1, q2, k2, hg, hr, oi, orr⟩ := h
  refine (told_any g q2 _ k2 q1 _ k1 now c w hr).mono fun e w' ⟨he, hb⟩ => ⟨?_, hb⟩
  unfold toldV at he
  unfold outW
  by_cases hc : c = 0
  · rw [if_pos hc] at he ⊢
    subst hc
    exact ⟨q1, k1, q2, k2, he, ownsI_below oi hb, ownsR_below orr hb⟩
  · rw [if_neg hc] at he ⊢
    rw [he]
    exact outI_no base c w'
/-- A result laid down in its block. -/
theorem out4 {w w1 : World} {b base base' n m c1 c2 : Nat} {p q : Option Addr} {now cc : Int} {is : List If} {rs : List Rt} {z : List Value} (rz : Row w1 b 74 z) (hz : z.length = 4) (hb : base ≤ b) (hB : Below base w w1) (oi : w1.ownsRow base' 72 5 (.slice p n c1) n (rowI is)) (orr : w1.ownsRow base' 144 9 (.slice q m c2) m (rowR rs)) (hm : m = rs.length) (W : World) (hW : W = (((w1.setCell ⟨b, 0, none⟩ (.slice p n c1)).setCell ⟨b, 1, none⟩ (.slice q m c2)).setCell ⟨b, 2, none⟩ (.int .i64 now)).setCell ⟨b, 3, none⟩ (.int .i64 cc)) : Row W b 74 [.slice p n c1, .slice q m c2, .int .i64 now, .int .i64 cc] ∧ Below base w W ∧ W.ownsRow base' 72 5 (.slice p n c1) n (rowI is) ∧ W.ownsRow base' 144 9 (.slice q m c2) m (rowR rs) := by
  subst hW
  obtain ⟨x0, x1, x2, x3, rfl⟩ : ∃ x0 x1 x2 x3, z = [x0, x1, x2, x3] := by
    rcases z with _ | ⟨x0, _ | ⟨x1, _ | ⟨x2, _ | ⟨x3, _ | ⟨x4, z⟩⟩⟩⟩⟩ <;> simp at hz
    exact ⟨x0, x1, x2, x3, rfl⟩
  have hk : ∀ g t l, g ≠ b → Row w1 g t l → Row ((((w1.setCell ⟨b, 0, none⟩ (.slice p n c1)).setCell ⟨b, 1, none⟩ (.slice q m c2)).setCell ⟨b, 2, none⟩ (.int .i64 now)).setCell ⟨b, 3, none⟩ (.int .i64 cc)) g t l := fun g t l hne h => (((h.other 0 _ hne).other 1 _ hne).other 2 _ hne).other 3 _ hne
  exact ⟨(((rz.set 0 _).set 1 _).set 2 _).set 3 _, ((((hB.setCell hb _).setCell hb _).setCell hb _).setCell hb _), ownsI_kept oi (fun g t l e h => hk g t l (fun e2 => ownsI_ne oi rz (by decide) (by rw [e, e2])) h), ownsR_kept hm orr (fun g t l e h => hk g t l (fun e2 => ownsR_ne orr rz (by decide) (by rw [e, e2])) h)⟩
/-- What a router at work has in its hands. -/
theorem atW_open {base : Nat} {is : List If} {rs : List Rt} {now : Int} {g : Nat} {w : World} (h : AtW base is rs now g w) : ∃ q1 k1 q2 k2, base ≤ g ∧ Row w g 179 [.slice q2 rs.length k2, .slice q1 is.length k1, .int .i64 now] ∧ w.ownsRow base 72 5 (.slice q1 is.length k1) is.length (rowI is) ∧ w.ownsRow base 144 9 (.slice q2 rs.length k2) rs.length (rowR rs) := h
theorem atW_now {base : Nat} {is : List If} {rs : List Rt} {now : Int} {g : Nat} {w : World} (v : Int) (h : AtW base is rs now g w) : AtW base is rs v g (w.setCell ⟨g, 2, none⟩ (.int .i64 v)) := by
  obtain ⟨q1, k1, q2, k2, hg, hr, oi, orr⟩ := h
  have hk : ∀ b t l, b ≠ g → Row w b t l → Row (w.setCell ⟨g, 2, none⟩ (.int .i64 v)) b t l := fun b t l hne h => h.other 2 _ hne
  exact ⟨q1, k1, q2, k2, hg, hr.set 2 _, ownsI_kept oi (fun b t l e h => hk b t l (fun e2 => ownsI_ne oi hr (by decide) (by rw [e, e2])) h), ownsR_kept rfl orr (fun b t l e h => hk b t l (fun e2 => ownsR_ne orr hr (by decide) (by rw [e, e2])) h)⟩
theorem atW_drewN {base : Nat} {is : List If} {rs : List Rt} {now : Int} {g : Nat} {w : World} (n : Nat) (h : AtW base is rs now g w) : AtW base is rs now g (w.drewN n) := h
theorem atW_cells {base : Nat} {is : List If} {rs : List Rt} {now : Int} {g : Nat} {w : World} (h : AtW base is rs now g w) : ∃ q1 k1 q2 k2, w.cell? ⟨g, 0, none⟩ = some (.slice q2 rs.length k2) ∧ w.cell? ⟨g, 1, none⟩ = some (.slice q1 is.length k1) ∧ w.cell? ⟨g, 2, none⟩ = some (.int .i64 now) ∧ w.frozen? ⟨g, 2, none⟩ = false ∧ w.ownsRow base 72 5 (.slice q1 is.length k1) is.length (rowI is) := by
  obtain ⟨q1, k1, q2, k2, hg, hr, oi, orr⟩ := h
  exact ⟨q1, k1, q2, k2, hr.cell 0, hr.cell 1, hr.cell 2, hr.frozen 2, oi⟩
end Go.Proofs.YtialedffpaoacaaGreatDoor
/- A Tenant, a Bind appended to a list of the call's own. (Turned from MTold by hand.) -/
namespace Go.Proofs.YtialedffpaoacaaGreatDoor
open Go.RowKit Go.Sort

theorem tnL_one (e : TnP) : ∀ u ∈ tnL e.1 e.2, u.oneCell' = true := by
  intro u hu
  simp only [tnL, List.mem_cons, List.not_mem_nil, or_false] at hu
  rcases hu with h | h | h | h | h | h | h | h <;> (rw [h]; rfl)
theorem owns_shapeT {w : World} {base sz n : Nat} {ty : TypeId} {v : Value} {xs : List Value} (h : w.ownsRow base ty sz v n xs) : ∃ q c, v = .slice q n c := by
  rcases h.2 with ⟨h1, h2⟩ | ⟨g, cap, cur, h1, _⟩
  · exact ⟨none, 0, by rw [h1, h2]⟩
  · exact ⟨_, _, h1⟩
theorem wpList_append_bd {w : World} {ops : Array Oper} {rest : List Oper} {o : Oper} {a : Act} {Q : Exit → Act → World → Prop} (hgd : o.guard = none) (s x : Operand)
    (ho : o.op = .call { callee := .builtin .append, args := #[s, x], argTypes := #[30, 30] })
    (base : Nat) (v : Value) (n : Nat) (qs : List Bd) (hs : a.eval s = v) (hn : n = qs.length) (hown : w.ownsRow base 77 4 v n (rowBd qs)) (g c : Nat) (e : Bd) (hx : a.eval x = .slice (some ⟨g, 0, none⟩) 1 c) (hr : Row w g 77 (bdL e))
    (hlen : n ≤ 1000000) (hbase : base ≤ w.heap.size)
    (h : ∀ v' w', w'.ownsRow base 77 4 v' (n + 1) (rowBd (qs ++ [e])) → Below base w w' → (∀ b t l, t ≠ 77 → Row w b t l → Row w' b t l) → wpList Tryz.prog ops Q rest (a.put o.dst v') w') : wpList Tryz.prog ops Q (o :: rest) a w := by
  obtain ⟨i0, hi0, hz0, hz1, hz2⟩ := info_parts Tryz.infoBd
  subst hn
  refine wpList_append_own w hgd s x 30 ho base 77 i0 _ 4 32 Tryz.underlying30 hi0 hz0 hz1 hz2 rfl (by decide) v qs.length (rowBd qs) hs hown ⟨g, 0, none⟩ 1 c (bdL e) hx rfl ?_ ?_ ?_ ?_ hbase ?_
  · intro j u hj
    have ea : (⟨g, 0, none⟩ : Addr).add j = ⟨g, j, none⟩ := by unfold Addr.add; split <;> simp_all
    rw [ea, hr.cell]
    exact hj
  · intro u hu
    exact rowBd_one [e] u (by simpa [rowBd] using hu)
  · unfold maxLen; omega
  · omega
  · intro v' w' hown' hgrow _
    refine h v' w' ?_ ((Below.refl base w).grown hgrow hbase fun k hk => (World.ownsRow.lt hown k hk).1) ?_
    · rw [rowBd_append, show rowBd [e] = bdL e by simp [rowBd]]
      exact hown'
    · intro b t l ht hb
      refine (hgrow.block b hb.lt (fun e2 => ?_)).trans hb
      rcases hown.2 with ⟨rfl, _⟩ | ⟨g', cap, cur', rfl, _, hg, _⟩
      · simp [Value.ownBlock] at e2
      · obtain rfl : b = g' := by simpa [Value.ownBlock] using e2
        rw [show w.heap[b]? = _ from hb] at hg
        simp only [Option.some.injEq, Obj.cells.injEq] at hg
        exact ht hg.2.1
theorem wpList_append_tn {w : World} {ops : Array Oper} {rest : List Oper} {o : Oper} {a : Act} {Q : Exit → Act → World → Prop} (hgd : o.guard = none) (s x : Operand)
    (ho : o.op = .call { callee := .builtin .append, args := #[s, x], argTypes := #[29, 29] })
    (base : Nat) (v : Value) (n : Nat) (qs : List TnP) (hs : a.eval s = v) (hn : n = qs.length) (hown : w.ownsRow base 55 8 v n (rowT qs)) (g c : Nat) (e : TnP) (hx : a.eval x = .slice (some ⟨g, 0, none⟩) 1 c) (hr : Row w g 55 (tnL e.1 e.2))
    (hlen : n ≤ 1000000) (hbase : base ≤ w.heap.size)
    (h : ∀ v' w', w'.ownsRow base 55 8 v' (n + 1) (rowT (qs ++ [e])) → Below base w w' → (∀ b t l, t ≠ 55 → Row w b t l → Row w' b t l) → wpList Tryz.prog ops Q rest (a.put o.dst v') w') : wpList Tryz.prog ops Q (o :: rest) a w := by
  obtain ⟨i0, hi0, hz0, hz1, hz2⟩ := info_parts Tryz.infoTn
  subst hn
  refine wpList_append_own w hgd s x 29 ho base 55 i0 _ 8 136 Tryz.underlying29 hi0 hz0 hz1 hz2 rfl (by decide) v qs.length (rowT qs) hs hown ⟨g, 0, none⟩ 1 c (tnL e.1 e.2) hx rfl ?_ ?_ ?_ ?_ hbase ?_
  · intro j u hj
    have ea : (⟨g, 0, none⟩ : Addr).add j = ⟨g, j, none⟩ := by unfold Addr.add; split <;> simp_all
    rw [ea, hr.cell]
    exact hj
  · intro u hu
    exact tnL_one e u hu
  · unfold maxLen; omega
  · omega
  · intro v' w' hown' hgrow _
    refine h v' w' ?_ ((Below.refl base w).grown hgrow hbase fun k hk => (World.ownsRow.lt hown k hk).1) ?_
    · rw [rowT_append, show rowT [e] = tnL e.1 e.2 by simp [rowT]]
      exact hown'
    · intro b t l ht hb
      refine (hgrow.block b hb.lt (fun e2 => ?_)).trans hb
      rcases hown.2 with ⟨rfl, _⟩ | ⟨g', cap, cur', rfl, _, hg, _⟩
      · simp [Value.ownBlock] at e2
      · obtain rfl : b = g' := by simpa [Value.ownBlock] using e2
        rw [show w.heap[b]? = _ from hb] at hg
        simp only [Option.some.injEq, Obj.cells.injEq] at hg
        exact ht hg.2.1
end Go.Proofs.YtialedffpaoacaaGreatDoor
