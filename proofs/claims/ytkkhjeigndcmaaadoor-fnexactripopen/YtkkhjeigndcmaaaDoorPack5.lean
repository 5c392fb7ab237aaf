/- Texts that stand on each other, in one file: RipOutL, ErrsLaid. -/
import Derived.Test.YtkkhjeigndcmaaaDoorPack4
import Derived.Test.YtkkhjeigndcmaaaDoorPack1
import Derived.LaidLaws
import Derived.ChangeVars
/- The laws' own looks at what is handed back: alike, marked, held. -/
namespace Go.Proofs.YtkkhjeigndcmaaaDoor
open Go.RowKit Go.Sort

set_option maxRecDepth 100000 in
theorem markEntryS_0 (p : Option Addr) (cv : Nat) (w : World) : Calls Tryd.prog 32 #[.slice p 0 cv, .int .i64 1] w fun e w' => e = .returned (.int .i64 1) ∧ w = w' := by
  go_enter Tryd.func32, Tryd.ntmps32
  go_wp2_with fail
  go_loop [5, 1] (fun i k => i = .int .i64 0 ∧ k = .int .i64 1) (fun _ _ => 0)
  case atStart => exact ⟨rfl, rfl⟩
  case round =>
    obtain ⟨rfl, rfl⟩ := hrel
    go_wp2
    go_ret
    exact ⟨rfl, rfl⟩
theorem markEntryS_any (p : Option Addr) (n cv base : Nat) (es : List Ent) (w : World) (h8 : n ≤ 1000) (h : OwnE w base (.slice p n cv) es) :
    Calls Tryd.prog 32 #[.slice p n cv, .int .i64 1] w fun e w' => e = .returned (.int .i64 (1 + 5 * (n : Int))) ∧ OwnE w' base (.slice p n cv) (marksE n) ∧ Below base w w' ∧ ∀ b t l, p ≠ some ⟨b, 0, none⟩ → Row w b t l → Row w' b t l := by
  obtain ⟨hn, h0 | ⟨g, rest, rfl, hb, h1, h2, hr, hl⟩⟩ := h.opened
  · subst h0
    obtain rfl : n = 0 := hn
    exact (markEntryS_0 p cv w).mono fun e w' ⟨he, hw⟩ => ⟨he, hw ▸ h, hw ▸ Below.refl _ _, fun _ _ _ _ h => hw ▸ h⟩
  · refine (markEntryS_in g n cv es rest w hn h8 hr).mono fun e w' ⟨he, hr', hb', ho'⟩ => ⟨he, OwnE.shut (marksE_length n).symm hb h1 h2 hr' ?_, hb'.mono hb, fun b t l hp h => ho' b t l (fun e => hp (by rw [e])) h⟩
    rw [List.length_append, rowE_length, marksE_length, hn]
    rw [List.length_append, rowE_length] at hl
    exact hl
set_option maxRecDepth 100000 in
theorem markRip_any (c : Int) (p : Option Addr) (n cv base : Nat) (es : List Ent) (w : World) (h8 : n ≤ 1000) (h : OwnE w base (.slice p n cv) es) (hbs : base ≤ w.heap.size) :
    Calls Tryd.prog 18 #[.agg #[.int .i64 c, .slice p n cv], .int .i64 1] w fun e w' => e = .returned (.int .i64 (1 + 5 * (n : Int))) ∧ OwnE w' base (.slice p n cv) (marksE n) ∧ Below base w w' ∧ ∀ b t l, p ≠ some ⟨b, 0, none⟩ → Row w b t l → Row w' b t l := by
  have HM : Hid (Calls Tryd.prog 32 #[.slice p n cv, .int .i64 1] (w.alloc (.cells #[.int .i64 c, .slice p n cv] 24)) fun e w' => e = .returned (.int .i64 (1 + 5 * (n : Int))) ∧ OwnE w' base (.slice p n cv) (marksE n) ∧ Below base (w.alloc (.cells #[.int .i64 c, .slice p n cv] 24)) w' ∧ ∀ b t l, p ≠ some ⟨b, 0, none⟩ → Row (w.alloc (.cells #[.int .i64 c, .slice p n cv] 24)) b t l → Row w' b t l) := markEntryS_any p n cv base es _ h8 (h.alloc _)
  clear h
  go_enter Tryd.func18, Tryd.ntmps18
  go_wp2_with fail
  refine (HM.out).mono ?_
  rintro e w1 ⟨rfl, ho, hb, hot⟩
  have hB : Below base w w1 := ((Below.refl base w).alloc hbs _).trans hb
  have HOT : Hid (∀ b t l, p ≠ some ⟨b, 0, none⟩ → Row w b t l → Row w1 b t l) := fun b t l hp h => hot b t l hp (h.alloc _)
  clear hb hot
  go_wp2
  go_ret
  exact ⟨rfl, ho, hB, HOT.out⟩
set_option maxRecDepth 100000 in
theorem markRipOut_any (c q code : Int) (p : Option Addr) (n cv base : Nat) (es : List Ent) (w : World) (h8 : n ≤ 1000) (h : OwnE w base (.slice p n cv) es) (hbs : base ≤ w.heap.size) :
    Calls Tryd.prog 7 #[.agg #[.int .i64 c, .slice p n cv, .int .i64 q, .int .i64 code], .int .i64 1] w fun e w' => e = .returned (.int .i64 (1 + 5 * (n : Int))) ∧ OwnE w' base (.slice p n cv) (marksE n) ∧ Below base w w' ∧ ∀ b t l, p ≠ some ⟨b, 0, none⟩ → Row w b t l → Row w' b t l := by
  have HM : Hid (Calls Tryd.prog 18 #[.agg #[.int .i64 c, .slice p n cv], .int .i64 1] (w.alloc (.cells #[.int .i64 c, .slice p n cv, .int .i64 q, .int .i64 code] 26)) fun e w' => e = .returned (.int .i64 (1 + 5 * (n : Int))) ∧ OwnE w' base (.slice p n cv) (marksE n) ∧ Below base (w.alloc (.cells #[.int .i64 c, .slice p n cv, .int .i64 q, .int .i64 code] 26)) w' ∧ ∀ b t l, p ≠ some ⟨b, 0, none⟩ → Row (w.alloc (.cells #[.int .i64 c, .slice p n cv, .int .i64 q, .int .i64 code] 26)) b t l → Row w' b t l) := markRip_any c p n cv base es _ h8 (h.alloc _) (by simp; omega)
  clear h
  go_enter Tryd.func7, Tryd.ntmps7
  go_wp2_with fail
  refine (HM.out).mono ?_
  rintro e w1 ⟨rfl, ho, hb, hot⟩
  have hB : Below base w w1 := ((Below.refl base w).alloc hbs _).trans hb
  have HOT : Hid (∀ b t l, p ≠ some ⟨b, 0, none⟩ → Row w b t l → Row w1 b t l) := fun b t l hp h => hot b t l hp (h.alloc _)
  clear hb hot
  go_wp2
  go_ret
  exact ⟨rfl, ho, hB, HOT.out⟩
set_option maxRecDepth 100000 in
theorem heldRip_any (c : Int) (p : Option Addr) (n cv : Nat) (w : World) (h8 : n ≤ 1000) (h : EntsIn w p (marksE n)) :
    Calls Tryd.prog 19 #[.agg #[.int .i64 c, .slice p n cv], .int .i64 1] w fun e w' => e = .returned (.int .i64 (1 + 5 * (n : Int))) ∧ Below w.heap.size w w' := by
  have HM : Hid (Calls Tryd.prog 33 #[.slice p n cv, .int .i64 1] (w.alloc (.cells #[.int .i64 c, .slice p n cv] 24)) fun e w' => e = .returned (.int .i64 (1 + 5 * (n : Int))) ∧ (w.alloc (.cells #[.int .i64 c, .slice p n cv] 24)) = w') := heldEntryS_in p n cv _ h8 (h.alloc _)
  have d : decide (1 + 5 * (n : Int) < 0) = false := by simp; omega
  clear h
  go_enter Tryd.func19, Tryd.ntmps19
  go_wp2_with fail
  refine (HM.out).mono ?_
  rintro e w1 ⟨rfl, rfl⟩
  go_wp2
  go_ret
  exact ⟨rfl, ent_new0 _ _⟩
set_option maxRecDepth 100000 in
theorem heldRipOut_any (c q code : Int) (p : Option Addr) (n cv : Nat) (w : World) (h8 : n ≤ 1000) (h : EntsIn w p (marksE n)) :
    Calls Tryd.prog 8 #[.agg #[.int .i64 c, .slice p n cv, .int .i64 q, .int .i64 code], .int .i64 1] w fun e w' => e = .returned (.int .i64 (1 + 5 * (n : Int))) ∧ Below w.heap.size w w' := by
  have HM : Hid (Calls Tryd.prog 19 #[.agg #[.int .i64 c, .slice p n cv], .int .i64 1] (w.alloc (.cells #[.int .i64 c, .slice p n cv, .int .i64 q, .int .i64 code] 26)) fun e w' => e = .returned (.int .i64 (1 + 5 * (n : Int))) ∧ Below (w.alloc (.cells #[.int .i64 c, .slice p n cv, .int .i64 q, .int .i64 code] 26)).heap.size (w.alloc (.cells #[.int .i64 c, .slice p n cv, .int .i64 q, .int .i64 code] 26)) w') := heldRip_any c p n cv _ h8 (h.alloc _)
  have d : decide (1 + 5 * (n : Int) < 0) = false := by simp; omega
  clear h
  go_enter Tryd.func8, Tryd.ntmps8
  go_wp2_with fail
  refine (HM.out).mono ?_
  rintro e w1 ⟨rfl, hb⟩
  have hB : Below w.heap.size w w1 := (ent_new0 w _).trans (hb.mono (by simp))
  clear hb
  go_wp2
  go_ret
  exact ⟨rfl, hB⟩
set_option maxRecDepth 100000 in
theorem eqRipOut_any (c q code : Int) (p p' : Option Addr) (n cv cv' : Nat) (es : List Ent) (w : World) (hn : n = es.length) (h8 : n ≤ 1000) (h : EntsIn w p es) (h' : EntsIn w p' es) :
    Calls Tryd.prog 6 #[.agg #[.int .i64 c, .slice p n cv, .int .i64 q, .int .i64 code], .agg #[.int .i64 c, .slice p' n cv', .int .i64 q, .int .i64 code]] w fun e w' => e = .returned (.bool true) ∧ Below w.heap.size w w' := by
  have HE : Hid (∀ w, EntsIn w p es → EntsIn w p' es → Calls Tryd.prog 17 #[.agg #[.int .i64 c, .slice p n cv], .agg #[.int .i64 c, .slice p' n cv']] w fun r w' => r = .returned (.bool true) ∧ Below w.heap.size w w') := fun w h1 h2 => by subst hn; exact eqRip_any c p p' cv cv' es w h1 h2 (by omega)
  have HX : Hid (EntsIn w p es ∧ EntsIn w p' es) := ⟨h, h'⟩
  have h1 : (q != q) = false := by simp
  have h2 : (code != code) = false := by simp
  clear h h' hn
  go_enter Tryd.func6, Tryd.ntmps6
  go_wp2_with fail
  refine (HE.out _ ((HX.out.1.alloc _).alloc _) ((HX.out.2.alloc _).alloc _)).mono ?_
  rintro e w1 ⟨rfl, hb1⟩
  have q0 := ((Row.new w 26 [.int .i64 c, .slice p n cv, .int .i64 q, .int .i64 code]).alloc (.cells #[.int .i64 c, .slice p' n cv', .int .i64 q, .int .i64 code] 26))
  have q1 := Row.new (w.alloc (.cells #[.int .i64 c, .slice p n cv, .int .i64 q, .int .i64 code] 26)) 26 [.int .i64 c, .slice p' n cv', .int .i64 q, .int .i64 code]
  have p0 := q0.below hb1 q0.lt
  have p1 := q1.below hb1 q1.lt
  rw [show (w.alloc (.cells #[.int .i64 c, .slice p n cv, .int .i64 q, .int .i64 code] 26)).heap.size = w.heap.size + 1 by simp] at p1
  have hB : Below w.heap.size w w1 := ((ent_new0 w _).alloc (by simp) _).trans (hb1.mono (by simp; omega))
  have c2 : w1.cell? ⟨w.heap.size, 2, none⟩ = some (.int .i64 q) := p0.cell 2
  have c3 : w1.cell? ⟨w.heap.size, 3, none⟩ = some (.int .i64 code) := p0.cell 3
  have d2 : w1.cell? ⟨w.heap.size + 1, 2, none⟩ = some (.int .i64 q) := p1.cell 2
  have d3 : w1.cell? ⟨w.heap.size + 1, 3, none⟩ = some (.int .i64 code) := p1.cell 3
  clear hb1 HE HX q0 q1 p0 p1
  go_wp2
  go_ret
  exact ⟨rfl, hB⟩
end Go.Proofs.YtkkhjeigndcmaaaDoor
/- What a row's list of the six errors gives a walk: ErrsIn. -/
namespace Go.Proofs.YtkkhjeigndcmaaaDoor
open Go.RowKit Go.ChangeShapes

theorem errStar : "*" ++ "errors.errorString" = "*errors.errorString" := by decide
set_option maxRecDepth 100000 in
theorem errRow (u : TypeId) (h : Tryd.prog.typeName? 3 u = some "*errors.errorString") : u = 107 :=
  typeName_ptr_named (nm := "errors.errorString") (by rw [errStar]; kernel_rfl) (by kernel_rfl) (by decide) u (by rw [errStar]; exact h)
theorem errCells : Tryd.prog.cellsOf 132 = 1 := by kernel_rfl
theorem strCells : Tryd.prog.cellsOf 9 = 1 := by kernel_rfl

/-- A variable holds an error of errors.New's make, of that text. -/
def HoldsErr (W : World) (g : Nat) (text : List UInt8) : Prop :=
  ∃ a s, W.cell? ⟨g, 0, none⟩ = some (errV a) ∧ W.cell? a = some (.string s) ∧ s.data.toList = text ∧ ∃ c t, W.heap[a.block]? = some (.cells c t (0, 0))
set_option maxRecDepth 100000 in
theorem laid_one {n : String} {g : Nat} {text : List UInt8} {r : List (String × DataW Unit)} {W : World}
    (h : laidMet Tryd.prog ((n, .iface "*errors.errorString" (.ptr (.agg [.lit (.string text)]))) :: r) W)
    (hg : Tryd.prog.globalNamed n = some g) (ht : (Tryd.prog.globals[g]?).map (·.type) = some 38) : HoldsErr W g text := by
  obtain ⟨ps, ⟨g0, t0, cs0, f0, p0, q0, hg0, ht0, hv0, hd0, _, e0⟩, _, hrows⟩ := h
  obtain rfl := Option.some.inj (hg.symm.trans hg0)
  obtain rfl := Option.some.inj (ht.symm.trans ht0)
  subst e0
  obtain ⟨l0⟩ := cs0
  have ok0 : ∀ u v, l0 = [.iface u v] → Value.okWide Tryd.prog W .any 0 u v := fun u v e => by
    subst e
    exact (hrows g 0 (by simp [MemPlace.row])).2 u v (by simpa using World.var?_cell hg0 hv0 0)
  obtain ⟨a0, s0, rfl, hc0, hs0, hz0, rfl⟩ := errorString_of_trod Tryd.underlying38 errRow Tryd.underlying107 Tryd.underlying132 rfl rfl Tryd.underlying9 errCells strCells hd0 ok0
  refine ⟨a0, s0, by simpa [errV] using World.var?_cell hg0 hv0 0, hc0, hs0, (hrows a0.block a0.off (by simp [MemPlace.row])).1⟩
theorem laid_tail {P : Program} {x : String × DataW Unit} {r : List (String × DataW Unit)} {w : World} (h : laidMet P (x :: r) w) : laidMet P r w := by
  obtain ⟨ps, hv, hnd, hrows⟩ := h
  obtain ⟨n, d⟩ := x
  obtain ⟨g, t, cs, fuel, p, q, _, _, _, _, hq, rfl⟩ := hv
  exact ⟨q, hq, List.Nodup.sublist (List.sublist_append_right _ _) hnd, fun b off hm => hrows b off (List.mem_append_right _ hm)⟩

theorem errsIn_of {W : World} (T : Nat → List UInt8) (hT : ∀ i, i < 6 → ∀ j, j < 6 → i ≠ j → T i ≠ T j) (h : ∀ i, i < 6 → HoldsErr W (errG i) (T i)) : ∃ A, ErrsIn W A := by
  refine ⟨fun i => if hi : i < 6 then (h i hi).choose else ⟨0, 0, none⟩, ?_, ?_, ?_⟩
  · intro i hi
    simp only [hi, dite_true]
    obtain ⟨s, h1, h2, h3, h4⟩ := (h i hi).choose_spec
    exact h1
  · intro i hi
    simp only [hi, dite_true]
    obtain ⟨s, h1, h2, h3, h4⟩ := (h i hi).choose_spec
    exact h4
  · intro i j hi hj hij
    simp only [hi, hj, dite_true]
    obtain ⟨s, h1, h2, h3, h4⟩ := (h i hi).choose_spec
    obtain ⟨s', h1', h2', h3', h4'⟩ := (h j hj).choose_spec
    intro e
    rw [e, h2'] at h2
    have e2 : s' = s := by simpa using h2
    exact hT i hi j hj hij (by rw [← h3, ← h3', e2])
theorem trodVars_head {H : Type} {enc : TypeId × Value → H} {P : Program} {w : World} {sp : Nat → Bool} {n : String} {ns : List String} {gs : List (DataW H)} {ps : List MemPlace} (h : DataW.TrodVars enc P w sp (n :: ns) gs ps) :
    ∃ d ds q, gs = d :: ds ∧ DataW.TrodVars enc P w sp ns ds q := by
  cases gs with
  | nil => simp [DataW.TrodVars] at h
  | cons d ds =>
    obtain ⟨g, t, cs, fuel, p, q, h1, h2, h3, h4, hs, e⟩ := h
    exact ⟨d, ds, q, rfl, hs⟩
theorem trodVars_end {H : Type} {enc : TypeId × Value → H} {P : Program} {w : World} {sp : Nat → Bool} {gs : List (DataW H)} {ps : List MemPlace} (h : DataW.TrodVars enc P w sp [] gs ps) : gs = [] := by
  cases gs with
  | nil => rfl
  | cons d ds => simp [DataW.TrodVars] at h
end Go.Proofs.YtkkhjeigndcmaaaDoor
