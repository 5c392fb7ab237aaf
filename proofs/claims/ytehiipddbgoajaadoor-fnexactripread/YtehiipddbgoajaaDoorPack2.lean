/- Texts that stand on each other, in one file: OwnE, Errs, Gotos, Steady, StabW, SeqI, RipOfR, RipR. -/
import Derived.Test.YtehiipddbgoajaaDoorPack1
import Derived.OwnWalk
import Derived.LaidEql
import Derived.Stop.Asserts
import Derived.RowKitTokens
import Derived.ScopeJumps
import Derived.WalkMore
import Derived.Test.YtehiipddbgoajaaDoorTail
/- Lists of entries that a call makes by appending. -/
namespace Go.Proofs.YtehiipddbgoajaaDoor
open Go.RowKit Go.Sort

theorem Tryd.infoEn : (Tryd.prog.info? 44).map (fun i => (i.zero, i.size, i.bytes)) = some (some (.agg #[.int .i64 0, .int .i64 0, .int .i64 0, .int .i64 0, .int .i64 0]), 5, 40) := by kernel_rfl
/-- The slice value v owns just the entries es, in memory from block 'base' on. -/
def OwnE (w : World) (base : Nat) (v : Value) (es : List Ent) : Prop := w.ownsRow base 44 5 v es.length (rowE es)
theorem OwnE.nil (w : World) (base : Nat) : OwnE w base (.slice none 0 0) [] := World.ownsRow_nil w base _ 5
theorem OwnE.alloc {w : World} {base : Nat} {v : Value} {es : List Ent} (h : OwnE w base v es) (o : Obj) : OwnE (w.alloc o) base v es := World.ownsRow.alloc h o
theorem OwnE.of_block {w w' : World} {base : Nat} {v : Value} {es : List Ent} (h : OwnE w base v es) (hb : ∀ g, g < w.heap.size → base ≤ g → w'.heap[g]? = w.heap[g]?) : OwnE w' base v es := by
  refine ⟨h.1, ?_⟩
  rcases h.2 with h2 | ⟨g, cap, cur, hv, hg0, hg, h3⟩
  · exact .inl h2
  · refine .inr ⟨g, cap, cur, hv, hg0, ?_, h3⟩
    rw [hb g (Array.getElem?_eq_some_iff.1 hg).1 hg0]
    exact hg
theorem OwnE.below {w w' : World} {base : Nat} {v : Value} {es : List Ent} (h : OwnE w base v es) (hb : Below w.heap.size w w') : OwnE w' base v es := h.of_block fun g hg _ => hb.block g hg
theorem OwnE.set {w : World} {base : Nat} {v : Value} {es : List Ent} (h : OwnE w base v es) (p : Addr) (hp : p.block < base) (u : Value) : OwnE (w.setCell p u) base v es := h.of_block fun g _ hg => Below.heap_setCell w p u g (by omega)
theorem OwnE.mono {w : World} {base base' : Nat} {v : Value} {es : List Ent} (h : OwnE w base v es) (hb : base' ≤ base) : OwnE w base' v es := by
  refine ⟨h.1, ?_⟩
  rcases h.2 with h2 | ⟨g, cap, cur, hv, hg0, h3⟩
  · exact .inl h2
  · exact .inr ⟨g, cap, cur, hv, by omega, h3⟩
theorem OwnE.form {w : World} {base : Nat} {v : Value} {es : List Ent} (h : OwnE w base v es) : ∃ p cap, v = .slice p es.length cap ∧ EntsIn w p es := by
  have h0 := h
  rcases h.2 with ⟨hv, hn⟩ | ⟨g, cap, cur, rfl, hg0, hg, hnc, _⟩
  · exact ⟨none, 0, by rw [hn]; exact hv, .inl (List.length_eq_zero_iff.1 hn)⟩
  · refine ⟨some ⟨g, 0, none⟩, cap, rfl, .inr ⟨g, rfl, (Array.getElem?_eq_some_iff.1 hg).1, fun j u hj => ?_⟩⟩
    have := World.ownsRow.cells h0 rfl j u hj
    have ea : (⟨g, 0, none⟩ : Addr).add j = ⟨g, j, none⟩ := by unfold Addr.add; split <;> simp_all
    rwa [ea] at this
set_option maxRecDepth 100000 in
/-- 'v = append(v, e)', e laid in a block of its own just ahead. -/
theorem wpList_append_ent {w : World} {ops : Array Oper} {rest : List Oper} {o : Oper} {a : Act} {Q : Exit → Act → World → Prop} (hgd : o.guard = none) (s x : Operand)
    (ho : o.op = .call { callee := .builtin .append, args := #[s, x], argTypes := #[22, 22] })
    (base : Nat) (v : Value) (es : List Ent) (hs : a.eval s = v) (hown : OwnE w base v es) (g c : Nat) (e : Ent) (hx : a.eval x = .slice (some ⟨g, 0, none⟩) 1 c) (hr : Row w g 44 (entL e))
    (hlen : es.length ≤ 1000000) (hbase : base ≤ w.heap.size)
    (h : ∀ v' w', OwnE w' base v' (es ++ [e]) → Below base w w' → wpList Tryd.prog ops Q rest (a.put o.dst v') w') : wpList Tryd.prog ops Q (o :: rest) a w := by
  obtain ⟨i0, hi0, hz0, hz1, hz2⟩ := info_parts Tryd.infoEn
  refine wpList_append_own w hgd s x 22 ho base 44 i0 _ 5 40 Tryd.underlying22 hi0 hz0 hz1 hz2 rfl (by decide) v es.length (rowE es) hs hown ⟨g, 0, none⟩ 1 c (entL e) hx rfl ?_ ?_ ?_ ?_ hbase ?_
  · intro j u hj
    have ea : (⟨g, 0, none⟩ : Addr).add j = ⟨g, j, none⟩ := by unfold Addr.add; split <;> simp_all
    rw [ea, hr.cell]
    exact hj
  · intro u hu
    have := rowE_one [e] u (by simpa [rowE] using hu)
    exact this
  · unfold maxLen; omega
  · omega
  · intro v' w' hown' hgrow _
    refine h v' w' ?_ ((Below.refl base w).grown hgrow hbase fun k hk => (World.ownsRow.lt hown k hk).1)
    unfold OwnE
    rw [List.length_append, rowE_append, show rowE [e] = entL e by simp [rowE]]
    exact hown'
end Go.Proofs.YtehiipddbgoajaaDoor
/- Errors of the program: what its variables hold, errors.Is at them (Go's own text of it is walked), and the code of each. -/
namespace Go.Proofs.YtehiipddbgoajaaDoor
open Go.RowKit Go.Extern.Stop Go.Stop Go.Extern

/-- The variable of the i-th error. -/
def errG : Nat → Nat
  | 0 => 0
  | 1 => 2
  | 2 => 3
  | 3 => 4
  | 4 => 1
  | 5 => 5
  | _ => 0
/-- The value of the error at an address. -/
def errV (a : Addr) : Value := .iface 120 (.pointer (some a))
/-- The six variables hold six different errors of errors.New's make. -/
def ErrsIn (w : World) (A : Nat → Addr) : Prop := (∀ i, i < 6 → w.cell? ⟨errG i, 0, none⟩ = some (errV (A i))) ∧ (∀ i, i < 6 → ∃ c t, w.heap[(A i).block]? = some (.cells c t (0, 0))) ∧ ∀ i j, i < 6 → j < 6 → i ≠ j → A i ≠ A j
theorem ErrsIn.below {w w' : World} {A : Nat → Addr} (h : ErrsIn w A) (hb : Below w.heap.size w w') : ErrsIn w' A := by
  refine ⟨fun i hi => ?_, fun i hi => ?_, h.2.2⟩
  · rw [hb.cell (p := ⟨errG i, 0, none⟩) (World.block_lt_of_cell? w _ (h.1 i hi))]; exact h.1 i hi
  · obtain ⟨c, t, hc⟩ := h.2.1 i hi
    exact ⟨c, t, by rw [hb.block _ (Array.getElem?_eq_some_iff.1 hc).1]; exact hc⟩
theorem Tryd.isTypeOf (v : Value) (w : World) : (Extern.ReflectliteType.typeOf #[.iface 120 v]).run Tryd.prog w = .ok (.iface 92 (.agg #[.pointer (some ⟨7, 120, none⟩)])) w := by kernel_rfl
/-- The model's entry for (rtype).Comparable. -/
def cmpF : Array Value → Sem Value := Extern.ReflectliteType.method fun t => do Extern.Rtype.noPackHeld "Comparable" t; pure (.bool (← typeInfo t).comparable)
theorem Tryd.isComparable (w : World) : (cmpF #[.agg #[.pointer (some ⟨7, 120, none⟩)]]).run Tryd.prog w = .ok (.bool true) w := by kernel_rfl
theorem Tryd.isMethodComparable (v : Value) (w : World) : (Go.method 257 92 v "Comparable").run Tryd.prog w = .ok (109, v) w := by kernel_rfl
theorem Tryd.isComp : (Tryd.prog.info? 120).map (·.comparable) = some true := by kernel_rfl
theorem Tryd.isSize : (Tryd.prog.info? 145).map (·.size) = some 1 := by kernel_rfl
theorem Tryd.noIsE (v : Value) (xT : TypeId) (w : World) : (Instr.typeAssert (.iface 120 v) xT 94 true).run Tryd.prog w = .ok (.tuple #[.nilIface, .bool false]) w := run_typeAssert_lacksB Tryd.underlying94 (by kernel_rfl) (by kernel_rfl) v xT w
theorem Tryd.noUnwrapE (v : Value) (xT : TypeId) (w : World) : (Instr.typeAssert (.iface 120 v) xT 97 true).run Tryd.prog w = .ok (.tuple #[.nilIface, .bool false]) w := run_typeAssert_lacksB Tryd.underlying97 (by kernel_rfl) (by kernel_rfl) v xT w
theorem Tryd.noUnwrapsE (v : Value) (xT : TypeId) (w : World) : (Instr.typeAssert (.iface 120 v) xT 99 true).run Tryd.prog w = .ok (.tuple #[.nilIface, .bool false]) w := run_typeAssert_lacksB Tryd.underlying99 (by kernel_rfl) (by kernel_rfl) v xT w
set_option maxRecDepth 100000 in
theorem is_same (a : Addr) (w : World) :
    Calls Tryd.prog 36 #[.iface 120 (.pointer (some a)), .iface 120 (.pointer (some a))] w fun e w' => e = .returned (.bool true) ∧ w = w' := by
  obtain ⟨i, hi, hcmp⟩ := Option.map_eq_some_iff.1 Tryd.isComp
  obtain ⟨j, hj, hjs⟩ := Option.map_eq_some_iff.1 Tryd.isSize
  have h8 := @run_callFunc_extern Tryd.prog 55 _ Extern.ReflectliteType.typeOf Tryd.func55 (by kernel_rfl) (by kernel_rfl) (by kernel_rfl) (by kernel_rfl)
  have h32 := @run_callFunc_extern Tryd.prog 109 _ cmpF Tryd.func109 (by kernel_rfl) (by kernel_rfl) (by kernel_rfl) (by kernel_rfl)
  have tT := Tryd.isTypeOf
  have cT := Tryd.isComparable
  have mR := Tryd.isMethodComparable
  have heq := run_eql_iface_ptr_same (P := Tryd.prog) w a Tryd.underlying47 Tryd.underlying120 hi hcmp hj
  go_enter Tryd.func36, Tryd.ntmps36
  go_wp2
  refine wp_loop_rounds 1 ?_
  rw [rounds_succ]
  go_wp2
  go_ret
  exact ⟨rfl, rfl⟩
set_option maxRecDepth 100000 in
theorem is_other (a b : Addr) (ca cb : Array Value) (ta tb : TypeId) (w : World) (hne : a ≠ b) (ha : w.heap[a.block]? = some (.cells ca ta (0, 0))) (hb : w.heap[b.block]? = some (.cells cb tb (0, 0))) :
    Calls Tryd.prog 36 #[.iface 120 (.pointer (some a)), .iface 120 (.pointer (some b))] w fun e w' => e = .returned (.bool false) ∧ w = w' := by
  obtain ⟨i, hi, hcmp⟩ := Option.map_eq_some_iff.1 Tryd.isComp
  obtain ⟨j, hj, hjs⟩ := Option.map_eq_some_iff.1 Tryd.isSize
  have h8 := @run_callFunc_extern Tryd.prog 55 _ Extern.ReflectliteType.typeOf Tryd.func55 (by kernel_rfl) (by kernel_rfl) (by kernel_rfl) (by kernel_rfl)
  have h32 := @run_callFunc_extern Tryd.prog 109 _ cmpF Tryd.func109 (by kernel_rfl) (by kernel_rfl) (by kernel_rfl) (by kernel_rfl)
  have tT := Tryd.isTypeOf
  have cT := Tryd.isComparable
  have mR := Tryd.isMethodComparable
  have nE := Tryd.noIsE
  have uE := Tryd.noUnwrapE
  have vE := Tryd.noUnwrapsE
  have heq := run_eql_iface_ptr_other (P := Tryd.prog) w Tryd.underlying47 Tryd.underlying120 hi hcmp hj (by rw [hjs]; decide) hne ha hb
  go_enter Tryd.func36, Tryd.ntmps36
  go_wp2
  refine wp_loop_rounds 1 ?_
  rw [rounds_succ]
  go_wp2
  go_ret
  exact ⟨rfl, rfl⟩
theorem is_errs (A : Nat → Addr) (w : World) (h : ErrsIn w A) (i j : Nat) (hi : i < 6) (hj : j < 6) : Calls Tryd.prog 36 #[errV (A i), errV (A j)] w fun e w' => e = .returned (.bool (decide (i = j))) ∧ w = w' := by
  by_cases hij : i = j
  · subst hij
    rw [decide_eq_true rfl]
    exact is_same (A i) w
  · rw [decide_eq_false hij]
    obtain ⟨c, t, hc⟩ := h.2.1 i hi
    obtain ⟨d, u, hd⟩ := h.2.1 j hj
    exact is_other (A i) (A j) c d t u w (h.2.2 i j hi hj hij) hc hd
set_option maxRecDepth 100000 in
theorem ripCode_nil (w : World) : Calls Tryd.prog 19 #[.nilIface] w fun e w' => e = .returned (.int .i64 0) ∧ w = w' := by
  go_enter Tryd.func19, Tryd.ntmps19
  go_wp2
  go_ret
  exact ⟨rfl, rfl⟩
set_option maxRecDepth 100000 in
theorem ripCode_Long (A : Nat → Addr) (w : World) (h : ErrsIn w A) : Calls Tryd.prog 19 #[errV (A 0)] w fun e w' => e = .returned (.int .i64 2) ∧ w = w' := by
  have c0 : w.cell? ⟨0, 0, none⟩ = some (.iface 120 (.pointer (some (A 0)))) := h.1 0 (by omega)
  have c1 : w.cell? ⟨2, 0, none⟩ = some (.iface 120 (.pointer (some (A 1)))) := h.1 1 (by omega)
  have c2 : w.cell? ⟨3, 0, none⟩ = some (.iface 120 (.pointer (some (A 2)))) := h.1 2 (by omega)
  have c3 : w.cell? ⟨4, 0, none⟩ = some (.iface 120 (.pointer (some (A 3)))) := h.1 3 (by omega)
  have c4 : w.cell? ⟨1, 0, none⟩ = some (.iface 120 (.pointer (some (A 4)))) := h.1 4 (by omega)
  have c5 : w.cell? ⟨5, 0, none⟩ = some (.iface 120 (.pointer (some (A 5)))) := h.1 5 (by omega)
  have H0 : Hid (Calls Tryd.prog 36 #[.iface 120 (.pointer (some (A 0))), .iface 120 (.pointer (some (A 0)))] w fun e w' => e = .returned (.bool true) ∧ w = w') := is_errs A w h 0 0 (by omega) (by omega)
  unfold errV
  clear h
  go_enter Tryd.func19, Tryd.ntmps19
  go_wp2_with fail
  refine (H0.out).mono ?_
  rintro e w1 ⟨rfl, rfl⟩
  go_wp2
  go_ret
  exact ⟨rfl, rfl⟩
set_option maxRecDepth 100000 in
theorem ripCode_Form (A : Nat → Addr) (w : World) (h : ErrsIn w A) : Calls Tryd.prog 19 #[errV (A 1)] w fun e w' => e = .returned (.int .i64 1) ∧ w = w' := by
  have c0 : w.cell? ⟨0, 0, none⟩ = some (.iface 120 (.pointer (some (A 0)))) := h.1 0 (by omega)
  have c1 : w.cell? ⟨2, 0, none⟩ = some (.iface 120 (.pointer (some (A 1)))) := h.1 1 (by omega)
  have c2 : w.cell? ⟨3, 0, none⟩ = some (.iface 120 (.pointer (some (A 2)))) := h.1 2 (by omega)
  have c3 : w.cell? ⟨4, 0, none⟩ = some (.iface 120 (.pointer (some (A 3)))) := h.1 3 (by omega)
  have c4 : w.cell? ⟨1, 0, none⟩ = some (.iface 120 (.pointer (some (A 4)))) := h.1 4 (by omega)
  have c5 : w.cell? ⟨5, 0, none⟩ = some (.iface 120 (.pointer (some (A 5)))) := h.1 5 (by omega)
  have H0 : Hid (Calls Tryd.prog 36 #[.iface 120 (.pointer (some (A 1))), .iface 120 (.pointer (some (A 0)))] w fun e w' => e = .returned (.bool false) ∧ w = w') := is_errs A w h 1 0 (by omega) (by omega)
  have H1 : Hid (Calls Tryd.prog 36 #[.iface 120 (.pointer (some (A 1))), .iface 120 (.pointer (some (A 1)))] w fun e w' => e = .returned (.bool true) ∧ w = w') := is_errs A w h 1 1 (by omega) (by omega)
  unfold errV
  clear h
  go_enter Tryd.func19, Tryd.ntmps19
  go_wp2_with fail
  refine (H0.out).mono ?_
  rintro e w1 ⟨rfl, rfl⟩
  go_wp2_with fail
  refine (H1.out).mono ?_
  rintro e w1 ⟨rfl, rfl⟩
  go_wp2
  go_ret
  exact ⟨rfl, rfl⟩
set_option maxRecDepth 100000 in
theorem ripCode_Short (A : Nat → Addr) (w : World) (h : ErrsIn w A) : Calls Tryd.prog 19 #[errV (A 2)] w fun e w' => e = .returned (.int .i64 4) ∧ w = w' := by
  have c0 : w.cell? ⟨0, 0, none⟩ = some (.iface 120 (.pointer (some (A 0)))) := h.1 0 (by omega)
  have c1 : w.cell? ⟨2, 0, none⟩ = some (.iface 120 (.pointer (some (A 1)))) := h.1 1 (by omega)
  have c2 : w.cell? ⟨3, 0, none⟩ = some (.iface 120 (.pointer (some (A 2)))) := h.1 2 (by omega)
  have c3 : w.cell? ⟨4, 0, none⟩ = some (.iface 120 (.pointer (some (A 3)))) := h.1 3 (by omega)
  have c4 : w.cell? ⟨1, 0, none⟩ = some (.iface 120 (.pointer (some (A 4)))) := h.1 4 (by omega)
  have c5 : w.cell? ⟨5, 0, none⟩ = some (.iface 120 (.pointer (some (A 5)))) := h.1 5 (by omega)
  have H0 : Hid (Calls Tryd.prog 36 #[.iface 120 (.pointer (some (A 2))), .iface 120 (.pointer (some (A 0)))] w fun e w' => e = .returned (.bool false) ∧ w = w') := is_errs A w h 2 0 (by omega) (by omega)
  have H1 : Hid (Calls Tryd.prog 36 #[.iface 120 (.pointer (some (A 2))), .iface 120 (.pointer (some (A 1)))] w fun e w' => e = .returned (.bool false) ∧ w = w') := is_errs A w h 2 1 (by omega) (by omega)
  have H2 : Hid (Calls Tryd.prog 36 #[.iface 120 (.pointer (some (A 2))), .iface 120 (.pointer (some (A 2)))] w fun e w' => e = .returned (.bool true) ∧ w = w') := is_errs A w h 2 2 (by omega) (by omega)
  unfold errV
  clear h
  go_enter Tryd.func19, Tryd.ntmps19
  go_wp2_with fail
  refine (H0.out).mono ?_
  rintro e w1 ⟨rfl, rfl⟩
  go_wp2_with fail
  refine (H1.out).mono ?_
  rintro e w1 ⟨rfl, rfl⟩
  go_wp2_with fail
  refine (H2.out).mono ?_
  rintro e w1 ⟨rfl, rfl⟩
  go_wp2
  go_ret
  exact ⟨rfl, rfl⟩
set_option maxRecDepth 100000 in
theorem ripCode_Mac (A : Nat → Addr) (w : World) (h : ErrsIn w A) : Calls Tryd.prog 19 #[errV (A 3)] w fun e w' => e = .returned (.int .i64 5) ∧ w = w' := by
  have c0 : w.cell? ⟨0, 0, none⟩ = some (.iface 120 (.pointer (some (A 0)))) := h.1 0 (by omega)
  have c1 : w.cell? ⟨2, 0, none⟩ = some (.iface 120 (.pointer (some (A 1)))) := h.1 1 (by omega)
  have c2 : w.cell? ⟨3, 0, none⟩ = some (.iface 120 (.pointer (some (A 2)))) := h.1 2 (by omega)
  have c3 : w.cell? ⟨4, 0, none⟩ = some (.iface 120 (.pointer (some (A 3)))) := h.1 3 (by omega)
  have c4 : w.cell? ⟨1, 0, none⟩ = some (.iface 120 (.pointer (some (A 4)))) := h.1 4 (by omega)
  have c5 : w.cell? ⟨5, 0, none⟩ = some (.iface 120 (.pointer (some (A 5)))) := h.1 5 (by omega)
  have H0 : Hid (Calls Tryd.prog 36 #[.iface 120 (.pointer (some (A 3))), .iface 120 (.pointer (some (A 0)))] w fun e w' => e = .returned (.bool false) ∧ w = w') := is_errs A w h 3 0 (by omega) (by omega)
  have H1 : Hid (Calls Tryd.prog 36 #[.iface 120 (.pointer (some (A 3))), .iface 120 (.pointer (some (A 1)))] w fun e w' => e = .returned (.bool false) ∧ w = w') := is_errs A w h 3 1 (by omega) (by omega)
  have H2 : Hid (Calls Tryd.prog 36 #[.iface 120 (.pointer (some (A 3))), .iface 120 (.pointer (some (A 2)))] w fun e w' => e = .returned (.bool false) ∧ w = w') := is_errs A w h 3 2 (by omega) (by omega)
  have H3 : Hid (Calls Tryd.prog 36 #[.iface 120 (.pointer (some (A 3))), .iface 120 (.pointer (some (A 3)))] w fun e w' => e = .returned (.bool true) ∧ w = w') := is_errs A w h 3 3 (by omega) (by omega)
  unfold errV
  clear h
  go_enter Tryd.func19, Tryd.ntmps19
  go_wp2_with fail
  refine (H0.out).mono ?_
  rintro e w1 ⟨rfl, rfl⟩
  go_wp2_with fail
  refine (H1.out).mono ?_
  rintro e w1 ⟨rfl, rfl⟩
  go_wp2_with fail
  refine (H2.out).mono ?_
  rintro e w1 ⟨rfl, rfl⟩
  go_wp2_with fail
  refine (H3.out).mono ?_
  rintro e w1 ⟨rfl, rfl⟩
  go_wp2
  go_ret
  exact ⟨rfl, rfl⟩
set_option maxRecDepth 100000 in
theorem ripCode_None (A : Nat → Addr) (w : World) (h : ErrsIn w A) : Calls Tryd.prog 19 #[errV (A 4)] w fun e w' => e = .returned (.int .i64 3) ∧ w = w' := by
  have c0 : w.cell? ⟨0, 0, none⟩ = some (.iface 120 (.pointer (some (A 0)))) := h.1 0 (by omega)
  have c1 : w.cell? ⟨2, 0, none⟩ = some (.iface 120 (.pointer (some (A 1)))) := h.1 1 (by omega)
  have c2 : w.cell? ⟨3, 0, none⟩ = some (.iface 120 (.pointer (some (A 2)))) := h.1 2 (by omega)
  have c3 : w.cell? ⟨4, 0, none⟩ = some (.iface 120 (.pointer (some (A 3)))) := h.1 3 (by omega)
  have c4 : w.cell? ⟨1, 0, none⟩ = some (.iface 120 (.pointer (some (A 4)))) := h.1 4 (by omega)
  have c5 : w.cell? ⟨5, 0, none⟩ = some (.iface 120 (.pointer (some (A 5)))) := h.1 5 (by omega)
  have H0 : Hid (Calls Tryd.prog 36 #[.iface 120 (.pointer (some (A 4))), .iface 120 (.pointer (some (A 0)))] w fun e w' => e = .returned (.bool false) ∧ w = w') := is_errs A w h 4 0 (by omega) (by omega)
  have H1 : Hid (Calls Tryd.prog 36 #[.iface 120 (.pointer (some (A 4))), .iface 120 (.pointer (some (A 1)))] w fun e w' => e = .returned (.bool false) ∧ w = w') := is_errs A w h 4 1 (by omega) (by omega)
  have H2 : Hid (Calls Tryd.prog 36 #[.iface 120 (.pointer (some (A 4))), .iface 120 (.pointer (some (A 2)))] w fun e w' => e = .returned (.bool false) ∧ w = w') := is_errs A w h 4 2 (by omega) (by omega)
  have H3 : Hid (Calls Tryd.prog 36 #[.iface 120 (.pointer (some (A 4))), .iface 120 (.pointer (some (A 3)))] w fun e w' => e = .returned (.bool false) ∧ w = w') := is_errs A w h 4 3 (by omega) (by omega)
  have H5 : Hid (Calls Tryd.prog 36 #[.iface 120 (.pointer (some (A 4))), .iface 120 (.pointer (some (A 5)))] w fun e w' => e = .returned (.bool false) ∧ w = w') := is_errs A w h 4 5 (by omega) (by omega)
  unfold errV
  clear h
  go_enter Tryd.func19, Tryd.ntmps19
  go_wp2_with fail
  refine (H0.out).mono ?_
  rintro e w1 ⟨rfl, rfl⟩
  go_wp2_with fail
  refine (H1.out).mono ?_
  rintro e w1 ⟨rfl, rfl⟩
  go_wp2_with fail
  refine (H2.out).mono ?_
  rintro e w1 ⟨rfl, rfl⟩
  go_wp2_with fail
  refine (H3.out).mono ?_
  rintro e w1 ⟨rfl, rfl⟩
  go_wp2_with fail
  refine (H5.out).mono ?_
  rintro e w1 ⟨rfl, rfl⟩
  go_wp2
  go_ret
  exact ⟨rfl, rfl⟩
set_option maxRecDepth 100000 in
theorem ripCode_Old (A : Nat → Addr) (w : World) (h : ErrsIn w A) : Calls Tryd.prog 19 #[errV (A 5)] w fun e w' => e = .returned (.int .i64 8) ∧ w = w' := by
  have c0 : w.cell? ⟨0, 0, none⟩ = some (.iface 120 (.pointer (some (A 0)))) := h.1 0 (by omega)
  have c1 : w.cell? ⟨2, 0, none⟩ = some (.iface 120 (.pointer (some (A 1)))) := h.1 1 (by omega)
  have c2 : w.cell? ⟨3, 0, none⟩ = some (.iface 120 (.pointer (some (A 2)))) := h.1 2 (by omega)
  have c3 : w.cell? ⟨4, 0, none⟩ = some (.iface 120 (.pointer (some (A 3)))) := h.1 3 (by omega)
  have c4 : w.cell? ⟨1, 0, none⟩ = some (.iface 120 (.pointer (some (A 4)))) := h.1 4 (by omega)
  have c5 : w.cell? ⟨5, 0, none⟩ = some (.iface 120 (.pointer (some (A 5)))) := h.1 5 (by omega)
  have H0 : Hid (Calls Tryd.prog 36 #[.iface 120 (.pointer (some (A 5))), .iface 120 (.pointer (some (A 0)))] w fun e w' => e = .returned (.bool false) ∧ w = w') := is_errs A w h 5 0 (by omega) (by omega)
  have H1 : Hid (Calls Tryd.prog 36 #[.iface 120 (.pointer (some (A 5))), .iface 120 (.pointer (some (A 1)))] w fun e w' => e = .returned (.bool false) ∧ w = w') := is_errs A w h 5 1 (by omega) (by omega)
  have H2 : Hid (Calls Tryd.prog 36 #[.iface 120 (.pointer (some (A 5))), .iface 120 (.pointer (some (A 2)))] w fun e w' => e = .returned (.bool false) ∧ w = w') := is_errs A w h 5 2 (by omega) (by omega)
  have H3 : Hid (Calls Tryd.prog 36 #[.iface 120 (.pointer (some (A 5))), .iface 120 (.pointer (some (A 3)))] w fun e w' => e = .returned (.bool false) ∧ w = w') := is_errs A w h 5 3 (by omega) (by omega)
  have H5 : Hid (Calls Tryd.prog 36 #[.iface 120 (.pointer (some (A 5))), .iface 120 (.pointer (some (A 5)))] w fun e w' => e = .returned (.bool true) ∧ w = w') := is_errs A w h 5 5 (by omega) (by omega)
  unfold errV
  clear h
  go_enter Tryd.func19, Tryd.ntmps19
  go_wp2_with fail
  refine (H0.out).mono ?_
  rintro e w1 ⟨rfl, rfl⟩
  go_wp2_with fail
  refine (H1.out).mono ?_
  rintro e w1 ⟨rfl, rfl⟩
  go_wp2_with fail
  refine (H2.out).mono ?_
  rintro e w1 ⟨rfl, rfl⟩
  go_wp2_with fail
  refine (H3.out).mono ?_
  rintro e w1 ⟨rfl, rfl⟩
  go_wp2_with fail
  refine (H5.out).mono ?_
  rintro e w1 ⟨rfl, rfl⟩
  go_wp2
  go_ret
  exact ⟨rfl, rfl⟩
def errC : Nat → Int
  | 0 => 2
  | 1 => 1
  | 2 => 4
  | 3 => 5
  | 4 => 3
  | 5 => 8
  | _ => 0
theorem ripCode_errs (A : Nat → Addr) (w : World) (h : ErrsIn w A) (i : Nat) (hi : i < 6) : Calls Tryd.prog 19 #[errV (A i)] w fun e w' => e = .returned (.int .i64 (errC i)) ∧ w = w' := by
  obtain rfl | rfl | rfl | rfl | rfl | rfl : i = 0 ∨ i = 1 ∨ i = 2 ∨ i = 3 ∨ i = 4 ∨ i = 5 := by omega
  · exact ripCode_Long A w h
  · exact ripCode_Form A w h
  · exact ripCode_Short A w h
  · exact ripCode_Mac A w h
  · exact ripCode_None A w h
  · exact ripCode_Old A w h
end Go.Proofs.YtehiipddbgoajaaDoor
/- A scope in which the run jumps to several labels: what holds at each jump, and a measure that every pass from a label lowers. -/
namespace Go.Proofs.YtehiipddbgoajaaDoor
open Go

/-- As Q; by a goto to label l: J l. -/
def Exit.jumps (J : Nat → Act → World → Prop) (Q : Exit → Act → World → Prop) : Exit → Act → World → Prop
  | .goto l, a, w => J l a w
  | e, a, w => Q e a w

theorem wp_scope_labels {P : Program} {a : Act} {w : World} {Q : Exit → Act → World → Prop} {c : Code} (J : Nat → Act → World → Prop) (μ : Nat → Act → World → Nat)
    (first : c.wp P (Exit.jumps J Q) a w)
    (pass : ∀ l a w, J l a w → ∃ rest, findLabel c l = some rest ∧ rest.wp P (Exit.jumps (fun l' a' w' => J l' a' w' ∧ μ l' a' w' < μ l a w) Q) a w) : (Code.scope c).wp P Q a w := by
  intro b k cs
  have key : ∀ n l a w, μ l a w = n → J l a w → ∃ rest, findLabel c l = some rest ∧ ∃ e a' w', Q e a' w' ∧ Arrives P (lone (b.at a (.code rest :: .inScope c :: k)) cs w) b k cs e a' w' := by
    intro n
    induction n using Nat.strongRecOn with
    | _ n ih =>
      intro l a w hn hJ
      obtain ⟨rest, hf, hp⟩ := pass l a w hJ
      refine ⟨rest, hf, ?_⟩
      obtain ⟨e, a₁, w₁, hq, harr⟩ := hp b (.inScope c :: k) cs
      cases e with
      | normal => exact ⟨.normal, a₁, w₁, hq, Steps.trans harr (.one step_inScope)⟩
      | exit id => exact ⟨.exit id, a₁, w₁, hq, fun k' hk => harr k' (by simp [exitTo, hk])⟩
      | goto l' =>
        obtain ⟨hJ', hlt⟩ := hq
        obtain ⟨rest', hf', e₂, a₂, w₂, hq₂, harr₂⟩ := ih _ (by omega) l' a₁ w₁ rfl hJ'
        have hg : gotoIn l' (.inScope c :: k) = some (.code rest' :: .inScope c :: k) := by simp [gotoIn, hf']
        exact ⟨e₂, a₂, w₂, hq₂, .of_steps (harr _ hg) harr₂⟩
      | ret => exact ⟨_, a₁, w₁, hq, harr⟩
      | panic ch => exact ⟨_, a₁, w₁, hq, harr⟩
      | outgrown => exact ⟨_, a₁, w₁, hq, harr⟩
  obtain ⟨e, a₁, w₁, hq, harr⟩ := first b (.inScope c :: k) cs
  cases e with
  | normal => exact ⟨.normal, a₁, w₁, hq, .head step_scope (Steps.trans harr (.one step_inScope))⟩
  | exit id => exact ⟨.exit id, a₁, w₁, hq, fun k' hk => .head step_scope (harr k' (by simp [exitTo, hk]))⟩
  | goto l' =>
    obtain ⟨rest, hf, e₂, a₂, w₂, hq₂, harr₂⟩ := key _ l' a₁ w₁ rfl hq
    have hg : gotoIn l' (.inScope c :: k) = some (.code rest :: .inScope c :: k) := by simp [gotoIn, hf]
    exact ⟨e₂, a₂, w₂, hq₂, .of_steps (.head step_scope (harr _ hg)) harr₂⟩
  | ret => exact ⟨_, a₁, w₁, hq, .of_steps (.one step_scope) harr⟩
  | panic ch => exact ⟨_, a₁, w₁, hq, .of_steps (.one step_scope) harr⟩
  | outgrown => exact ⟨_, a₁, w₁, hq, .of_steps (.one step_scope) harr⟩
end Go.Proofs.YtehiipddbgoajaaDoor
/- A law of our own on regions that draw their order: where each operation, whatever has come up before it, leaves in its slot a value that meets the slot's condition, and a world with some blocks laid behind, and the conditions bear that, any order ends in a frame that meets them all. -/
namespace Go.Proofs.YtehiipddbgoajaaDoor
open Go Go.RowKit

section
variable {P : Program}

/-- The slots of the operations that o waits for. -/
def depSlots (l : List Oper) (o : Oper) : List Nat := (o.after.toList.filter (Region.binds .any)).filterMap fun e => (l[e.on]?).bind (·.dst)
def steadyChk (l : List Oper) (n : Nat) : Bool :=
  ((List.range l.length).all fun j => match l[j]? with | none => true | some o => (o.after.all fun e => decide (e.on < j)) && o.guard.isNone && (match o.dst with | none => true | some d => decide (d < n))) &&
  (List.range l.length).all fun i => (List.range l.length).all fun j => decide (i = j) || ((l[i]?).bind (·.dst)).isNone || decide ((l[i]?).bind (·.dst) ≠ (l[j]?).bind (·.dst))
/-- The frame a' is as a, but for what the operations write. -/
def Agrees (l : List Oper) (a a' : Act) : Prop := a'.tmps.size = a.tmps.size ∧ a'.defers = a.defers ∧ ∀ d, (∀ o ∈ l, o.dst ≠ some d) → a'.tmps.getD d undef = a.tmps.getD d undef

theorem steadyChk_at {l : List Oper} {n j : Nat} {o : Oper} (h : steadyChk l n = true) (ho : l[j]? = some o) : (∀ e ∈ o.after, e.on < j) ∧ o.guard = none ∧ ∀ d, o.dst = some d → d < n := by
  have hlt : j < l.length := (List.getElem?_eq_some_iff.1 ho).1
  simp only [steadyChk, Bool.and_eq_true] at h
  have h1 := (List.all_eq_true.1 h.1) j (List.mem_range.2 hlt)
  simp only [ho, Bool.and_eq_true] at h1
  refine ⟨fun e he => of_decide_eq_true ((Array.all_eq_true_iff_forall_mem.1 h1.1.1) e he), by simpa using h1.1.2, fun d hd => ?_⟩
  have := h1.2
  simpa [hd] using this
theorem steadyChk_ne {l : List Oper} {n i j d : Nat} {oi oj : Oper} (h : steadyChk l n = true) (hi : l[i]? = some oi) (hj : l[j]? = some oj) (hne : i ≠ j) (hd : oi.dst = some d) : oj.dst ≠ some d := by
  have hlt : i < l.length := (List.getElem?_eq_some_iff.1 hi).1
  have hlt2 : j < l.length := (List.getElem?_eq_some_iff.1 hj).1
  simp only [steadyChk, Bool.and_eq_true] at h
  have h1 := (List.all_eq_true.1 ((List.all_eq_true.1 h.2) i (List.mem_range.2 hlt))) j (List.mem_range.2 hlt2)
  simp only [hi, hj, Option.bind_some, Bool.or_eq_true, decide_eq_true_eq] at h1
  rcases h1 with (h1 | h1) | h1
  · exact absurd h1 hne
  · rw [hd] at h1; simp at h1
  · rw [hd] at h1; exact fun e => h1 e.symm
theorem put_getD (a : Act) (d : Nat) (v : Value) (h : d < a.tmps.size) : (a.put (some d) v).tmps.getD d undef = v := by
  simp [Act.put, Array.getD_eq_getD_getElem?, h]
theorem put_getD_ne (a : Act) (dst : Option Tmp) (d : Nat) (v : Value) (h : dst ≠ some d) : (a.put dst v).tmps.getD d undef = a.tmps.getD d undef := by
  cases dst with
  | none => rfl
  | some x =>
    have hx : x ≠ d := fun e => h (by rw [e])
    simp [Act.put, Array.getD_eq_getD_getElem?, hx]
theorem put_size (a : Act) (dst : Option Tmp) (v : Value) : (a.put dst v).tmps.size = a.tmps.size := by cases dst <;> simp [Act.put]
theorem put_defers (a : Act) (dst : Option Tmp) (v : Value) : (a.put dst v).defers = a.defers := by cases dst <;> rfl

theorem act_eq (a : Act) (n : Nat) (h : a.tmps.size = n) : a = ⟨((List.range n).map fun k => a.tmps.getD k undef).toArray, a.defers⟩ := by
  subst h
  cases a with
  | mk T D =>
    simp only [Act.mk.injEq, and_true]
    apply Array.ext
    · simp
    · intro i h1 h2
      simp [Array.getD_eq_getD_getElem?, h1]
theorem wpAny_steady {l : List Oper} {Q : Exit → Act → World → Prop} {a : Act} {w : World} (m : Nat) (hml : m ≤ l.length) (G : Nat → Value → World → Prop) (hB : tailB .any l.toArray 0 m = true) (hchk : steadyChk (l.take m) a.tmps.size = true)
    (hstab : ∀ d v w1 w2, G d v w1 → Below w1.heap.size w1 w2 → G d v w2)
    (hstep : ∀ o ∈ l.take m, ∀ a' w', Below w.heap.size w w' → Agrees (l.take m) a a' → (∀ d ∈ depSlots (l.take m) o, G d (a'.tmps.getD d undef) w') → o.wp P a' w' (fun a'' w'' => ∃ v, a'' = a'.put o.dst v ∧ Below w'.heap.size w' w'' ∧ ∀ d, o.dst = some d → G d v w'') Q)
    (hfin : ∀ a' w', Below w.heap.size w w' → Agrees (l.take m) a a' → (∀ o ∈ l.take m, ∀ d, o.dst = some d → G d (a'.tmps.getD d undef) w') → wpList P l.toArray Q (l.drop m) a' w') :
    ∀ (fuel : Nat) (U : List Nat) (listed : Array Bool) (a' : Act) (w' : World), U.length = fuel → U.Nodup → listed.size = l.length → (∀ j, j < m → (listed.getD j true = false ↔ j ∈ U)) → (∀ j ∈ U, j < m) → (∀ j, m ≤ j → j < l.length → listed.getD j true = false) → ClosedL .any l.toArray listed →
      Below w.heap.size w w' → Agrees (l.take m) a a' → (∀ j o d, (l.take m)[j]? = some o → listed.getD j true = true → o.dst = some d → G d (a'.tmps.getD d undef) w') → wpAny P .any l.toArray Q (fuel + (l.length - m)) listed a' w' := by
  intro fuel
  induction fuel with
  | zero =>
    intro U listed a' w' hU _ hs hm _ ho hc hb hag hG
    have hU0 : U = [] := List.length_eq_zero_iff.1 hU
    subst hU0
    have hT : ∀ j, j < m → listed.getD j true = true := fun j hj => by
      cases h : listed.getD j true with
      | true => rfl
      | false => exact absurd ((hm j hj).1 h) (by simp)
    rw [Nat.zero_add]
    refine wpAny_tail (c := 0) (m := m) (Nat.zero_le _) hB (l.length - m) m listed a' w' (by omega) (Nat.le_refl _) hs hT ho hc ?_
    refine hfin a' w' hb hag fun o ho d hd => ?_
    obtain ⟨j, hj, rfl⟩ := List.getElem_of_mem ho
    exact hG j _ d (List.getElem?_eq_getElem hj) (hT j (by simp at hj; omega)) hd
  | succ fuel ih =>
    intro U listed a' w' hU hnd hs hm hUm ho hc hb hag hG
    rw [show fuel + 1 + (l.length - m) = (fuel + (l.length - m)) + 1 by omega]
    obtain ⟨k, hk⟩ : ∃ k, k ∈ U := by
      cases U with
      | nil => simp at hU
      | cons x _ => exact ⟨x, by simp⟩
    have hkm := hUm k hk
    have hkl := (hm k hkm).2 hk
    refine ⟨fun h0 => ?_, fun i hi => ?_⟩
    · have := ready_nil_all (md := .any) (ops := l.toArray) (by simpa using hs) (fun j o ho e he => tailB_lex hB ho e he) h0 (k + 1) k (by omega) (by simp; omega)
      rw [hkl] at this
      cases this
    · obtain ⟨hu, o, hoi, hdep⟩ := mem_ready.1 hi
      have hil : i < l.length := by simpa using (Array.getElem?_eq_some_iff.1 hoi).1
      have him : i < m := by
        rcases Nat.lt_or_ge i m with h | h
        · exact h
        · have := ready_all hB hc h hi (i - k) k (Nat.zero_le _) (by omega) (Nat.le_refl _)
          rw [hkl] at this
          cases this
      have hoL : (l.take m)[i]? = some o := by rw [List.getElem?_take, if_pos him]; simpa using hoi
      have hmem : o ∈ l.take m := List.mem_of_getElem? hoL
      obtain ⟨_, hgd, hdn⟩ := steadyChk_at hchk hoL
      have hiU : i ∈ U := (hm i him).1 hu
      unfold wpOp
      simp only [hoi]
      rw [if_pos (by simp [Region.wanted, hgd])]
      left
      have hs1 := hstep o hmem a' w' hb hag ?_
      · refine Oper.wp_mono ?_ hs1
        rintro a'' w'' ⟨v, rfl, hb2, hGv⟩
        have hset : ∀ j, (listed.setIfInBounds i true).getD j true = if j = i then true else listed.getD j true := by
          intro j
          by_cases hji : j = i
          · subst hji
            by_cases hjs : j < listed.size
            · simp [Array.getD_eq_getD_getElem?, hjs]
            · simp [Array.getD_eq_getD_getElem?, hjs]
          · rw [if_neg hji]
            simp [Array.getD_eq_getD_getElem?, Ne.symm hji]
        refine ih (U.erase i) _ _ _ (by rw [List.length_erase_of_mem hiU]; omega) (hnd.erase i) (by simpa using hs) ?_ (fun j hj => hUm j (List.mem_of_mem_erase hj)) ?_ (hc.set hi) (hb.trans (hb2.mono hb.size)) ?_ ?_
        · intro j hj
          rw [hset j, hnd.mem_erase_iff]
          by_cases hji : j = i
          · simp [hji]
          · rw [if_neg hji, hm j hj]; simp [hji]
        · intro j hj hjl
          rw [hset j, if_neg (by omega)]
          exact ho j hj hjl
        · refine ⟨by rw [put_size]; exact hag.1, by rw [put_defers]; exact hag.2.1, fun d hd => ?_⟩
          rw [put_getD_ne _ _ _ _ (hd o hmem)]
          exact hag.2.2 d hd
        · intro j oj d hj hlj hdj
          rw [hset j] at hlj
          by_cases hji : j = i
          · subst hji
            rw [hoL] at hj
            cases hj
            rw [hdj, put_getD _ _ _ (by rw [hag.1]; exact hdn d hdj)]
            exact hGv d hdj
          · rw [if_neg hji] at hlj
            rw [put_getD_ne _ _ _ _ (steadyChk_ne hchk hj hoL hji hdj)]
            exact hstab d _ _ _ (hG j oj d hj hlj hdj) hb2
      · intro d hd
        simp only [depSlots, List.mem_filterMap, List.mem_filter] at hd
        obtain ⟨e, ⟨he, hbn⟩, hed⟩ := hd
        have hlst := hdep e (by simpa using he) hbn
        cases hoe : (l.take m)[e.on]? with
        | none => simp [hoe] at hed
        | some oe =>
          simp only [hoe, Option.bind_some] at hed
          exact hG e.on oe d hoe (getD_true_of_false hlst) hed
theorem wp_region_steady {id : Nat} {Q : Exit → Act → World → Prop} {a : Act} {w : World} {l : List Oper} (m : Nat) (G : Nat → Value → World → Prop) (hm : P.follows .mixedOrders = true) (hchk : (decide (m ≤ l.length) && tailB .any l.toArray 0 m && steadyChk (l.take m) a.tmps.size) = true)
    (hstab : ∀ d v w1 w2, G d v w1 → Below w1.heap.size w1 w2 → G d v w2)
    (hstep : ∀ o ∈ l.take m, ∀ a' w', Below w.heap.size w w' → Agrees (l.take m) a a' → (∀ d ∈ depSlots (l.take m) o, G d (a'.tmps.getD d undef) w') → o.wp P a' w' (fun a'' w'' => ∃ v, a'' = a'.put o.dst v ∧ Below w'.heap.size w' w'' ∧ ∀ d, o.dst = some d → G d v w'') Q)
    (hfin : ∀ a' w', Below w.heap.size w w' → Agrees (l.take m) a a' → (∀ o ∈ l.take m, ∀ d, o.dst = some d → G d (a'.tmps.getD d undef) w') → wpList P l.toArray Q (l.drop m) a' w') :
    (Code.region id l.toArray true).wp P Q a w := by
  refine wp_region_any hm ?_
  simp only [Bool.and_eq_true, decide_eq_true_eq] at hchk
  obtain ⟨⟨hml, hB⟩, hck⟩ := hchk
  have h := wpAny_steady (P := P) (w := w) m hml G hB hck hstab hstep hfin m (List.range m) (Array.replicate l.length false) a { w with drawn := w.drawn + 1 } (by simp) List.nodup_range (by simp) ?_ (by simp) ?_ ?_ ((Below.refl w.heap.size w).drew) ⟨rfl, rfl, fun _ _ => rfl⟩ ?_
  · rw [show m + (l.length - m) = l.length by omega] at h
    simpa using h
  · intro j hj
    have hjl : j < l.length := by omega
    simp [Array.getD_eq_getD_getElem?, hjl, hj]
  · intro j _ hjl
    simp [Array.getD_eq_getD_getElem?, hjl]
  · intro k o ho hk
    have hlt : k < l.length := by simpa using (Array.getElem?_eq_some_iff.1 ho).1
    simp [Array.getD_eq_getD_getElem?, hlt] at hk
  · intro j o d hj hl _
    have hlt : j < l.length := by have := (List.getElem?_eq_some_iff.1 hj).1; simp at this; omega
    simp [Array.getD_eq_getD_getElem?, hlt] at hl
end
/-- Conditions, a slot each. -/
def SlotG (gs : List (Nat × (Value → World → Prop))) (d : Nat) (x : Value) (w : World) : Prop := ∀ p, (d, p) ∈ gs → p x w
def Stabs : List (Nat × (Value → World → Prop)) → Prop
  | [] => True
  | p :: l => (∀ x w1 w2, p.2 x w1 → Below w1.heap.size w1 w2 → p.2 x w2) ∧ Stabs l
def Is (v : Value) : Value → World → Prop := fun x _ => x = v
theorem stab_is (v : Value) : ∀ x w1 w2, Is v x w1 → Below w1.heap.size w1 w2 → Is v x w2 := fun _ _ _ h _ => h
theorem SlotG.get {gs : List (Nat × (Value → World → Prop))} {d : Nat} {x : Value} {w : World} (h : SlotG gs d x w) (k : Nat) {p : Value → World → Prop} (hk : gs[k]? = some (d, p)) : p x w := h p (List.mem_of_getElem? hk)
theorem SlotG.is {gs : List (Nat × (Value → World → Prop))} {d : Nat} {x : Value} {w : World} (h : SlotG gs d x w) (k : Nat) {v : Value} (hk : gs[k]? = some (d, Is v)) : x = v := h (Is v) (List.mem_of_getElem? hk)
theorem key_one {α : Type} : ∀ {gs : List (Nat × α)}, (gs.map (·.1)).Nodup → ∀ {d : Nat} {p q : α}, (d, p) ∈ gs → (d, q) ∈ gs → p = q
  | [], _, _, _, _, h, _ => by cases h
  | (k, r) :: gs, hn, d, p, q, h1, h2 => by
    simp only [List.map_cons, List.nodup_cons] at hn
    have hin : ∀ x, (d, x) ∈ gs → d ∈ gs.map (·.1) := fun x hx => List.mem_map.2 ⟨(d, x), hx, rfl⟩
    rcases List.mem_cons.1 h1 with e1 | h1
    · rcases List.mem_cons.1 h2 with e2 | h2
      · rw [← e2] at e1; exact (Prod.mk.inj e1).2
      · have := hin q h2
        rw [(Prod.mk.inj e1).1] at this
        exact absurd this hn.1
    · rcases List.mem_cons.1 h2 with e2 | h2
      · have := hin p h1
        rw [(Prod.mk.inj e2).1] at this
        exact absurd this hn.1
      · exact key_one hn.2 h1 h2
theorem SlotG.mk {gs : List (Nat × (Value → World → Prop))} {d : Nat} {x : Value} {w : World} (k : Nat) {p : Value → World → Prop} (hk : gs[k]? = some (d, p)) (hn : (gs.map (·.1)).Nodup) (h : p x w) : SlotG gs d x w := by
  intro q hq
  rw [key_one hn hq (List.mem_of_getElem? hk)]
  exact h
theorem Stabs.all : ∀ {gs : List (Nat × (Value → World → Prop))}, Stabs gs → ∀ d v w1 w2, SlotG gs d v w1 → Below w1.heap.size w1 w2 → SlotG gs d v w2
  | [], _, _, _, _, _, _, _ => fun p hp => by cases hp
  | (k, q) :: gs, ⟨h1, h2⟩, d, v, w1, w2, h, hb => fun p hp => by
    rcases List.mem_cons.1 hp with e | hp
    · have hq : p = q := by simpa using (Prod.mk.inj e).2
      have hp1 := h p (by rw [e]; simp)
      rw [hq] at hp1 ⊢
      exact h1 v w1 w2 hp1 hb
    · exact Stabs.all h2 d v w1 w2 (fun p hp => h p (List.mem_cons_of_mem _ hp)) hb p hp
theorem Agrees.at {l : List Oper} {a a' : Act} (h : Agrees l a a') (d : Nat) (hd : (l.all fun o => decide (o.dst ≠ some d)) = true) : a'.tmps.getD d undef = a.tmps.getD d undef :=
  h.2.2 d fun o ho => of_decide_eq_true ((List.all_eq_true.1 hd) o ho)
end Go.Proofs.YtehiipddbgoajaaDoor
/- Conditions that bear blocks laid behind; what text an owned row gives. -/
namespace Go.Proofs.YtehiipddbgoajaaDoor
open Go.RowKit

theorem stab_rowB (n : Nat) (l : List UInt8) : ∀ (x : Value) (w1 w2 : World), (∃ g, x = .slice (some ⟨g, 0, none⟩) n n ∧ RowB w1 g 5 l) → Below w1.heap.size w1 w2 → ∃ g, x = .slice (some ⟨g, 0, none⟩) n n ∧ RowB w2 g 5 l := by
  rintro x w1 w2 ⟨g, hx, hr⟩ hb
  exact ⟨g, hx, by unfold RowB at *; rw [hb.block g (Array.getElem?_eq_some_iff.1 hr).1]; exact hr⟩
theorem stab_row (n : Nat) (l : List Value) : ∀ (x : Value) (w1 w2 : World), (∃ g, x = .slice (some ⟨g, 0, none⟩) n n ∧ Row w1 g 2 l) → Below w1.heap.size w1 w2 → ∃ g, x = .slice (some ⟨g, 0, none⟩) n n ∧ Row w2 g 2 l := by
  rintro x w1 w2 ⟨g, hx, hr⟩ hb
  exact ⟨g, hx, hr.below hb hr.lt⟩
theorem stab_own (base : Nat) (l : List Value) : ∀ (x : Value) (w1 w2 : World), Own w1 base 5 x l → Below w1.heap.size w1 w2 → Own w2 base 5 x l := fun _ _ _ h hb => h.below hb
theorem stab_ptr (B : Nat) {t : TypeId} (l : List Value) : ∀ (x : Value) (w1 w2 : World), (∃ g, x = .pointer (some ⟨g, 0, none⟩) ∧ B < g ∧ Row w1 g t l) → Below w1.heap.size w1 w2 → ∃ g, x = .pointer (some ⟨g, 0, none⟩) ∧ B < g ∧ Row w2 g t l := by
  rintro x w1 w2 ⟨g, hx, hg, hr⟩ hb
  exact ⟨g, hx, hg, hr.below hb hr.lt⟩
theorem own_conv {w : World} {base : Nat} {v : Value} {l : List UInt8} {t : ByteArray} (h : Own w base 5 v (cellsB l)) (hl : l ≠ []) (ht : (⟨l.toArray⟩ : ByteArray) = t) :
    (convert 61 9 v).run Tryd.prog w = .ok (.string t) w := by
  have h' : OwnB w base 5 v l := by unfold OwnB; unfold Own at h; rwa [cellsB_length] at h
  rw [← ht]
  exact (h'.text hl 61 9 Tryd.underlying61 Tryd.underlying5 Tryd.underlying9).2
end Go.Proofs.YtehiipddbgoajaaDoor
/- Times and seqs, of the program. -/
namespace Go.Proofs.YtehiipddbgoajaaDoor
open Go.RowKit

def inKey (k : ByteArray) : Bool := decide (1 ≤ k.size ∧ k.size ≤ 32)
def inSeq (n : Int) : Bool := decide (1 ≤ n ∧ n ≤ 1000000)
def inTime (n : Int) : Bool := decide (0 ≤ n ∧ n ≤ 1000000)
set_option maxRecDepth 100000 in
theorem isTime_any (a : Int) (w : World) : Calls Tryd.prog 63 #[.int .i64 a] w fun e w' => e = .returned (.bool (inTime a)) ∧ w = w' := by
  by_cases h1 : 0 ≤ a
  · by_cases h2 : a ≤ 1000000
    · go_enter Tryd.func63, Tryd.ntmps63
      go_wp2
      go_ret
      exact ⟨ret_bool (by simp [inTime]; omega), rfl⟩
    · go_enter Tryd.func63, Tryd.ntmps63
      go_wp2
      go_ret
      exact ⟨ret_bool (by simp [inTime]; omega), rfl⟩
  · go_enter Tryd.func63, Tryd.ntmps63
    go_wp2
    go_ret
    exact ⟨ret_bool (by simp [inTime]; omega), rfl⟩
set_option maxRecDepth 100000 in
theorem seqRight_any (a : Int) (w : World) : Calls Tryd.prog 45 #[.int .i64 a] w fun e w' => e = .returned (.bool (inSeq a)) ∧ w = w' := by
  have HT : Hid (∀ w, Calls Tryd.prog 63 #[.int .i64 a] w fun e w' => e = .returned (.bool (inTime a)) ∧ w = w') := isTime_any a
  by_cases h1 : 1 ≤ a
  · have HE : Hid (inTime a = inSeq a) := by show decide _ = decide _; exact decide_eq_decide.2 (by omega)
    generalize inTime a = T at *
    go_enter Tryd.func45, Tryd.ntmps45
    go_wp2_with fail
    refine (HT.out _).mono ?_
    rintro e w1 ⟨rfl, rfl⟩
    go_wp2
    go_ret
    exact ⟨ret_bool HE.out, rfl⟩
  · have HE : Hid (inSeq a = false) := by show _ = _; simp [inSeq]; omega
    go_enter Tryd.func45, Tryd.ntmps45
    go_wp2
    go_ret
    exact ⟨ret_bool HE.out.symm, rfl⟩
end Go.Proofs.YtehiipddbgoajaaDoor
/- What the program's loop answers, in plain lists of bytes; it answers as the model. -/
namespace Go.Proofs.YtehiipddbgoajaaDoor
open Go.RowKit Go.Sort

def countE : Nat → List UInt8 → Nat
  | 0, _ => 0
  | f + 1, l => if isEnt l then countE f (l.drop 20) + 1 else 0
theorem countE_to : ∀ (f : Nat) (l : List UInt8), l.length ≤ f → EntsTo l (countE f l) ∧ ¬ isEnt (l.drop (20 * countE f l))
  | 0, l, h => by
    have : l = [] := List.length_eq_zero_iff.1 (by omega)
    subst this
    exact ⟨⟨by simp [countE], fun j hj => absurd hj (by simp [countE])⟩, fun h => absurd h.1 (by simp)⟩
  | f + 1, l, h => by
    unfold countE
    by_cases he : isEnt l
    · rw [if_pos he]
      have h20 := he.1
      obtain ⟨⟨h1, h2⟩, h3⟩ := countE_to f (l.drop 20) (by simp; omega)
      rw [List.length_drop] at h1
      refine ⟨⟨by omega, fun j hj => ?_⟩, ?_⟩
      · cases j with
        | zero => exact he
        | succ j =>
          have := h2 j (by omega)
          rwa [List.drop_drop, show 20 + 20 * j = 20 * (j + 1) by omega] at this
      · rwa [List.drop_drop, show 20 + 20 * countE f (l.drop 20) = 20 * (countE f (l.drop 20) + 1) by omega] at h3
    · rw [if_neg he]
      exact ⟨⟨by omega, fun j hj => absurd hj (by omega)⟩, he⟩
def endK (l : List UInt8) : Nat := countE l.length l
theorem endK_eq (l : List UInt8) (k : Nat) (h : EntsTo l k) (hn : ¬ isEnt (l.drop (20 * k))) : endK l = k :=
  (countE_to l.length l (Nat.le_refl _)).1.one h (countE_to l.length l (Nat.le_refl _)).2 hn
def markN (R : List UInt8) : Int := (numL (cutL R 4 8) : Nat)
def ripOfR (b : List UInt8) : Option (Int × List Ent × Int) :=
  if b.length < 4 ∨ numL (cutL b 1 4) ≠ 131072 then none
  else if isMark ((b.drop 4).drop (20 * endK (b.drop 4))) then
    (if inSeq (markN ((b.drop 4).drop (20 * endK (b.drop 4)))) = true ∧ ((b.drop 4).drop (20 * endK (b.drop 4))).length = 8 ∧ ripB (numL (cutL b 0 1) : Nat) (readEs (b.drop 4) (endK (b.drop 4))) = true then some ((numL (cutL b 0 1) : Nat), readEs (b.drop 4) (endK (b.drop 4)), markN ((b.drop 4).drop (20 * endK (b.drop 4)))) else none)
  else (if ((b.drop 4).drop (20 * endK (b.drop 4))).length = 0 ∧ ripB (numL (cutL b 0 1) : Nat) (readEs (b.drop 4) (endK (b.drop 4))) = true then some ((numL (cutL b 0 1) : Nat), readEs (b.drop 4) (endK (b.drop 4)), 0) else none)
theorem ripOfR_head {b : List UInt8} (h : b.length < 4 ∨ numL (cutL b 1 4) ≠ 131072) : ripOfR b = none := if_pos h
theorem ripOfR_mark {b : List UInt8} (h4 : 4 ≤ b.length) (hh : numL (cutL b 1 4) = 131072) (k : Nat) (hk : EntsTo (b.drop 4) k) (hn : ¬ isEnt ((b.drop 4).drop (20 * k))) (hm : isMark ((b.drop 4).drop (20 * k))) :
    ripOfR b = if inSeq (markN ((b.drop 4).drop (20 * k))) = true ∧ ((b.drop 4).drop (20 * k)).length = 8 ∧ ripB (numL (cutL b 0 1) : Nat) (readEs (b.drop 4) k) = true then some (((numL (cutL b 0 1) : Nat) : Int), readEs (b.drop 4) k, markN ((b.drop 4).drop (20 * k))) else none := by
  unfold ripOfR
  rw [if_neg (by rintro (h | h) <;> omega), endK_eq _ k hk hn, if_pos hm]
theorem ripOfR_end {b : List UInt8} (h4 : 4 ≤ b.length) (hh : numL (cutL b 1 4) = 131072) (k : Nat) (hk : EntsTo (b.drop 4) k) (hn : ¬ isEnt ((b.drop 4).drop (20 * k))) (hm : ¬ isMark ((b.drop 4).drop (20 * k))) :
    ripOfR b = if ((b.drop 4).drop (20 * k)).length = 0 ∧ ripB (numL (cutL b 0 1) : Nat) (readEs (b.drop 4) k) = true then some (((numL (cutL b 0 1) : Nat) : Int), readEs (b.drop 4) k, (0 : Int)) else none := by
  unfold ripOfR
  rw [if_neg (by rintro (h | h) <;> omega), endK_eq _ k hk hn, if_neg hm]
/-- How many entries the model reads. -/
def nE (t : List UInt8) : Nat := min ((t.length - 4) / 20) 9
/-- What the model reads of a text: its command, its entries, OK; or nothing. -/
def plainR (t : ByteArray) : Option (Int × List Ent) :=
  if ripO (numL (cutL t.data.toList 0 1) : Nat) (readEs (t.data.toList.drop 4) (nE t.data.toList)) = t then some ((numL (cutL t.data.toList 0 1) : Nat), readEs (t.data.toList.drop 4) (nE t.data.toList)) else none
theorem hd_cmd (c : Int) (hc : c = 1 ∨ c = 2) (r : List UInt8) : (numL (cutL (ripHd c ++ r) 0 1) : Int) = c ∧ numL (cutL (ripHd c ++ r) 1 4) = 131072 := by
  rcases hc with rfl | rfl <;> exact ⟨rfl, rfl⟩
theorem hd_read {b : List UInt8} (h4 : 4 ≤ b.length) (hh : numL (cutL b 1 4) = 131072) (c : Int) (hcm : (numL (cutL b 0 1) : Int) = c) (hc : c = 1 ∨ c = 2) : b.take 4 = ripHd c := by
  obtain ⟨a0, a1, a2, a3, r, rfl, _⟩ := list4 0 h4
  have e1 : cutL (a0 :: a1 :: a2 :: a3 :: r) 1 4 = [a1, a2, a3] := rfl
  have e0 : cutL (a0 :: a1 :: a2 :: a3 :: r) 0 1 = [a0] := rfl
  rw [e1] at hh
  rw [e0] at hcm
  have b1 := a1.toNat_lt
  have b2 := a2.toNat_lt
  have b3 := a3.toNat_lt
  simp only [numL, List.foldl_cons, List.foldl_nil] at hh hcm
  have x1 : a1 = 2 := UInt8.toNat_inj.1 (show a1.toNat = 2 by omega)
  have x2 : a2 = 0 := UInt8.toNat_inj.1 (show a2.toNat = 0 by omega)
  have x3 : a3 = 0 := UInt8.toNat_inj.1 (show a3.toNat = 0 by omega)
  subst x1 x2 x3
  rcases hc with rfl | rfl
  · have x0 : a0 = 1 := UInt8.toNat_inj.1 (show a0.toNat = 1 by omega)
    subst x0; rfl
  · have x0 : a0 = 2 := UInt8.toNat_inj.1 (show a0.toNat = 2 by omega)
    subst x0; rfl
theorem not_ent_nil : ¬ isEnt [] := fun h => absurd h.1 (by simp)
/-- What is a right one's bytes, with r behind them: the loop comes to r. -/
theorem ents_end (es : List Ent) (ha : es.all entB = true) (r : List UInt8) : EntsTo (entsBy es ++ r) es.length ∧ (entsBy es ++ r).drop (20 * es.length) = r ∧ readEs (entsBy es ++ r) es.length = es :=
  ⟨EntsTo.by es r, List.drop_left' (by rw [entsBy_length]), by rw [readEs_by es ha r es.length (Nat.le_refl _), List.take_length]⟩
theorem ripL_drop (c : Int) (es : List Ent) (r : List UInt8) : (ripL c es ++ r).drop 4 = entsBy es ++ r := by
  unfold ripL; rw [List.append_assoc]; exact List.drop_left' rfl
theorem plainR_text (c : Int) (es : List Ent) (h : ripB c es = true) : plainR (ripT c es) = some (c, es) := by
  obtain ⟨hc, h8, ha⟩ := ripB_spec h
  have hl : (ripT c es).data.toList = ripL c es := rfl
  have hd : (ripL c es).drop 4 = entsBy es := by have := ripL_drop c es []; simpa using this
  have hn : nE (ripL c es) = es.length := by unfold nE; rw [ripL_length]; omega
  have hcm := (hd_cmd c hc (entsBy es)).1
  have hes := (ents_end es ha []).2.2
  rw [List.append_nil] at hes
  unfold plainR
  rw [hl, hd, hn, hes, show (numL (cutL (ripL c es) 0 1) : Int) = c from hcm, if_pos (show ripO c es = ripT c es from if_pos h)]
theorem plainR_some {t : ByteArray} {c : Int} {es : List Ent} (h4 : 4 ≤ t.size) (h : plainR t = some (c, es)) : ripB c es = true ∧ t = ripT c es := by
  unfold plainR at h
  split at h
  · rename_i he
    simp only [Option.some.injEq, Prod.mk.injEq] at h
    obtain ⟨h1, h2⟩ := h
    rw [h1, h2] at he
    by_cases hb : ripB c es = true
    · rw [ripO, if_pos hb] at he
      exact ⟨hb, he.symm⟩
    · rw [ripO, if_neg hb] at he
      rw [← he] at h4
      simp at h4
  · cases h
theorem ripOfR_text (c : Int) (es : List Ent) (h : ripB c es = true) : ripOfR (ripL c es) = some (c, es, 0) := by
  obtain ⟨hc, h8, ha⟩ := ripB_spec h
  have hd : (ripL c es).drop 4 = entsBy es := by have := ripL_drop c es []; simpa using this
  obtain ⟨e1, e2, e3⟩ := ents_end es ha []
  rw [List.append_nil] at e1 e2 e3
  have hcm := hd_cmd c hc (entsBy es)
  rw [ripOfR_end (b := ripL c es) (by rw [ripL_length]; omega) hcm.2 es.length (by rw [hd]; exact e1) (by rw [hd, e2]; exact not_ent_nil) (by rw [hd, e2]; exact fun h => absurd h.1 (by simp)), hd, e2, e3, show (numL (cutL (ripL c es) 0 1) : Int) = c from hcm.1, if_pos ⟨rfl, h⟩]
theorem ripOfR_plain {b : List UInt8} {c : Int} {es : List Ent} (h : ripOfR b = some (c, es, 0)) : ripB c es = true ∧ b = ripL c es := by
  unfold ripOfR at h
  split at h
  · cases h
  · rename_i h4
    have h4' : 4 ≤ b.length := by omega
    have hh : numL (cutL b 1 4) = 131072 := by
      by_cases hx : numL (cutL b 1 4) = 131072
      · exact hx
      · exact absurd (.inr hx) h4
    split at h
    · split at h
      · rename_i hm
        simp only [Option.some.injEq, Prod.mk.injEq] at h
        have := hm.1
        rw [h.2.2] at this
        simp [inSeq] at this
      · cases h
    · split at h
      · rename_i hm
        simp only [Option.some.injEq, Prod.mk.injEq] at h
        obtain ⟨h1, h2, _⟩ := h
        obtain ⟨hto, _⟩ := countE_to (b.drop 4).length (b.drop 4) (Nat.le_refl _)
        have hb := hm.2
        rw [h1, h2] at hb
        obtain ⟨hc, _, ha⟩ := ripB_spec hb
        have htx := EntsTo.text _ _ hto (by rw [show readEs (b.drop 4) (countE (b.drop 4).length (b.drop 4)) = es from h2]; exact ha)
        rw [show readEs (b.drop 4) (countE (b.drop 4).length (b.drop 4)) = es from h2] at htx
        have hfull : (b.drop 4).take (20 * countE (b.drop 4).length (b.drop 4)) = b.drop 4 := List.take_of_length_le (by have h0 := hm.1; rw [List.length_drop] at h0; unfold endK at h0; omega)
        rw [hfull] at htx
        refine ⟨hb, ?_⟩
        rw [ripL, htx, ← hd_read h4' hh c h1 hc, List.take_append_drop]
      · cases h
/-- Both answer alike on what is not signed. -/
theorem plain_eq (t : ByteArray) (h4 : 4 ≤ t.size) (c : Int) (es : List Ent) : plainR t = some (c, es) ↔ ripOfR t.data.toList = some (c, es, 0) := by
  constructor
  · intro h
    obtain ⟨hb, rfl⟩ := plainR_some h4 h
    exact ripOfR_text c es hb
  · intro h
    obtain ⟨hb, he⟩ := ripOfR_plain h
    have : t = ripT c es := ByteArray.ext (Array.toList_inj.1 he)
    rw [this]
    exact plainR_text c es hb
end Go.Proofs.YtehiipddbgoajaaDoor
/- Is a Rip right? Asked by the program and by the model. -/
namespace Go.Proofs.YtehiipddbgoajaaDoor
open Go.RowKit Go.Sort

theorem ripB_all {c : Int} {es : List Ent} (hc : c = 1 ∨ c = 2) (hl : es.length ≤ 8) : ripB c es = es.all entB := by simp [ripB, hc, hl]
theorem ripB_long {c : Int} {es : List Ent} (hl : ¬ es.length ≤ 8) : ripB c es = false := by simp [ripB, hl]
theorem ripB_cmd {c : Int} {es : List Ent} (hc : ¬ (c = 1 ∨ c = 2)) : ripB c es = false := by unfold ripB; rw [decide_eq_false hc]; rfl
theorem rip_cell {w w1 : World} {x y : Value} {t : TypeId} (hb : Below (w.alloc (.cells #[x, y] t)).heap.size (w.alloc (.cells #[x, y] t)) w1) : w1.cell? ⟨w.heap.size, 0, none⟩ = some x ∧ w1.cell? ⟨w.heap.size, 1, none⟩ = some y := by
  obtain ⟨h0, h1, _⟩ := cell2_later rfl hb
  exact ⟨h0, h1⟩
set_option maxRecDepth 100000 in
theorem implRipRight_any (c : Int) (p : Option Addr) (cap : Nat) (es : List Ent) (w : World) (h : EntsIn w p es) (hn : es.length ≤ 100000000) :
    Calls Tryd.prog 54 #[ripV c p es.length cap] w fun e w' => e = .returned (.bool (ripB c es)) ∧ Below w.heap.size w w' := by
  have HE : Hid (∀ e w, Calls Tryd.prog 70 #[entV e] w fun r w' => r = .returned (.bool (entB e)) ∧ Below w.heap.size w w') := implEntryRight_any
  unfold ripV
  by_cases hl : es.length ≤ 8
  · by_cases hc : c = 1 ∨ c = 2
    · have HR : Hid (ripB c es = es.all entB) := ripB_all hc hl
      have HX : Hid (EntsIn w p es) := h
      have d8 : decide (8 < (es.length : Int)) = false := by simp; omega
      clear h
      generalize ripB c es = R at *
      rcases hc with rfl | rfl
      all_goals
        go_enter Tryd.func54, Tryd.ntmps54
        go_wp2_with fail
        go_loopw [22] (fun i wr => ∃ k : Nat, k ≤ es.length ∧ i = .int .i64 k ∧ (es.take k).all entB = true ∧ Below w.heap.size w wr) (fun i _ => es.length - (intOf i).toNat)
        case atStart => exact ⟨0, Nat.zero_le _, rfl, rfl, ent_new0 w _⟩
        case round =>
          obtain ⟨k, hk, rfl, ha, hb⟩ := hrel
          by_cases hlt : k < es.length
          · obtain ⟨g, a, l, n, m, t, rfl, hg, hek, c0, c1, c2, c3, c4⟩ := (HX.out.below hb).at k hlt
            have hall := all_next es k hlt ha
            have HBd : Hid (entB es[k] = false → R = false) := fun hf => by rw [HR.out]; exact all_bad es k hlt hf
            rw [hek] at hall HBd
            have HEk : Hid (∀ w, Calls Tryd.prog 70 #[.agg #[.int .i64 a, .int .i64 l, .int .i64 n, .int .i64 m, .int .i64 t]] w fun r w' => r = .returned (.bool (entB ⟨a, l, n, m, t⟩)) ∧ Below w.heap.size w w') := HE.out ⟨a, l, n, m, t⟩
            clear HE hek
            generalize entB ⟨a, l, n, m, t⟩ = B at *
            go_wp2_with fail
            refine (HEk.out _).mono ?_
            rintro e w1 ⟨rfl, hb1⟩
            have hB1 : Below w.heap.size w w1 := hb.trans (((ent_new0 wr _).trans (hb1.mono (by simp))).mono hb.size)
            clear hb1 HEk c0 c1 c2 c3 c4
            cases B
            · go_wp2
              go_ret
              exact ⟨ret_bool (HBd.out (by trivial)).symm, hB1⟩
            · go_wp2
              go_roundw
              case rel => exact ⟨k + 1, hlt, by go_num, hall, hB1⟩
              case measure => simp [intOf]; omega
          · obtain rfl : k = es.length := by omega
            rw [List.take_length] at ha
            go_wp2
            go_ret
            exact ⟨ret_bool (by rw [HR.out, ha]), hb⟩
    · rw [ripB_cmd hc]
      have b1 : (c != 1) = true := by simp; omega
      have b2 : (c != 2) = true := by simp; omega
      go_enter Tryd.func54, Tryd.ntmps54
      go_wp2
      go_ret
      exact ⟨rfl, ent_new0 w _⟩
  · rw [ripB_long hl]
    have d8 : decide (8 < (es.length : Int)) = true := by simp; omega
    by_cases h1 : c = 1
    · subst h1
      go_enter Tryd.func54, Tryd.ntmps54
      go_wp2
      go_ret
      exact ⟨rfl, ent_new0 w _⟩
    · have b1 : (c != 1) = true := by simpa using h1
      by_cases h2 : c = 2
      · subst h2
        go_enter Tryd.func54, Tryd.ntmps54
        go_wp2
        go_ret
        exact ⟨rfl, ent_new0 w _⟩
      · have b2 : (c != 2) = true := by simpa using h2
        go_enter Tryd.func54, Tryd.ntmps54
        go_wp2
        go_ret
        exact ⟨rfl, ent_new0 w _⟩
set_option maxRecDepth 100000 in
theorem specRipRight_any (c : Int) (p : Option Addr) (cap : Nat) (es : List Ent) (w : World) (h : EntsIn w p es) (hn : es.length ≤ 100000000) :
    Calls Tryd.prog 23 #[ripV c p es.length cap] w fun e w' => e = .returned (.bool (ripB c es)) ∧ Below w.heap.size w w' := by
  have HE : Hid (∀ e w, Calls Tryd.prog 39 #[entV e] w fun r w' => r = .returned (.bool (entB e)) ∧ Below w.heap.size w w') := specEntryRight_any
  have HC : Hid (∀ w, Calls Tryd.prog 25 #[.int .i64 c, .int .i64 1, .int .i64 2] w fun e w' => e = .returned (.bool (decide (1 ≤ c ∧ c ≤ 2))) ∧ w = w') := l03Is_any c 1 2
  have HBd : Hid (∀ k (hk : k < es.length), entB es[k] = false → ripB c es = false) := fun k hk hf => ripB_bad c es k hk hf
  have HYs : Hid (es.length ≤ 8 → es.all entB = true → ripB c es = decide (1 ≤ c ∧ c ≤ 2)) := fun h1 h2 => by
    unfold ripB
    rw [h2]
    by_cases hc : c = 1 ∨ c = 2
    · simp [h1, hc]; omega
    · have e1 : decide (1 ≤ c ∧ c ≤ 2) = false := by simp; omega
      rw [decide_eq_false hc, e1]; rfl
  have HNo : Hid (¬ es.length ≤ 8 → ripB c es = false) := fun h1 => ripB_long h1
  have HX : Hid (EntsIn w p es) := h
  unfold ripV
  generalize ripB c es = R at *
  generalize decide (1 ≤ c ∧ c ≤ 2) = D at *
  clear h
  go_enter Tryd.func23, Tryd.ntmps23
  go_wp2_with fail
  go_loopw [3] (fun i wr => ∃ k : Nat, k ≤ es.length ∧ k ≤ 9 ∧ i = .int .i64 k ∧ (es.take k).all entB = true ∧ Below (w.alloc (.cells #[.int .i64 c, .slice p es.length cap] 24)).heap.size (w.alloc (.cells #[.int .i64 c, .slice p es.length cap] 24)) wr) (fun i _ => es.length - (intOf i).toNat)
  case atStart => exact ⟨0, Nat.zero_le _, by omega, rfl, rfl, Below.refl _ _⟩
  case round =>
    obtain ⟨k, hk, hk9, rfl, ha, hb0⟩ := hrel
    obtain ⟨x0, x1⟩ := rip_cell hb0
    have hb : Below w.heap.size w wr := (ent_new0 w _).trans (hb0.mono (by simp))
    by_cases hlt : k < es.length
    · by_cases h8 : k ≤ 8
      · have d1 : decide ((k : Int) < (es.length : Int)) = true := by simpa using hlt
        have d2 : decide ((k : Int) ≤ 8) = true := by simp; omega
        obtain ⟨g, a, l, n, m, t, rfl, hg, hek, c0, c1, c2, c3, c4⟩ := (HX.out.below hb).at k hlt
        have hall := all_next es k hlt ha
        have HBk := HBd.out k hlt
        rw [hek] at hall HBk
        have HEk : Hid (∀ w, Calls Tryd.prog 39 #[.agg #[.int .i64 a, .int .i64 l, .int .i64 n, .int .i64 m, .int .i64 t]] w fun r w' => r = .returned (.bool (entB ⟨a, l, n, m, t⟩)) ∧ Below w.heap.size w w') := HE.out ⟨a, l, n, m, t⟩
        have HBk' : Hid (entB ⟨a, l, n, m, t⟩ = false → R = false) := HBk
        clear HE hek HBd HBk
        generalize entB ⟨a, l, n, m, t⟩ = B at *
        go_wp2_with fail
        refine (HEk.out _).mono ?_
        rintro e w1 ⟨rfl, hb1⟩
        have hB1 : Below (w.alloc (.cells #[.int .i64 c, .slice (some ⟨g, 0, none⟩) es.length cap] 24)).heap.size (w.alloc (.cells #[.int .i64 c, .slice (some ⟨g, 0, none⟩) es.length cap] 24)) w1 := hb0.trans (hb1.mono hb0.size)
        clear hb1 HEk c0 c1 c2 c3 c4
        cases B
        · go_wp2
          go_ret
          exact ⟨ret_bool (HBk'.out (by trivial)).symm, (ent_new0 w _).trans (hB1.mono (by simp))⟩
        · go_wp2
          go_roundw
          case rel => exact ⟨k + 1, hlt, by omega, by go_num, hall, hB1⟩
          case measure => simp [intOf]; omega
      · have d1 : decide ((k : Int) < (es.length : Int)) = true := by simpa using hlt
        have d2 : decide ((k : Int) ≤ 8) = false := by simp; omega
        have hR := HNo.out (by omega)
        have d3 : decide ((es.length : Int) ≤ 8) = false := by simp; omega
        go_wp2_with fail
        refine (HC.out _).mono ?_
        rintro e w1 ⟨rfl, rfl⟩
        cases D
        · go_wp2
          go_ret
          exact ⟨ret_bool hR.symm, hb⟩
        · go_wp2
          go_ret
          exact ⟨ret_bool hR.symm, hb⟩
    · obtain rfl : k = es.length := by omega
      rw [List.take_length] at ha
      have d1 : decide ((es.length : Int) < (es.length : Int)) = false := by simp
      by_cases h8 : es.length ≤ 8
      · have hR := HYs.out h8 ha
        have d3 : decide ((es.length : Int) ≤ 8) = true := by simp; omega
        clear hlt
        go_wp2_with fail
        refine (HC.out _).mono ?_
        rintro e w1 ⟨rfl, rfl⟩
        cases D
        · go_wp2
          go_ret
          exact ⟨ret_bool hR.symm, hb⟩
        · go_wp2
          go_ret
          exact ⟨ret_bool hR.symm, hb⟩
      · have hR := HNo.out h8
        have d3 : decide ((es.length : Int) ≤ 8) = false := by simp; omega
        clear hlt
        go_wp2_with fail
        refine (HC.out _).mono ?_
        rintro e w1 ⟨rfl, rfl⟩
        cases D
        · go_wp2
          go_ret
          exact ⟨ret_bool hR.symm, hb⟩
        · go_wp2
          go_ret
          exact ⟨ret_bool hR.symm, hb⟩
end Go.Proofs.YtehiipddbgoajaaDoor
