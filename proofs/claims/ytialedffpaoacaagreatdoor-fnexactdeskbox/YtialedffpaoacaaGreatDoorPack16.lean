/- Texts that stand on each other, in one file: MapN. -/
import Derived.Test.YtialedffpaoacaaGreatDoorPack14
import Derived.Laws.StructEq
import Derived.MapKept
/- A map of routes by their nets, made by the call: what it holds, looked up, put and dropped. -/
namespace Go.Proofs.YtialedffpaoacaaGreatDoor
open Go.RowKit Go.Sort

def zeroR : Rt := ⟨0, 0, 0, 0, 0, 0, 0, 0, false⟩
def isN (a l : Int) (r : Rt) : Bool := a == r.a && l == r.l
theorem netFields : Tryz.prog.underlying 70 = some (.struct (Tryz.prog.fieldsOf 70)) := by kernel_rfl
theorem netHeld : Tryz.prog.stoodInHeld 70 = false := by kernel_rfl
theorem int64Und : Tryz.prog.underlying 2 = some (.int .i64) := by kernel_rfl
theorem netParts : (Tryz.prog.fieldsOf 70).toList.map (fun f => (f.name, f.type, f.offset)) = [("Addr", 2, 0), ("Len", 2, 1)] := by kernel_rfl
theorem list2 {α : Type} {l : List α} (h : l.length = 2) : ∃ x y, l = [x, y] := by
  match l, h with
  | [x, y], _ => exact ⟨x, y, rfl⟩
theorem eqNetRun (a l b m : Int) (w : World) : (Op.equal 70 (netV a l) (netV b m)).run Tryz.prog w = .ok (a == b && l == m) w := by
  unfold netV
  show (Op.equalIn (9999 + 1) _ _ _).run _ _ = _
  rw [run_equalIn_struct w 9999 _ _ _ netFields netHeld]
  have hp := netParts
  generalize (Tryz.prog.fieldsOf 70).toList = fs at hp
  obtain ⟨f, g, rfl⟩ := list2 (l := fs) (by have := congrArg List.length hp; simpa using this)
  · skip
    simp only [List.map_cons, List.map_nil, List.cons.injEq, Prod.mk.injEq, and_true] at hp
    obtain ⟨⟨n1, t1, o1⟩, n2, t2, o2⟩ := hp
    have h1 : f.name ≠ "_" := by rw [n1]; decide
    have h2 : g.name ≠ "_" := by rw [n2]; decide
    have p1 : ∀ (x y : Int) w, (part f.type #[.int .i64 x, .int .i64 y] f.offset).run Tryz.prog w = .ok (.int .i64 x) w := fun x y w => by rw [t1, o1]; kernel_rfl
    have p2 : ∀ (x y : Int) w, (part g.type #[.int .i64 x, .int .i64 y] g.offset).run Tryz.prog w = .ok (.int .i64 y) w := fun x y w => by rw [t2, o2]; kernel_rfl
    have e1 : ∀ (x y : Int) w, (Op.equalIn 9999 f.type (.int .i64 x) (.int .i64 y)).run Tryz.prog w = .ok (x == y) w := fun x y w => by rw [t1]; exact run_equalIn_int w 9998 _ _ _ x y int64Und
    have e2 : ∀ (x y : Int) w, (Op.equalIn 9999 g.type (.int .i64 x) (.int .i64 y)).run Tryz.prog w = .ok (x == y) w := fun x y w => by rw [t2]; exact run_equalIn_int w 9998 _ _ _ x y int64Und
    simp only [Op.eqFields, Sem.run_bind, h1, h2, ne_eq, not_false_eq_true, if_true, p1, p2, e1, e2, Result.andThen_ok, Sem.run_ite, Sem.run_pure]
    cases (a == b) <;> cases (l == m) <;> rfl
theorem checkNet (em : Bool) (a l : Int) (w : World) : (Instr.checkKey em 10000 70 (netV a l)).run Tryz.prog w = .ok () w := by
  unfold netV
  kernel_rfl
/-- Entries that hold the routes rs, each under its net. -/
def Holds (es : List MapEntry) (rs : List Rt) : Prop := es.map (fun e => (e.key, e.val)) = rs.map (fun r => (netV r.a r.l, rtV r))
theorem Holds.nil_iff {es : List MapEntry} {rs : List Rt} (h : Holds es rs) : es.length = rs.length := by
  have := congrArg List.length h; simpa using this
def idxN (rs : List Rt) (a l : Int) : Option Nat := rs.findIdx? (isN a l)
def lookN (rs : List Rt) (a l : Int) : Option Rt := rs.find? (isN a l)
theorem findAsking_run (a l : Int) (w : World) : ∀ (es : List MapEntry) (rs : List Rt) (i : Nat), Holds es rs →
    (Instr.findAsking 70 (netV a l) es i).run Tryz.prog w = .ok ((idxN rs a l).bind fun k => (lookN rs a l).map fun r => (i + k, rtV r)) w
  | [], rs, i, h => by
    have h0 : rs = [] := List.length_eq_zero_iff.1 (by have := h.nil_iff; simpa using this.symm)
    subst h0
    simp [Instr.findAsking, idxN, lookN, Sem.run_pure]
  | e :: es, rs, i, h => by
    match rs, h with
    | [], h => exact absurd h.nil_iff (by simp)
    | r :: rs, h =>
      simp only [Holds, List.map_cons, List.cons.injEq, Prod.mk.injEq] at h
      obtain ⟨⟨hk, hv⟩, ht⟩ := h
      have ih := findAsking_run a l w es rs (i + 1) ht
      simp only [Instr.findAsking, Sem.run_bind, hk, eqNetRun, Result.andThen_ok, Sem.run_ite, Sem.run_pure, hv]
      by_cases hm : (a == r.a && l == r.l) = true
      · rw [if_pos hm]
        have hn : isN a l r = true := hm
        simp [idxN, lookN, List.findIdx?_cons, hn]
      · rw [if_neg hm, ih]
        have hn : isN a l r = false := by simpa [isN] using hm
        congr 1
        simp only [idxN, lookN, List.findIdx?_cons, List.find?_cons, hn, Bool.false_eq_true, if_false, Option.bind_map, Function.comp_def]
        congr 1
        funext k
        congr 1
        funext r'
        rw [show i + 1 + k = i + (k + 1) by omega]
theorem findNow_struct {fs : Array Field} (a l : Int) (e : MapEntry) (es : List MapEntry) (i : Nat) (r : Rt) (h : e.key = netV r.a r.l) : Instr.findNow (.struct fs) (netV a l) (e :: es) i = none := by
  unfold Instr.findNow
  rw [h]
  rfl
theorem findKey_run (a l : Int) (w : World) (es : List MapEntry) (rs : List Rt) (h : Holds es rs) :
    (Instr.findKey 70 (netV a l) es).run Tryz.prog w = .ok ((idxN rs a l).bind fun k => (lookN rs a l).map fun r => (k, rtV r)) w := by
  unfold Instr.findKey
  simp only [Sem.run_bind, run_underlying netFields, Result.andThen_ok]
  match es, rs, h with
  | [], [], _ => simp [Instr.findNow, idxN, lookN]
  | [], _ :: _, h => exact absurd h.nil_iff (by simp)
  | _ :: _, [], h => exact absurd h.nil_iff (by simp)
  | e :: es, r :: rs, h =>
    have hk : e.key = netV r.a r.l := by
      simp only [Holds, List.map_cons, List.cons.injEq, Prod.mk.injEq] at h
      exact h.1.1
    rw [findNow_struct a l e es 0 r hk]
    have := findAsking_run a l w (e :: es) (r :: rs) 0 h
    simpa using this
theorem idx_look (rs : List Rt) (a l : Int) : ((idxN rs a l).isSome = (lookN rs a l).isSome) := by
  unfold idxN lookN
  rw [List.findIdx?_isSome, Bool.eq_iff_iff, List.find?_isSome]
  simp
theorem idx_get {rs : List Rt} {a l : Int} {k : Nat} (h : idxN rs a l = some k) : ∃ hk : k < rs.length, lookN rs a l = some rs[k] ∧ isN a l rs[k] = true ∧ ∀ j (hj : j < k), isN a l (rs[j]'(by omega)) = false := by
  unfold idxN at h
  obtain ⟨hk, h1, h2⟩ := List.findIdx?_eq_some_iff_getElem.1 h
  refine ⟨hk, ?_, h1, fun j hj => by simpa using h2 j hj⟩
  unfold lookN
  rw [List.find?_eq_some_iff_getElem]
  exact ⟨h1, k, hk, rfl, fun j hj => by simpa using h2 j hj⟩
theorem idx_none {rs : List Rt} {a l : Int} (h : idxN rs a l = none) : lookN rs a l = none := by
  have := idx_look rs a l
  rw [h] at this
  cases hl : lookN rs a l with
  | none => rfl
  | some r => rw [hl] at this; cases this
/-- The map in block b holds the routes rs, each under its net, in the order in which they came. -/
def MapIs (w : World) (b : Nat) (rs : List Rt) : Prop := ∃ es clock, w.heap[b]? = some (.map es clock) ∧ Holds es.toList rs ∧ (es.toList.map (·.born)).Pairwise (· < ·) ∧ ∀ e ∈ es.toList, e.born < clock
theorem MapIs.lt {w : World} {b : Nat} {rs : List Rt} (h : MapIs w b rs) : b < w.heap.size := by
  obtain ⟨es, clock, hb, _⟩ := h
  exact (Array.getElem?_eq_some_iff.1 hb).1
theorem MapIs.kept {w w' : World} {b : Nat} {rs : List Rt} (h : MapIs w b rs) (hb : w'.heap[b]? = w.heap[b]?) : MapIs w' b rs := by
  obtain ⟨es, clock, h1, h2⟩ := h
  exact ⟨es, clock, hb.trans h1, h2⟩
theorem MapIs.below {B : Nat} {w w' : World} {b : Nat} {rs : List Rt} (h : MapIs w b rs) (hb : Below B w w') (hlt : b < B) : MapIs w' b rs := h.kept (hb.block b hlt)
theorem MapIs.made (w : World) : MapIs (w.alloc (.map #[] 0)) w.heap.size [] := ⟨#[], 0, heap_alloc_new w _, rfl, by simp, by simp⟩
theorem mapUnd : Tryz.prog.underlying 250 = some (.map 70 144) := by kernel_rfl
theorem zeroRun (w : World) : (zeroValue 144).run Tryz.prog w = .ok (rtV zeroR) w := by kernel_rfl
theorem map_look {w : World} {b : Nat} {rs : List Rt} (h : MapIs w b rs) (a l : Int) :
    (Instr.lookup 250 (.map (some b)) (netV a l) true).run Tryz.prog w = .ok (.tuple #[rtV ((lookN rs a l).getD zeroR), .bool (lookN rs a l).isSome]) w := by
  obtain ⟨es, clock, hb, hh, _, _⟩ := h
  unfold Instr.lookup
  simp only [Sem.run_bind, run_underlying mapUnd, Result.andThen_ok, MapKept.run_getObj_map hb, pure_bind, checkNet, findKey_run a l w es.toList rs hh]
  cases hi : idxN rs a l with
  | none =>
    rw [idx_none hi]
    simp
    rfl
  | some k =>
    obtain ⟨hk, hl, _⟩ := idx_get hi
    rw [hl]
    simp
/-- A route in the place of the one of its net, or behind all. -/
def putN (rs : List Rt) (r : Rt) : List Rt := match idxN rs r.a r.l with | some k => rs.set k r | none => rs ++ [r]
def dropN (rs : List Rt) (a l : Int) : List Rt := match idxN rs a l with | some k => rs.eraseIdx k | none => rs
theorem same_net (a l : Int) : Instr.sameBits 10000 (netV a l) (netV a l) = true := by
  unfold netV
  show (_ && _) = true
  simp [Instr.sameBits]
theorem isN_eq {a l : Int} {r : Rt} (h : isN a l r = true) : r.a = a ∧ r.l = l := by
  simp only [isN, Bool.and_eq_true, beq_iff_eq] at h
  exact ⟨h.1.symm, h.2.symm⟩
theorem Holds.get {es : List MapEntry} {rs : List Rt} (h : Holds es rs) (k : Nat) (hk : k < rs.length) : ∃ e, es[k]? = some e ∧ e.key = netV rs[k].a rs[k].l ∧ e.val = rtV rs[k] := by
  have hl := h.nil_iff
  have hk' : k < es.length := by omega
  refine ⟨es[k], List.getElem?_eq_getElem hk', ?_⟩
  have := congrArg (fun l => l[k]?) h
  simp only [List.getElem?_map, List.getElem?_eq_getElem hk', List.getElem?_eq_getElem hk, Option.map_some, Option.some.injEq, Prod.mk.injEq] at this
  exact this
def setB (w : World) (b : Nat) (o : Obj) : World := { w with heap := w.heap.setIfInBounds b o }
theorem setB_grown {w : World} {b : Nat} (o : Obj) : w.grownBy (setB w b o) (some b) := by
  refine ⟨rfl, rfl, rfl, by simp [setB], fun i _ hi => ?_⟩
  simp only [setB]
  rw [Array.getElem?_setIfInBounds_ne (by intro e; exact hi (by rw [e]))]
theorem setB_at {w : World} {b : Nat} {o : Obj} (h : b < w.heap.size) : (setB w b o).heap[b]? = some o := by
  simp [setB, h]
theorem map_put {w : World} {b : Nat} {rs : List Rt} (h : MapIs w b rs) (r : Rt) :
    ∃ w', (Instr.mapUpdate 250 (.map (some b)) (netV r.a r.l) (rtV r)).run Tryz.prog w = .ok () w' ∧ MapIs w' b (putN rs r) ∧ w.grownBy w' (some b) := by
  have hlt := h.lt
  obtain ⟨es, clock, hb, hh, hp, hc⟩ := h
  unfold Instr.mapUpdate
  simp only [Sem.run_bind, run_underlying mapUnd, Result.andThen_ok, MapKept.run_getObj_map hb, checkNet, findKey_run r.a r.l w es.toList rs hh]
  unfold putN
  cases hi : idxN rs r.a r.l with
  | none =>
    rw [idx_none hi]
    refine ⟨_, MapKept.run_setObj_map _ hb, ⟨_, _, setB_at hlt, ?_, ?_, ?_⟩, setB_grown _⟩
    · simp only [Holds] at hh ⊢
      simp [hh]
    · simp only [Array.toList_push, List.map_append, List.pairwise_append, List.map_cons, List.map_nil]
      refine ⟨hp, by simp, ?_⟩
      intro x hx y hy
      simp only [List.mem_map] at hx
      obtain ⟨e, he, rfl⟩ := hx
      simp only [List.mem_singleton] at hy
      rw [hy]
      exact hc e he
    · intro e he
      simp only [Array.toList_push, List.mem_append, List.mem_singleton] at he
      rcases he with he | rfl
      · have := hc e he; omega
      · show clock < clock + 1; omega
  | some k =>
    obtain ⟨hk, hl, hn, _⟩ := idx_get hi
    obtain ⟨e, he, hek, hev⟩ := hh.get k hk
    obtain ⟨ha, hl'⟩ := isN_eq hn
    rw [hl]
    have hke : ((es[k]?).map (·.key)).getD (netV r.a r.l) = netV r.a r.l := by
      rw [← Array.getElem?_toList, he]
      simp [hek, ha, hl']
    simp only [Option.bind_some, Option.map_some, Sem.run_bind, hke, Instr.keyThatStays, same_net, if_true, Sem.run_pure, Result.andThen_ok]
    refine ⟨_, MapKept.run_setObj_map _ hb, ⟨_, _, setB_at hlt, ?_, ?_, ?_⟩, setB_grown _⟩
    · simp only [Holds] at hh ⊢
      apply List.ext_getElem?
      intro j
      have hj := congrArg (fun l => l[j]?) hh
      simp only [List.getElem?_map] at hj ⊢
      rw [Array.getElem?_toList, Array.getElem?_modify]
      rw [Array.getElem?_toList] at hj
      by_cases hjk : k = j
      · subst hjk
        rw [Array.getElem?_toList] at he
        simp [he, hk]
      · simp [hjk, hj]
    · have e1 : (es.modify k fun e => { e with key := netV r.a r.l, val := rtV r }).toList.map (·.born) = es.toList.map (·.born) := by
        apply List.ext_getElem?
        intro j
        simp only [List.getElem?_map]
        rw [Array.getElem?_toList, Array.getElem?_modify, Array.getElem?_toList]
        by_cases hjk : k = j
        · subst hjk; cases es[k]? <;> simp
        · simp [hjk]
      rw [e1]
      exact hp
    · intro x hx
      obtain ⟨j, hj⟩ := List.mem_iff_getElem?.1 hx
      rw [Array.getElem?_toList, Array.getElem?_modify] at hj
      by_cases hjk : k = j
      · subst hjk
        rw [Array.getElem?_toList] at he
        rw [if_pos rfl, he] at hj
        simp only [Option.map_some, Option.some.injEq] at hj
        rw [← hj]
        exact hc e (List.mem_iff_getElem?.2 ⟨k, by rw [Array.getElem?_toList]; exact he⟩)
      · rw [if_neg hjk] at hj
        exact hc x (List.mem_iff_getElem?.2 ⟨j, by rw [Array.getElem?_toList]; exact hj⟩)
end Go.Proofs.YtialedffpaoacaaGreatDoor
