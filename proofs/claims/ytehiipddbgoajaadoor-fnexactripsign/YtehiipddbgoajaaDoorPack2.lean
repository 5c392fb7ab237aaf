/- Texts that stand on each other, in one file: RipR, Words, Appends, RipI, SliceT, SignI, MaskS, WordS, FourS, RipS, SignS, LaidKeys. -/
import Derived.Test.YtehiipddbgoajaaDoorPack1
import Derived.Test.YtehiipddbgoajaaDoorOwnV
import Derived.Test.YtehiipddbgoajaaDoorBaseB
import Derived.Laws.ShiftsVarLaws
import Derived.OwnWalk
import Derived.Lib.AppendStr
import Derived.Test.YtehiipddbgoajaaDoorMacI
import Derived.Test.YtehiipddbgoajaaDoorJoined
import Derived.Test.YtehiipddbgoajaaDoorMacS
import Derived.Test.YtehiipddbgoajaaDoorWithBlock
import Derived.Lib.LaidTab
/- Is a Rip right? Asked by the program and by the model. -/
namespace Go.Proofs.YtehiipddbgoajaaDoor
open Go.RowKit Go.Sort

theorem ripB_all {c : Int} {es : List Ent} (hc : c = 1 ∨ c = 2) (hl : es.length ≤ 8) : ripB c es = es.all entB := by simp [ripB, hc, hl]
theorem ripB_long {c : Int} {es : List Ent} (hl : ¬ es.length ≤ 8) : ripB c es = false := by simp [ripB, hl]
theorem ripB_cmd {c : Int} {es : List Ent} (hc : ¬ (c = 1 ∨ c = 2)) : ripB c es = false := by unfold ripB; rw [decide_eq_false hc]; rfl
theorem rip_cell {w w1 : World} {x y : Value} {t : TypeId} (hb : Below (w.alloc (.cells #[x, y] t)).heap.size (w.alloc (.cells #[x, y] t)) w1) : w1.cell? ⟨w.heap.size, 0, none⟩ = some x ∧ w1.cell? ⟨w.heap.size, 1, none⟩ = some y := by
  obtain ⟨h0, h1, _⟩ := cell2_later rfl hb
  exact ⟨h0, h1⟩
set_option maxRecDepth 100000 in
theorem implRipRight_any (c : Int) (p : Option Addr) (cap : Nat) (es : List Ent) (w : World) (h : EntsIn w p es) (hn : es.length ≤ 100000000) :
    Calls Tryd.prog 54 #[ripV c p es.length cap] w fun e w' => e = .returned (.bool (ripB c es)) ∧ Below w.heap.size w w' := by
  have HE : Hid (∀ e w, Calls Tryd.prog 70 #[entV e] w fun r w' => r = .returned (.bool (entB e)) ∧ Below w.heap.size w w') := implEntryRight_any
  unfold ripV
  by_cases hl : es.length ≤ 8
  · by_cases hc : c = 1 ∨ c = 2
    · have HR : Hid (ripB c es = es.all entB) := ripB_all hc hl
      have HX : Hid (EntsIn w p es) := h
      have d8 : decide (8 < (es.length : Int)) = false := by simp; omega
      clear h
      generalize ripB c es = R at *
      rcases hc with rfl | rfl
      all_goals
        go_enter Tryd.func54, Tryd.ntmps54
        go_wp2_with fail
        go_loopw [22] (fun i wr => ∃ k : Nat, k ≤ es.length ∧ i = .int .i64 k ∧ (es.take k).all entB = true ∧ Below w.heap.size w wr) (fun i _ => es.length - (intOf i).toNat)
        case atStart => exact ⟨0, Nat.zero_le _, rfl, rfl, ent_new0 w _⟩
        case round =>
          obtain ⟨k, hk, rfl, ha, hb⟩ := hrel
          by_cases hlt : k < es.length
          · obtain ⟨g, a, l, n, m, t, rfl, hg, hek, c0, c1, c2, c3, c4⟩ := (HX.out.below hb).at k hlt
            have hall := all_next es k hlt ha
            have HBd : Hid (entB es[k] = false → R = false) := fun hf => by rw [HR.out]; exact all_bad es k hlt hf
            rw [hek] at hall HBd
            have HEk : Hid (∀ w, Calls Tryd.prog 70 #[.agg #[.int .i64 a, .int .i64 l, .int .i64 n, .int .i64 m, .int .i64 t]] w fun r w' => r = .returned (.bool (entB ⟨a, l, n, m, t⟩)) ∧ Below w.heap.size w w') := HE.out ⟨a, l, n, m, t⟩
            clear HE hek
            generalize entB ⟨a, l, n, m, t⟩ = B at *
            go_wp2_with fail
            refine (HEk.out _).mono ?_
            rintro e w1 ⟨rfl, hb1⟩
            have hB1 : Below w.heap.size w w1 := hb.trans (((ent_new0 wr _).trans (hb1.mono (by simp))).mono hb.size)
            clear hb1 HEk c0 c1 c2 c3 c4
            cases B
            · go_wp2
              go_ret
              exact ⟨ret_bool (HBd.out (by trivial)).symm, hB1⟩
            · go_wp2
              go_roundw
              case rel => exact ⟨k + 1, hlt, by go_num, hall, hB1⟩
              case measure => simp [intOf]; omega
          · obtain rfl : k = es.length := by omega
            rw [List.take_length] at ha
            go_wp2
            go_ret
            exact ⟨ret_bool (by rw [HR.out, ha]), hb⟩
    · rw [ripB_cmd hc]
      have b1 : (c != 1) = true := by simp; omega
      have b2 : (c != 2) = true := by simp; omega
      go_enter Tryd.func54, Tryd.ntmps54
      go_wp2
      go_ret
      exact ⟨rfl, ent_new0 w _⟩
  · rw [ripB_long hl]
    have d8 : decide (8 < (es.length : Int)) = true := by simp; omega
    by_cases h1 : c = 1
    · subst h1
      go_enter Tryd.func54, Tryd.ntmps54
      go_wp2
      go_ret
      exact ⟨rfl, ent_new0 w _⟩
    · have b1 : (c != 1) = true := by simpa using h1
      by_cases h2 : c = 2
      · subst h2
        go_enter Tryd.func54, Tryd.ntmps54
        go_wp2
        go_ret
        exact ⟨rfl, ent_new0 w _⟩
      · have b2 : (c != 2) = true := by simpa using h2
        go_enter Tryd.func54, Tryd.ntmps54
        go_wp2
        go_ret
        exact ⟨rfl, ent_new0 w _⟩
set_option maxRecDepth 100000 in
theorem specRipRight_any (c : Int) (p : Option Addr) (cap : Nat) (es : List Ent) (w : World) (h : EntsIn w p es) (hn : es.length ≤ 100000000) :
    Calls Tryd.prog 23 #[ripV c p es.length cap] w fun e w' => e = .returned (.bool (ripB c es)) ∧ Below w.heap.size w w' := by
  have HE : Hid (∀ e w, Calls Tryd.prog 39 #[entV e] w fun r w' => r = .returned (.bool (entB e)) ∧ Below w.heap.size w w') := specEntryRight_any
  have HC : Hid (∀ w, Calls Tryd.prog 25 #[.int .i64 c, .int .i64 1, .int .i64 2] w fun e w' => e = .returned (.bool (decide (1 ≤ c ∧ c ≤ 2))) ∧ w = w') := l03Is_any c 1 2
  have HBd : Hid (∀ k (hk : k < es.length), entB es[k] = false → ripB c es = false) := fun k hk hf => ripB_bad c es k hk hf
  have HYs : Hid (es.length ≤ 8 → es.all entB = true → ripB c es = decide (1 ≤ c ∧ c ≤ 2)) := fun h1 h2 => by
    unfold ripB
    rw [h2]
    by_cases hc : c = 1 ∨ c = 2
    · simp [h1, hc]; omega
    · have e1 : decide (1 ≤ c ∧ c ≤ 2) = false := by simp; omega
      rw [decide_eq_false hc, e1]; rfl
  have HNo : Hid (¬ es.length ≤ 8 → ripB c es = false) := fun h1 => ripB_long h1
  have HX : Hid (EntsIn w p es) := h
  unfold ripV
  generalize ripB c es = R at *
  generalize decide (1 ≤ c ∧ c ≤ 2) = D at *
  clear h
  go_enter Tryd.func23, Tryd.ntmps23
  go_wp2_with fail
  go_loopw [3] (fun i wr => ∃ k : Nat, k ≤ es.length ∧ k ≤ 9 ∧ i = .int .i64 k ∧ (es.take k).all entB = true ∧ Below (w.alloc (.cells #[.int .i64 c, .slice p es.length cap] 24)).heap.size (w.alloc (.cells #[.int .i64 c, .slice p es.length cap] 24)) wr) (fun i _ => es.length - (intOf i).toNat)
  case atStart => exact ⟨0, Nat.zero_le _, by omega, rfl, rfl, Below.refl _ _⟩
  case round =>
    obtain ⟨k, hk, hk9, rfl, ha, hb0⟩ := hrel
    obtain ⟨x0, x1⟩ := rip_cell hb0
    have hb : Below w.heap.size w wr := (ent_new0 w _).trans (hb0.mono (by simp))
    by_cases hlt : k < es.length
    · by_cases h8 : k ≤ 8
      · have d1 : decide ((k : Int) < (es.length : Int)) = true := by simpa using hlt
        have d2 : decide ((k : Int) ≤ 8) = true := by simp; omega
        obtain ⟨g, a, l, n, m, t, rfl, hg, hek, c0, c1, c2, c3, c4⟩ := (HX.out.below hb).at k hlt
        have hall := all_next es k hlt ha
        have HBk := HBd.out k hlt
        rw [hek] at hall HBk
        have HEk : Hid (∀ w, Calls Tryd.prog 39 #[.agg #[.int .i64 a, .int .i64 l, .int .i64 n, .int .i64 m, .int .i64 t]] w fun r w' => r = .returned (.bool (entB ⟨a, l, n, m, t⟩)) ∧ Below w.heap.size w w') := HE.out ⟨a, l, n, m, t⟩
        have HBk' : Hid (entB ⟨a, l, n, m, t⟩ = false → R = false) := HBk
        clear HE hek HBd HBk
        generalize entB ⟨a, l, n, m, t⟩ = B at *
        go_wp2_with fail
        refine (HEk.out _).mono ?_
        rintro e w1 ⟨rfl, hb1⟩
        have hB1 : Below (w.alloc (.cells #[.int .i64 c, .slice (some ⟨g, 0, none⟩) es.length cap] 24)).heap.size (w.alloc (.cells #[.int .i64 c, .slice (some ⟨g, 0, none⟩) es.length cap] 24)) w1 := hb0.trans (hb1.mono hb0.size)
        clear hb1 HEk c0 c1 c2 c3 c4
        cases B
        · go_wp2
          go_ret
          exact ⟨ret_bool (HBk'.out (by trivial)).symm, (ent_new0 w _).trans (hB1.mono (by simp))⟩
        · go_wp2
          go_roundw
          case rel => exact ⟨k + 1, hlt, by omega, by go_num, hall, hB1⟩
          case measure => simp [intOf]; omega
      · have d1 : decide ((k : Int) < (es.length : Int)) = true := by simpa using hlt
        have d2 : decide ((k : Int) ≤ 8) = false := by simp; omega
        have hR := HNo.out (by omega)
        have d3 : decide ((es.length : Int) ≤ 8) = false := by simp; omega
        go_wp2_with fail
        refine (HC.out _).mono ?_
        rintro e w1 ⟨rfl, rfl⟩
        cases D
        · go_wp2
          go_ret
          exact ⟨ret_bool hR.symm, hb⟩
        · go_wp2
          go_ret
          exact ⟨ret_bool hR.symm, hb⟩
    · obtain rfl : k = es.length := by omega
      rw [List.take_length] at ha
      have d1 : decide ((es.length : Int) < (es.length : Int)) = false := by simp
      by_cases h8 : es.length ≤ 8
      · have hR := HYs.out h8 ha
        have d3 : decide ((es.length : Int) ≤ 8) = true := by simp; omega
        clear hlt
        go_wp2_with fail
        refine (HC.out _).mono ?_
        rintro e w1 ⟨rfl, rfl⟩
        cases D
        · go_wp2
          go_ret
          exact ⟨ret_bool hR.symm, hb⟩
        · go_wp2
          go_ret
          exact ⟨ret_bool hR.symm, hb⟩
      · have hR := HNo.out h8
        have d3 : decide ((es.length : Int) ≤ 8) = false := by simp; omega
        clear hlt
        go_wp2_with fail
        refine (HC.out _).mono ?_
        rintro e w1 ⟨rfl, rfl⟩
        cases D
        · go_wp2
          go_ret
          exact ⟨ret_bool hR.symm, hb⟩
        · go_wp2
          go_ret
          exact ⟨ret_bool hR.symm, hb⟩
end Go.Proofs.YtehiipddbgoajaaDoor
/- Words put together, of the program. -/
namespace Go.Proofs.YtehiipddbgoajaaDoor
open Go.RowKit

def valsN (l : List Int) : List Value := l.map (Value.int .i64)
theorem valsN_length (l : List Int) : (valsN l).length = l.length := by simp [valsN]
theorem word_cells (n : Int) : cellsB (wordL n) = [.int .u8 (n / 256 % 256), .int .u8 (n % 256)] := by
  have e0 : ((UInt8.ofNat (n / 256 % 256).toNat).toNat : Int) = n / 256 % 256 := byte_of_int _ (by omega) (by omega)
  have e1 : ((UInt8.ofNat (n % 256).toNat).toNat : Int) = n % 256 := byte_of_int _ (by omega) (by omega)
  simp only [wordL, cellsB, List.map_cons, List.map_nil, e0, e1]
theorem words_next (ns : List Int) (k : Nat) (h : k < ns.length) : wordsL (ns.take (k + 1)) = wordsL (ns.take k) ++ wordL ns[k] := by
  rw [List.take_succ_eq_append_getElem h, wordsL_append]; simp [wordsL]
set_option maxRecDepth 100000 in
theorem implWords_any (ns : List Int) (g cap : Nat) (w : World) (hr : Row w g 2 (valsN ns)) (hc : cap = ns.length) (hn : ns.length ≤ 1000) (hw : ∀ n ∈ ns, (-9223372036854775808 : Int) ≤ n ∧ n ≤ 9223372036854775807) :
    Calls Tryd.prog 46 #[.slice (some ⟨g, 0, none⟩) ns.length cap] w fun e w' => ∃ v, e = .returned v ∧ Own w' w.heap.size 5 v (cellsB (wordsL ns)) ∧ Below w.heap.size w w' := by
  obtain ⟨i0, hi0, hz0, hz1, hz2⟩ := info_parts Tryd.infoB
  have hw2 := wrap_i64_in (2 * (ns.length : Int)) (by omega) (by omega)
  subst hc
  go_enter Tryd.func46, Tryd.ntmps46
  go_wp2_with (at_make; refine wpList_make_own _ rfl _ _ 61 rfl w.heap.size 5 i0 (.int .u8 0) 1 Tryd.underlying61 hi0 hz0 hz1 .i64 .i64 (2 * (ns.length : Int)) (2 * ns.length) rfl rfl (by omega) (by rw [hz2]; omega) (by unfold maxLen; omega) (Nat.le_refl _) ?_)
  intro w1 hown hgrow
  have hb1 : Below w.heap.size w w1 := (Below.refl _ _).grown hgrow (Nat.le_refl _) (by intro k hk; cases hk)
  have hown1 : Own w1 w.heap.size 5 (.slice (some ⟨w.heap.size, 0, none⟩) 0 (2 * ns.length)) (cellsB (wordsL (ns.take 0))) := hown
  clear hown hgrow hw2 hi0 hz0 hz1 hz2
  go_wp2_with fail
  go_loopw [3, 12] (fun v i wr => ∃ k : Nat, k ≤ ns.length ∧ i = .int .i64 k ∧ Own wr w.heap.size 5 v (cellsB (wordsL (ns.take k))) ∧ Below w.heap.size w wr) (fun _ i _ => ns.length - (intOf i).toNat)
  case atStart => exact ⟨0, by omega, rfl, hown1, hb1⟩
  case round =>
    clear hown1 hb1
    obtain ⟨k, hk, rfl, hown, hbel⟩ := hrel
    have hsz := hbel.size
    by_cases hlt : k < ns.length
    · have hr2 := hr.below hbel hr.lt
      have HT : Hid (wordsL (ns.take (k + 1)) = wordsL (ns.take k) ++ wordL ns[k]) := words_next ns k hlt
      have hc := hr2.cell k
      have hkn : (valsN ns)[k]? = some (.int .i64 ns[k]) := by simp [valsN, hlt]
      rw [hkn] at hc
      have hx := hw ns[k] (List.getElem_mem hlt)
      have hol : (wordsL (ns.take k)).length ≤ 2000 := by rw [wordsL_length, List.length_take]; omega
      clear hkn hr2 hr hw
      generalize ns[k] = x at *
      generalize wordsL (ns.take k) = l at *
      go_wp2_with (at_builtin; refine wpList_append_vals rfl _ _ 61 rfl w.heap.size 5 Tryd.underlying61 (.int .u8 0) rfl 1 (by omega) Tryd.infoB _ (cellsB l) (cellsB (wordL x)) rfl (hown.alloc _) wr.heap.size 2 rfl ?c1 ?c2 ?c3 ?c4 ?_)
      case c1 =>
        rw [word_cells x]
        intro i u hu
        rw [(Row.new wr 5 [.int .u8 (x / 256 % 256), .int .u8 (x % 256)]).cell i]
        exact hu
      case c2 => exact cellsB_one _
      case c3 => simp [cellsB_length, wordL]; omega
      case c4 => simp; omega
      · intro v' w4 hown4 hbel4
        rw [← cellsB_append, ← HT.out] at hown4
        go_wp2
        go_roundw
        case rel => exact ⟨k + 1, by omega, by go_num, hown4, (hbel.alloc hsz _).trans hbel4⟩
        case measure => simp [intOf]; omega
    · obtain rfl : k = ns.length := by omega
      rw [List.take_length] at hown
      go_wp2
      go_ret
      exact ⟨_, rfl, hown, hbel⟩
end Go.Proofs.YtehiipddbgoajaaDoor
/- Appending to a row of the call's own, as one step of a region. -/
namespace Go.Proofs.YtehiipddbgoajaaDoor
open Go.RowKit

theorem strCells_eq (s : ByteArray) : Go.Lib.strCells s = cellsB s.data.toList := rfl
theorem run_append_str {P : Program} (w : World) (base : Nat) (t u ty e : TypeId) (ht : P.underlying t = some (.slice e)) (hu : P.underlying u = some .string) (hi : (P.info? e).map (fun i => (i.zero, i.size, i.bytes)) = some (some (.int .u8 0), 1, 1))
    (v : Value) (l : List UInt8) (hown : Own w base e v (cellsB l)) (s : ByteArray) (hlen : l.length + s.size ≤ 1000000000) (hbase : base ≤ w.heap.size) :
    ∃ v' w', (Builtin.append_ #[t, u] ty #[v, .string s]).run P w = .ok v' w' ∧ Own w' base e v' (cellsB (l ++ s.data.toList)) ∧ Below base w w' := by
  obtain ⟨i0, hi0, hz0, hz1, hz2⟩ := info_parts hi
  have ho : w.ownsRow base e 1 v l.length (cellsB l) := by unfold Own at hown; rwa [cellsB_length] at hown
  obtain ⟨v', w', hr, h2, h3, _⟩ := Go.Lib.run_append_own_string (P := P) (w := w) base t u ty e i0 ht hu hi0 hz0 hz1 hz2 v l.length (cellsB l) ho s (by unfold maxLen; omega) (by omega) hbase
  refine ⟨v', w', hr, ?_, (Below.refl base w).grown h3 hbase fun k hk => (World.ownsRow.lt ho k hk).1⟩
  unfold Own
  rw [cellsB_append, List.length_append, cellsB_length, cellsB_length, ← strCells_eq, show s.data.toList.length = s.size by simp]
  exact h2
theorem run_append_own' {P : Program} (w : World) (base : Nat) (t ty e : TypeId) (ht : P.underlying t = some (.slice e)) (hi : (P.info? e).map (fun i => (i.zero, i.size, i.bytes)) = some (some (.int .u8 0), 1, 1))
    (v : Value) (l m : List UInt8) (hown : Own w base e v (cellsB l)) (g o c : Nat) (hc : ∀ j u, (cellsB m)[j]? = some u → w.cell? ⟨g, o + j, none⟩ = some u) (hlen : l.length + m.length ≤ 1000000000) (hbase : base ≤ w.heap.size) :
    ∃ v' w', (Builtin.append_ #[t, t] ty #[v, .slice (some ⟨g, o, none⟩) m.length c]).run P w = .ok v' w' ∧ Own w' base e v' (cellsB (l ++ m)) ∧ Below base w w' := by
  obtain ⟨i0, hi0, hz0, hz1, hz2⟩ := info_parts hi
  have ho : w.ownsRow base e 1 v l.length (cellsB l) := by unfold Own at hown; rwa [cellsB_length] at hown
  have hcc : ∀ j u, (cellsB m)[j]? = some u → w.cell? ((⟨g, o, none⟩ : Addr).add j) = some u := fun j u hj => by
    rw [show (⟨g, o, none⟩ : Addr).add j = ⟨g, o + j, none⟩ by unfold Addr.add; split <;> simp_all]; exact hc j u hj
  obtain ⟨v', w', hr, h2, h3, _⟩ := run_append_own (P := P) w base t ty e i0 (.int .u8 0) 1 1 ht hi0 hz0 hz1 hz2 rfl (by decide) v l.length (cellsB l) ho ⟨g, o, none⟩ m.length c (cellsB m) (by simp [cellsB_length]) hcc (cellsB_one _) (by unfold maxLen; omega) (by omega) hbase
  refine ⟨v', w', hr, ?_, (Below.refl base w).grown h3 hbase fun k hk => (World.ownsRow.lt ho k hk).1⟩
  unfold Own
  rw [cellsB_append, List.length_append, cellsB_length, cellsB_length]
  exact h2
/-- 'append(v, s...)', s a text. -/
theorem step_append_str {P : Program} {ops : Array Oper} {o : Oper} {a : Act} {w : World} {K : Act → World → Prop} {Q : Exit → Act → World → Prop} {E : Prop} (hg : o.guard = none) (sl x : Operand) (t u : TypeId)
    (hop : o.op = .call { callee := .builtin .append, args := #[sl, x], argTypes := #[t, u] }) (base : Nat) (e : TypeId) (ht : P.underlying t = some (.slice e)) (hu : P.underlying u = some .string) (hi : (P.info? e).map (fun i => (i.zero, i.size, i.bytes)) = some (some (.int .u8 0), 1, 1))
    (v : Value) (l : List UInt8) (hs : a.eval sl = v) (hown : Own w base e v (cellsB l)) (s : ByteArray) (hx : a.eval x = .string s) (hlen : l.length + s.size ≤ 1000000000) (hbase : base ≤ w.heap.size)
    (h : ∀ v' w', Own w' base e v' (cellsB (l ++ s.data.toList)) → Below base w w' → K (a.put o.dst v') w') : if Region.wanted o (yielded ops a.tmps) = true then Oper.wp P o a w K Q else E := by
  have hw : Region.wanted o (yielded ops a.tmps) = true := by simp [Region.wanted, hg]
  rw [if_pos hw]
  obtain ⟨v', w', hr, h2, h3⟩ := run_append_str (P := P) w base t u o.type e ht hu hi v l hown s hlen hbase
  unfold Oper.wp execOp
  simp only [hop, resolve, invoke, builtin, Sem.run_bind, Sem.run_pure, Result.andThen_ok, List.map_toArray, List.map_cons, List.map_nil, hs, hx, hr]
  exact h v' w' h2 h3
/-- 'append(v, x...)', x bytes that lie somewhere. -/
theorem step_append_own {P : Program} {ops : Array Oper} {o : Oper} {a : Act} {w : World} {K : Act → World → Prop} {Q : Exit → Act → World → Prop} {E : Prop} (hg : o.guard = none) (sl x : Operand) (t : TypeId)
    (hop : o.op = .call { callee := .builtin .append, args := #[sl, x], argTypes := #[t, t] }) (base : Nat) (e : TypeId) (ht : P.underlying t = some (.slice e)) (hi : (P.info? e).map (fun i => (i.zero, i.size, i.bytes)) = some (some (.int .u8 0), 1, 1))
    (v : Value) (l m : List UInt8) (hs : a.eval sl = v) (hown : Own w base e v (cellsB l)) (g of c : Nat) (hx : a.eval x = .slice (some ⟨g, of, none⟩) m.length c) (hc : ∀ j u, (cellsB m)[j]? = some u → w.cell? ⟨g, of + j, none⟩ = some u) (hlen : l.length + m.length ≤ 1000000000) (hbase : base ≤ w.heap.size)
    (h : ∀ v' w', Own w' base e v' (cellsB (l ++ m)) → Below base w w' → K (a.put o.dst v') w') : if Region.wanted o (yielded ops a.tmps) = true then Oper.wp P o a w K Q else E := by
  have hw : Region.wanted o (yielded ops a.tmps) = true := by simp [Region.wanted, hg]
  rw [if_pos hw]
  obtain ⟨v', w', hr, h2, h3⟩ := run_append_own' (P := P) w base t o.type e ht hi v l m hown g of c hc hlen hbase
  unfold Oper.wp execOp
  simp only [hop, resolve, invoke, builtin, Sem.run_bind, Sem.run_pure, Result.andThen_ok, List.map_toArray, List.map_cons, List.map_nil, hs, hx, hr]
  exact h v' w' h2 h3
theorem wpList_append_str {P : Program} {w : World} {ops : Array Oper} {rest : List Oper} {o : Oper} {a : Act} {Q : Exit → Act → World → Prop} (hgd : o.guard = none) (sl x : Operand) (t u : TypeId)
    (hop : o.op = .call { callee := .builtin .append, args := #[sl, x], argTypes := #[t, u] }) (base : Nat) (e : TypeId) (ht : P.underlying t = some (.slice e)) (hu : P.underlying u = some .string) (hi : (P.info? e).map (fun i => (i.zero, i.size, i.bytes)) = some (some (.int .u8 0), 1, 1))
    (v : Value) (l : List UInt8) (hs : a.eval sl = v) (hown : Own w base e v (cellsB l)) (s : ByteArray) (hx : a.eval x = .string s) (hlen : l.length + s.size ≤ 1000000000) (hbase : base ≤ w.heap.size)
    (h : ∀ v' w', Own w' base e v' (cellsB (l ++ s.data.toList)) → Below base w w' → wpList P ops Q rest (a.put o.dst v') w') : wpList P ops Q (o :: rest) a w := by
  refine wpList_plain hgd fun K hK => ?_
  obtain ⟨v', w', hr, h2, h3⟩ := run_append_str (P := P) w base t u o.type e ht hu hi v l hown s hlen hbase
  unfold Oper.wp execOp
  simp only [hop, resolve, invoke, builtin, Sem.run_bind, Sem.run_pure, Result.andThen_ok, List.map_toArray, List.map_cons, List.map_nil, hs, hx, hr]
  exact hK _ _ (h v' w' h2 h3)
theorem wpList_append_bytes {P : Program} {w : World} {ops : Array Oper} {rest : List Oper} {o : Oper} {a : Act} {Q : Exit → Act → World → Prop} (hgd : o.guard = none) (sl x : Operand) (t : TypeId)
    (hop : o.op = .call { callee := .builtin .append, args := #[sl, x], argTypes := #[t, t] }) (base : Nat) (e : TypeId) (ht : P.underlying t = some (.slice e)) (hi : (P.info? e).map (fun i => (i.zero, i.size, i.bytes)) = some (some (.int .u8 0), 1, 1))
    (v : Value) (l m : List UInt8) (hs : a.eval sl = v) (hown : Own w base e v (cellsB l)) (g of c : Nat) (hx : a.eval x = .slice (some ⟨g, of, none⟩) m.length c) (hc : ∀ j u, (cellsB m)[j]? = some u → w.cell? ⟨g, of + j, none⟩ = some u) (hlen : l.length + m.length ≤ 1000000000) (hbase : base ≤ w.heap.size)
    (h : ∀ v' w', Own w' base e v' (cellsB (l ++ m)) → Below base w w' → wpList P ops Q rest (a.put o.dst v') w') : wpList P ops Q (o :: rest) a w := by
  refine wpList_plain hgd fun K hK => ?_
  obtain ⟨v', w', hr, h2, h3⟩ := run_append_own' (P := P) w base t o.type e ht hi v l m hown g of c hc hlen hbase
  unfold Oper.wp execOp
  simp only [hop, resolve, invoke, builtin, Sem.run_bind, Sem.run_pure, Result.andThen_ok, List.map_toArray, List.map_cons, List.map_nil, hs, hx, hr]
  exact hK _ _ (h v' w' h2 h3)
theorem wpList_append_ran {P : Program} {w : World} {ops : Array Oper} {rest : List Oper} {o : Oper} {a : Act} {Q : Exit → Act → World → Prop} (hgd : o.guard = none) (s x : Operand) (t : TypeId)
    (ho : o.op = .call { callee := .builtin .append, args := #[s, x], argTypes := #[t, t] }) (vs vx : Value) (hs : a.eval s = vs) (hx : a.eval x = vx)
    {v' : Value} {w' : World} (hr : (Builtin.append_ #[t, t] o.type #[vs, vx]).run P w = .ok v' w') (h : wpList P ops Q rest (a.put o.dst v') w') : wpList P ops Q (o :: rest) a w := by
  refine wpList_plain hgd fun K hK => ?_
  unfold Oper.wp execOp
  simp only [ho, resolve, invoke, builtin, Sem.run_bind, Sem.run_pure, Result.andThen_ok, List.map_toArray, List.map_cons, List.map_nil, hs, hx, hr]
  exact hK _ _ h
end Go.Proofs.YtehiipddbgoajaaDoor
/- What routers say in bytes, of the program. -/
namespace Go.Proofs.YtehiipddbgoajaaDoor
open Go.RowKit Go.Sort

theorem in_i64 (x : Int) (h0 : 0 ≤ x) (h1 : x ≤ 4294967295) : (-9223372036854775808 : Int) ≤ x ∧ x ≤ 9223372036854775807 := by omega
theorem or_two (c : Int) (h : c = 1 ∨ c = 2) : bits .or .i64 (c * 256) 2 = c * 256 + 2 := by
  rcases h with rfl | rfl <;> rfl
theorem entNs_all (a l n m t : Int) (ha : 0 ≤ a ∧ a ≤ 4294967295) (hn : 0 ≤ n ∧ n ≤ 4294967295) (hm : 1 ≤ m ∧ m ≤ 16) (ht : 0 ≤ t ∧ t ≤ 65535) :
    ∀ x ∈ ([2, t, a / 65536, a, maskV l / 65536, maskV l, n / 65536, n, 0, m] : List Int), (-9223372036854775808 : Int) ≤ x ∧ x ≤ 9223372036854775807 := by
  have := maskV_range l
  exact List.forall_mem_cons.2 ⟨in_i64 _ (by omega) (by omega), List.forall_mem_cons.2 ⟨in_i64 _ (by omega) (by omega), List.forall_mem_cons.2 ⟨in_i64 _ (by omega) (by omega), List.forall_mem_cons.2 ⟨in_i64 _ (by omega) (by omega), List.forall_mem_cons.2 ⟨in_i64 _ (by omega) (by omega), List.forall_mem_cons.2 ⟨in_i64 _ (by omega) (by omega), List.forall_mem_cons.2 ⟨in_i64 _ (by omega) (by omega), List.forall_mem_cons.2 ⟨in_i64 _ (by omega) (by omega), List.forall_mem_cons.2 ⟨in_i64 _ (by omega) (by omega), List.forall_mem_cons.2 ⟨in_i64 _ (by omega) (by omega), by simp⟩⟩⟩⟩⟩⟩⟩⟩⟩⟩
set_option maxRecDepth 100000 in
set_option maxHeartbeats 1000000 in
theorem implEntryPut_any (e : Ent) (w : World) (he : entB e = true) :
    Calls Tryd.prog 62 #[entV e] w fun r w' => ∃ v, r = .returned v ∧ Own w' w.heap.size 5 v (cellsB (entBy e)) ∧ Below w.heap.size w w' := by
  obtain ⟨a, l, n, m, t⟩ := e
  obtain ⟨ha, hl, _, hn, hm, ht⟩ := entB_spec he
  have hall := entNs_all a l n m t ha hn hm ht
  have HM : Hid (∀ w, Calls Tryd.prog 74 #[.int .i64 l] w fun e w' => e = .returned (.int .i64 (maskV l)) ∧ w = w') := implMask_any l
  have HW : Hid (∀ (W : World) g, Row W g 2 (valsN [2, t, a / 65536, a, maskV l / 65536, maskV l, n / 65536, n, 0, m]) → Calls Tryd.prog 46 #[.slice (some ⟨g, 0, none⟩) 10 10] W fun e w' => ∃ u, e = .returned u ∧ Own w' W.heap.size 5 u (cellsB (entBy ⟨a, l, n, m, t⟩)) ∧ Below W.heap.size W w') :=
    fun W g hr => implWords_any [2, t, a / 65536, a, maskV l / 65536, maskV l, n / 65536, n, 0, m] g 10 W hr rfl (by simp) hall
  have hmr := maskV_range l
  generalize entBy ⟨a, l, n, m, t⟩ = EB at *
  unfold entV
  simp only
  generalize maskV l = M at *
  clear hall he
  go_enter Tryd.func62, Tryd.ntmps62
  go_wp2_with fail
  refine (HM.out _).mono ?_
  rintro e w1 ⟨rfl, rfl⟩
  go_wp2_with fail
  have hrow : Row ((w.alloc (.cells #[.int .i64 a, .int .i64 l, .int .i64 n, .int .i64 m, .int .i64 t] 44)).alloc (.cells #[.int .i64 2, .int .i64 t, .int .i64 (a / 65536), .int .i64 a, .int .i64 (M / 65536), .int .i64 M, .int .i64 (n / 65536), .int .i64 n, .int .i64 0, .int .i64 m] 2)) (w.heap.size + 1) 2 [.int .i64 2, .int .i64 t, .int .i64 (a / 65536), .int .i64 a, .int .i64 (M / 65536), .int .i64 M, .int .i64 (n / 65536), .int .i64 n, .int .i64 0, .int .i64 m] := by
    have h := Row.new (w.alloc (.cells #[.int .i64 a, .int .i64 l, .int .i64 n, .int .i64 m, .int .i64 t] 44)) 2 [.int .i64 2, .int .i64 t, .int .i64 (a / 65536), .int .i64 a, .int .i64 (M / 65536), .int .i64 M, .int .i64 (n / 65536), .int .i64 n, .int .i64 0, .int .i64 m]
    rwa [show (w.alloc (.cells #[.int .i64 a, .int .i64 l, .int .i64 n, .int .i64 m, .int .i64 t] 44)).heap.size = w.heap.size + 1 by simp] at h
  refine (HW.out _ _ hrow).mono ?_
  rintro e w1 ⟨u, rfl, ho, hb⟩
  have hB : Below w.heap.size w w1 := ((ent_new0 w (.cells #[.int .i64 a, .int .i64 l, .int .i64 n, .int .i64 m, .int .i64 t] 44)).alloc (by simp) _).trans (hb.mono (by simp; omega))
  go_wp2
  go_ret
  exact ⟨_, rfl, ho.mono (by simp; omega), hB⟩
set_option maxRecDepth 100000 in
set_option maxHeartbeats 1000000 in
theorem implRipBytes_any (c : Int) (p : Option Addr) (cap : Nat) (es : List Ent) (w : World) (h : EntsIn w p es) (hn : es.length ≤ 100000000) :
    Calls Tryd.prog 44 #[ripV c p es.length cap] w fun e w' => e = .returned (.string (ripO c es)) ∧ Below w.heap.size w w' := by
  have HR : Hid (∀ w, EntsIn w p es → Calls Tryd.prog 54 #[ripV c p es.length cap] w fun e w' => e = .returned (.bool (ripB c es)) ∧ Below w.heap.size w w') := fun w h => implRipRight_any c p cap es w h hn
  have HX : Hid (EntsIn w p es) := h
  clear h
  unfold ripV at *
  by_cases hr : ripB c es = true
  · obtain ⟨hc, h8, ha⟩ := ripB_spec hr
    have HO : Hid (ripO c es = ripT c es) := if_pos hr
    rw [hr] at HR
    have hor := or_two c hc
    have hc0 : 1 ≤ c ∧ c ≤ 2 := by omega
    have hw1 := wrap_i64_in (c * 256) (by omega) (by omega)
    have HA : Hid (es.all entB = true) := ha
    have HE : Hid (∀ e, entB e = true → ∀ w, Calls Tryd.prog 62 #[entV e] w fun r w' => ∃ v, r = .returned v ∧ Own w' w.heap.size 5 v (cellsB (entBy e)) ∧ Below w.heap.size w w') := fun e he w => implEntryPut_any e w he
    have HW : Hid (∀ (W : World) g, Row W g 2 (valsN [c * 256 + 2, 0]) → Calls Tryd.prog 46 #[.slice (some ⟨g, 0, none⟩) 2 2] W fun e w' => ∃ u, e = .returned u ∧ Own w' W.heap.size 5 u (cellsB (ripHd c)) ∧ Below W.heap.size W w') :=
      fun W g hr => implWords_any [c * 256 + 2, 0] g 2 W hr rfl (by simp) (by intro n hn; simp only [List.mem_cons, List.not_mem_nil, or_false] at hn; omega)
    clear hr ha hc
    generalize ripO c es = RO at *
    go_enter Tryd.func44, Tryd.ntmps44
    go_wp2_with fail
    refine (HR.out _ (HX.out.alloc _)).mono ?_
    rintro e w1 ⟨rfl, hb1⟩
    obtain ⟨c0, c1, hs1, hB1⟩ := cell2_later rfl hb1
    clear hb1 HR
    go_wp2_with fail
    have hrow := Row.new w1 2 [.int .i64 (c * 256 + 2), .int .i64 0]
    refine (HW.out _ _ hrow).mono ?_
    rintro e w2 ⟨u, rfl, ho, hb2⟩
    have hb2' : Below w1.heap.size w1 w2 := (ent_new0 w1 (.cells #[.int .i64 (c * 256 + 2), .int .i64 0] 2)).trans (hb2.mono (by simp))
    obtain ⟨d0, d1⟩ : w2.cell? ⟨w.heap.size, 0, none⟩ = some (.int .i64 c) ∧ w2.cell? ⟨w.heap.size, 1, none⟩ = some (.slice p es.length cap) := ⟨by rw [hb2'.cell (p := ⟨w.heap.size, 0, none⟩) hs1]; exact c0, by rw [hb2'.cell (p := ⟨w.heap.size, 1, none⟩) hs1]; exact c1⟩
    have hB2 : Below w.heap.size w w2 := hB1.trans (hb2'.mono hB1.size)
    have ho2 : Own w2 w.heap.size 5 u (cellsB (ripHd c ++ entsBy (es.take 0))) := by
      have := ho.mono (base' := w.heap.size) (by have := hB1.size; simp; omega)
      rwa [List.take_zero, show entsBy [] = [] from rfl, List.append_nil]
    clear hb2 hb2' c0 c1 ho hrow HW hor hw1
    go_wp2_with fail
    go_loopw [3, 18] (fun v i wr => ∃ k : Nat, k ≤ es.length ∧ i = .int .i64 k ∧ Own wr w.heap.size 5 v (cellsB (ripHd c ++ entsBy (es.take k))) ∧ Below w.heap.size w wr) (fun _ i _ => es.length - (intOf i).toNat)
    case atStart => exact ⟨0, Nat.zero_le _, rfl, ho2, hB2⟩
    case round =>
      obtain ⟨k, hk, rfl, hown, hb⟩ := hrel
      clear ho2 hB2 d0 d1
      by_cases hlt : k < es.length
      · obtain ⟨g, a, l, n, m, t, rfl, hg, hek, c0, c1, c2, c3, c4⟩ := (HX.out.below hb).at k hlt
        have hgood := all_at HA.out k hlt
        have hnext := entsBy_next es k hlt
        rw [hek] at hgood hnext
        have HN : Hid _ := hnext
        have HEk : Hid (∀ w, Calls Tryd.prog 62 #[.agg #[.int .i64 a, .int .i64 l, .int .i64 n, .int .i64 m, .int .i64 t]] w fun r w' => ∃ v, r = .returned v ∧ Own w' w.heap.size 5 v (cellsB (entBy ⟨a, l, n, m, t⟩)) ∧ Below w.heap.size w w') := HE.out ⟨a, l, n, m, t⟩ hgood
        have hel := entBy_length ⟨a, l, n, m, t⟩
        have hll : (ripHd c ++ entsBy (es.take k)).length ≤ 1000 := by rw [List.length_append, ripHd_length, entsBy_length, List.length_take]; omega
        clear hnext hek hgood HE
        generalize entBy ⟨a, l, n, m, t⟩ = EB at *
        go_wp2_with fail
        refine (HEk.out _).mono ?_
        rintro e w3 ⟨u3, rfl, ho3, hb3⟩
        have hne : cellsB EB ≠ [] := by intro h0; have := congrArg List.length h0; rw [cellsB_length, hel] at this; simp at this
        obtain ⟨g3, cap3, rfl, hg30, hg3, hc3, hcc⟩ := ho3.form hne
        have hB3a := (ent_new0 wr (.cells #[.int .i64 a, .int .i64 l, .int .i64 n, .int .i64 m, .int .i64 t] 44)).trans (hb3.mono (by simp))
        have hown3 := hown.below hB3a
        have hB3 := hb.trans (hB3a.mono hb.size)
        have HC : Hid (∀ j u, (cellsB EB)[j]? = some u → w3.cell? ⟨g3, 0 + j, none⟩ = some u) := fun j u hj => by rw [Nat.zero_add]; exact hcc j u hj
        rw [cellsB_length] at *
        clear hown hb3 hB3a ho3 HEk c0 c1 c2 c3 c4 hcc hne
        have HLE : Hid (∃ LL, LL = ripHd c ++ entsBy (es.take k)) := ⟨_, rfl⟩
        obtain ⟨LL, hLL⟩ := HLE.out
        rw [← hLL] at hown3 hll
        have hsum : LL.length + EB.length ≤ 1000000000 := by omega
        have HLL : Hid _ := hLL
        have hbs := hB3.size
        clear hel hLL HLE hll
        go_wp2_with (at_builtin; refine wpList_append_bytes rfl _ _ 61 rfl w.heap.size 5 Tryd.underlying61 Tryd.infoB _ LL EB rfl hown3 g3 0 cap3 rfl HC.out hsum hbs ?_)
        intro v4 w4 hown4 hb4
        have hB4 := hB3.trans hb4
        rw [HLL.out, List.append_assoc, ← HN.out] at hown4
        clear HC hB3 hb4 HN hown3
        go_wp2
        go_roundw
        case rel => exact ⟨k + 1, hlt, by go_num, hown4, hB4⟩
        case measure => simp [intOf]; omega
      · obtain rfl : k = es.length := by omega
        rw [List.take_length] at hown
        have hconv := own_conv (t := RO) hown (by intro h0; have := congrArg List.length h0; rw [List.length_append, ripHd_length] at this; simp at this) (by rw [HO.out]; rfl)
        clear hlt hk
        go_wp2
        go_ret
        exact ⟨rfl, hb⟩
  · have HO : Hid (ripO c es = ByteArray.empty) := if_neg hr
    have hr' : ripB c es = false := by simpa using hr
    rw [hr'] at HR
    rw [HO.out]
    go_enter Tryd.func44, Tryd.ntmps44
    go_wp2_with fail
    refine (HR.out _ (HX.out.alloc _)).mono ?_
    rintro e w1 ⟨rfl, hb1⟩
    have hB1 := (ent_new0 w _).trans (hb1.mono (by simp))
    clear hb1
    go_wp2
    go_ret
    exact ⟨rfl, hB1⟩
end Go.Proofs.YtehiipddbgoajaaDoor
/- Texts cut. -/
namespace Go.Proofs.YtehiipddbgoajaaDoor
open Go.RowKit

theorem extract_list (t : ByteArray) (a b : Nat) : (t.extract a b).data.toList = (t.data.toList.take b).drop a := by
  simp [ByteArray.extract, ByteArray.copySlice, List.drop_take]
theorem slice_to (t : ByteArray) (a b : Nat) (x y : Int) (hx : x = a) (hy : y = b) (hab : a ≤ b) (hb : b ≤ t.size) (w : World) : (Instr.slice 9 (.string t) (some (.int .i64 x)) (some (.int .i64 y)) none).run Tryd.prog w = .ok (.string (t.extract a b)) w := by
  rw [run_slice_string _ _ _ _ _ _ _ Tryd.underlying9 (by omega) (by omega) (by omega), hx, hy]; rfl
theorem slice_on (t : ByteArray) (i : Int) (n : Nat) (hi : i = n) (hn : n ≤ t.size) (w : World) : (Instr.slice 9 (.string t) (some (.int .i64 i)) none none).run Tryd.prog w = .ok (.string (t.extract n t.size)) w := by
  rw [run_slice_string_from_if _ _ _ _ _ Tryd.underlying9, if_pos (by omega), hi]; rfl
theorem slice_upto (t : ByteArray) (y : Int) (b : Nat) (hy : y = b) (hb : b ≤ t.size) (w : World) : (Instr.slice 9 (.string t) none (some (.int .i64 y)) none).run Tryd.prog w = .ok (.string (t.extract 0 b)) w := by
  rw [run_slice_string_to_if _ _ _ _ _ Tryd.underlying9, if_pos (by omega), hy]; rfl
end Go.Proofs.YtehiipddbgoajaaDoor
/- What is signed, of the program. -/
namespace Go.Proofs.YtehiipddbgoajaaDoor
open Go.RowKit Go.Sort

set_option maxRecDepth 100000 in
theorem isTime_any (a : Int) (w : World) : Calls Tryd.prog 63 #[.int .i64 a] w fun e w' => e = .returned (.bool (inTime a)) ∧ w = w' := by
  by_cases h1 : 0 ≤ a
  · by_cases h2 : a ≤ 1000000
    · go_enter Tryd.func63, Tryd.ntmps63
      go_wp2
      go_ret
      exact ⟨ret_bool (by simp [inTime]; omega), rfl⟩
    · go_enter Tryd.func63, Tryd.ntmps63
      go_wp2
      go_ret
      exact ⟨ret_bool (by simp [inTime]; omega), rfl⟩
  · go_enter Tryd.func63, Tryd.ntmps63
    go_wp2
    go_ret
    exact ⟨ret_bool (by simp [inTime]; omega), rfl⟩
set_option maxRecDepth 100000 in
theorem seqRight_any (a : Int) (w : World) : Calls Tryd.prog 45 #[.int .i64 a] w fun e w' => e = .returned (.bool (inSeq a)) ∧ w = w' := by
  have HT : Hid (∀ w, Calls Tryd.prog 63 #[.int .i64 a] w fun e w' => e = .returned (.bool (inTime a)) ∧ w = w') := isTime_any a
  by_cases h1 : 1 ≤ a
  · have HE : Hid (inTime a = inSeq a) := by show decide _ = decide _; exact decide_eq_decide.2 (by omega)
    generalize inTime a = T at *
    go_enter Tryd.func45, Tryd.ntmps45
    go_wp2_with fail
    refine (HT.out _).mono ?_
    rintro e w1 ⟨rfl, rfl⟩
    go_wp2
    go_ret
    exact ⟨ret_bool HE.out, rfl⟩
  · have HE : Hid (inSeq a = false) := by show _ = _; simp [inSeq]; omega
    go_enter Tryd.func45, Tryd.ntmps45
    go_wp2
    go_ret
    exact ⟨ret_bool HE.out.symm, rfl⟩
set_option maxRecDepth 100000 in
theorem keyRight_any (k : ByteArray) (w : World) (hk : k.size ≤ maxLen) : Calls Tryd.prog 29 #[.string k] w fun e w' => e = .returned (.bool (inKey k)) ∧ w = w' := by
  unfold maxLen at hk
  by_cases h1 : 1 ≤ k.size
  · have d1 : decide (1 ≤ (k.size : Int)) = true := by simp; omega
    by_cases h2 : k.size ≤ 32
    · have d2 : decide ((k.size : Int) ≤ 32) = true := by simp; omega
      have HE : Hid (inKey k = true) := by show decide _ = true; simp [h1, h2]
      rw [HE.out]
      go_enter Tryd.func29, Tryd.ntmps29
      go_wp2
      go_ret
      exact ⟨rfl, rfl⟩
    · have d2 : decide ((k.size : Int) ≤ 32) = false := by simp; omega
      have HE : Hid (inKey k = false) := by show decide _ = false; simp; omega
      rw [HE.out]
      go_enter Tryd.func29, Tryd.ntmps29
      go_wp2
      go_ret
      exact ⟨rfl, rfl⟩
  · have d1 : decide (1 ≤ (k.size : Int)) = false := by simp; omega
    have HE : Hid (inKey k = false) := by show decide _ = false; simp; omega
    rw [HE.out]
    go_enter Tryd.func29, Tryd.ntmps29
    go_wp2
    go_ret
    exact ⟨rfl, rfl⟩
set_option maxRecDepth 100000 in
theorem shortMac_any (k t : ByteArray) (w : World) (h1 : k.size ≤ 8000) (h2 : t.size ≤ 8000) (hL : Laid w) : Calls Tryd.prog 31 #[.string k, .string t] w fun e w' => e = .returned (.string (shortT k t)) ∧ Below w.heap.size w w' := by
  have HM : Hid (∀ w, Laid w → Calls Tryd.prog 47 #[.string k, .string t] w fun e w' => e = .returned (.string (macT k t)) ∧ Below w.heap.size w w') := fun w hL => implMac_in k t w h1 h2 hL
  have HS : Hid (∀ w, (Instr.slice 9 (.string (macT k t)) none (some (.int .i64 16)) none).run Tryd.prog w = .ok (.string (shortT k t)) w) := fun w => slice_upto (macT k t) 16 16 rfl (by rw [macT_size]; omega) w
  generalize shortT k t = S at *
  generalize macT k t = M at *
  go_enter Tryd.func31, Tryd.ntmps31
  go_wp2_with fail
  refine (HM.out _ hL).mono ?_
  rintro e w1 ⟨rfl, hb1⟩
  have hs := HS.out w1
  go_wp2
  go_ret
  exact ⟨rfl, hb1⟩
set_option maxRecDepth 100000 in
set_option maxHeartbeats 1000000 in
theorem aheadOf_any (c : Int) (p : Option Addr) (cap : Nat) (es : List Ent) (seq : Int) (w : World) (h : EntsIn w p es) (hn : es.length ≤ 100000000) (hq : (-9223372036854775808 : Int) ≤ seq ∧ seq ≤ 9223372036854775807) :
    Calls Tryd.prog 28 #[ripV c p es.length cap, .int .i64 seq] w fun e w' => e = .returned (.string (aheadO c es seq)) ∧ Below w.heap.size w w' := by
  have HR : Hid (∀ w, EntsIn w p es → Calls Tryd.prog 44 #[ripV c p es.length cap] w fun e w' => e = .returned (.string (ripO c es)) ∧ Below w.heap.size w w') := fun w h => implRipBytes_any c p cap es w h hn
  have HX : Hid (EntsIn w p es) := h
  have HQ : Hid (∀ w, Calls Tryd.prog 45 #[.int .i64 seq] w fun e w' => e = .returned (.bool (inSeq seq)) ∧ w = w') := seqRight_any seq
  clear h
  by_cases hr : ripB c es = true
  · have HO : Hid (ripO c es = ripT c es) := if_pos hr
    have h8 := (ripB_spec hr).2.1
    have hsz := ripT_size c es
    have hpos := text_pos (a := ripT c es) (by omega)
    rw [HO.out] at HR
    by_cases hs : inSeq seq = true
    · have HA : Hid (aheadO c es seq = ripT c es ++ markT seq) := if_pos ⟨hr, hs⟩
      have hseq : 1 ≤ seq ∧ seq ≤ 1000000 := by simpa [inSeq] using hs
      rw [hs] at HQ
      rw [HA.out]
      have HW : Hid (∀ (W : World) g, Row W g 2 (valsN [65535, 3, seq / 65536, seq]) → Calls Tryd.prog 46 #[.slice (some ⟨g, 0, none⟩) 4 4] W fun e w' => ∃ u, e = .returned u ∧ Own w' W.heap.size 5 u (cellsB (markL seq)) ∧ Below W.heap.size W w') :=
        fun W g hr => implWords_any [65535, 3, seq / 65536, seq] g 4 W hr rfl (by simp) (by intro n hn; simp only [List.mem_cons, List.not_mem_nil, or_false] at hn; omega)
      have HJ : Hid (∀ w, Calls Tryd.prog 30 #[.string (ripT c es), .string (markT seq)] w fun e w' => e = .returned (.string (ripT c es ++ markT seq)) ∧ Below w.heap.size w w') := fun w => joined_any _ _ w (by omega) (by rw [markT_size]; omega)
      have HCv : Hid (∀ (W : World) (base : Nat) (v : Value), Own W base 5 v (cellsB (markL seq)) → (convert 61 9 v).run Tryd.prog W = .ok (.string (markT seq)) W) := fun W base v h => own_conv (t := markT seq) h (by intro h0; have := congrArg List.length h0; rw [markL_length] at this; simp at this) rfl
      unfold ripV at *
      clear hr hs HA HO hsz
      generalize ripT c es ++ markT seq = AT at *
      generalize ripT c es = RT at *
      generalize markT seq = MT at *
      go_enter Tryd.func28, Tryd.ntmps28
      go_wp2_with fail
      refine (HR.out _ (HX.out.alloc _)).mono ?_
      rintro e w1 ⟨rfl, hb1⟩
      have hB1 := (ent_new0 w _).trans (hb1.mono (by simp))
      clear hb1
      go_wp2_with fail
      refine (HQ.out _).mono ?_
      rintro e w2 ⟨rfl, rfl⟩
      go_wp2_with fail
      have hrow := Row.new w1 2 [.int .i64 65535, .int .i64 3, .int .i64 (seq / 65536), .int .i64 seq]
      refine (HW.out _ _ hrow).mono ?_
      rintro e w2 ⟨u, rfl, ho, hb2⟩
      have hconv := HCv.out _ _ _ ho
      have hB2 := hB1.trans (((ent_new0 w1 _).trans (hb2.mono (by simp))).mono hB1.size)
      clear hb2 hrow ho
      go_wp2_with fail
      refine (HJ.out _).mono ?_
      rintro e w3 ⟨rfl, hb3⟩
      have hB3 := hB2.trans (hb3.mono hB2.size)
      clear hb3 hconv
      go_wp2
      go_ret
      exact ⟨rfl, hB3⟩
    · have hs' : inSeq seq = false := by simpa using hs
      have HA : Hid (aheadO c es seq = ByteArray.empty) := if_neg (fun h => hs h.2)
      rw [hs'] at HQ
      rw [HA.out]
      unfold ripV at *
      generalize ripT c es = RT at *
      go_enter Tryd.func28, Tryd.ntmps28
      go_wp2_with fail
      refine (HR.out _ (HX.out.alloc _)).mono ?_
      rintro e w1 ⟨rfl, hb1⟩
      have hB1 := (ent_new0 w _).trans (hb1.mono (by simp))
      clear hb1
      go_wp2_with fail
      refine (HQ.out _).mono ?_
      rintro e w2 ⟨rfl, rfl⟩
      go_wp2
      go_ret
      exact ⟨rfl, hB1⟩
  · have HO : Hid (ripO c es = ByteArray.empty) := if_neg hr
    have HA : Hid (aheadO c es seq = ByteArray.empty) := if_neg (fun h => hr h.1)
    rw [HO.out] at HR
    rw [HA.out]
    unfold ripV at *
    go_enter Tryd.func28, Tryd.ntmps28
    go_wp2_with fail
    refine (HR.out _ (HX.out.alloc _)).mono ?_
    rintro e w1 ⟨rfl, hb1⟩
    have hB1 := (ent_new0 w _).trans (hb1.mono (by simp))
    clear hb1
    go_wp2
    go_ret
    exact ⟨rfl, hB1⟩
set_option maxRecDepth 100000 in
set_option maxHeartbeats 1000000 in
theorem implRipSign_any (c : Int) (p : Option Addr) (cap : Nat) (es : List Ent) (k : ByteArray) (seq : Int) (w : World) (h : EntsIn w p es) (hn : es.length ≤ 100000000) (hk : k.size ≤ maxLen) (hq : (-9223372036854775808 : Int) ≤ seq ∧ seq ≤ 9223372036854775807) (hL : Laid w) :
    Calls Tryd.prog 13 #[ripV c p es.length cap, .string k, .int .i64 seq] w fun e w' => e = .returned (.string (signO c es k seq)) ∧ Below w.heap.size w w' := by
  have HR : Hid (∀ w, EntsIn w p es → Calls Tryd.prog 28 #[ripV c p es.length cap, .int .i64 seq] w fun e w' => e = .returned (.string (aheadO c es seq)) ∧ Below w.heap.size w w') := fun w h => aheadOf_any c p cap es seq w h hn hq
  have HX : Hid (EntsIn w p es) := h
  have HK : Hid (∀ w, Calls Tryd.prog 29 #[.string k] w fun e w' => e = .returned (.bool (inKey k)) ∧ w = w') := fun w => keyRight_any k w hk
  clear h
  by_cases hr : ripB c es = true ∧ inSeq seq = true
  · have HO : Hid (aheadO c es seq = aheadT c es seq) := if_pos hr
    have h8 := (ripB_spec hr.1).2.1
    have hsz := aheadT_size c es seq
    have hpos := text_pos (a := aheadT c es seq) (by omega)
    rw [HO.out] at HR
    by_cases hs : inKey k = true
    · have HA : Hid (signO c es k seq = aheadT c es seq ++ shortT k (aheadT c es seq)) := if_pos ⟨hr.1, hr.2, hs⟩
      have hk2 : 1 ≤ k.size ∧ k.size ≤ 32 := by simpa [inKey] using hs
      rw [hs] at HK
      rw [HA.out]
      have HS : Hid (∀ w, Laid w → Calls Tryd.prog 31 #[.string k, .string (aheadT c es seq)] w fun e w' => e = .returned (.string (shortT k (aheadT c es seq))) ∧ Below w.heap.size w w') := fun w hL => shortMac_any k _ w (by omega) (by omega) hL
      have HJ : Hid (∀ w, Calls Tryd.prog 30 #[.string (aheadT c es seq), .string (shortT k (aheadT c es seq))] w fun e w' => e = .returned (.string (aheadT c es seq ++ shortT k (aheadT c es seq))) ∧ Below w.heap.size w w') := fun w => joined_any _ _ w (by omega) (by rw [shortT_size]; omega)
      unfold ripV at *
      clear hr hs HA HO hsz
      generalize aheadT c es seq ++ shortT k (aheadT c es seq) = GT at *
      generalize shortT k (aheadT c es seq) = ST at *
      generalize aheadT c es seq = AT at *
      go_enter Tryd.func13, Tryd.ntmps13
      go_wp2_with fail
      refine (HR.out _ (HX.out.alloc _)).mono ?_
      rintro e w1 ⟨rfl, hb1⟩
      have hB1 := (ent_new0 w _).trans (hb1.mono (by simp))
      clear hb1
      go_wp2_with fail
      refine (HK.out _).mono ?_
      rintro e w2 ⟨rfl, rfl⟩
      go_wp2_with fail
      refine (HS.out _ (hL.below hB1)).mono ?_
      rintro e w2 ⟨rfl, hb2⟩
      have hB2 := hB1.trans (hb2.mono hB1.size)
      clear hb2
      go_wp2_with fail
      refine (HJ.out _).mono ?_
      rintro e w3 ⟨rfl, hb3⟩
      have hB3 := hB2.trans (hb3.mono hB2.size)
      clear hb3
      go_wp2
      go_ret
      exact ⟨rfl, hB3⟩
    · have hs' : inKey k = false := by simpa using hs
      have HA : Hid (signO c es k seq = ByteArray.empty) := if_neg (fun h => hs h.2.2)
      rw [hs'] at HK
      rw [HA.out]
      unfold ripV at *
      generalize aheadT c es seq = AT at *
      go_enter Tryd.func13, Tryd.ntmps13
      go_wp2_with fail
      refine (HR.out _ (HX.out.alloc _)).mono ?_
      rintro e w1 ⟨rfl, hb1⟩
      have hB1 := (ent_new0 w _).trans (hb1.mono (by simp))
      clear hb1
      go_wp2_with fail
      refine (HK.out _).mono ?_
      rintro e w2 ⟨rfl, rfl⟩
      go_wp2
      go_ret
      exact ⟨rfl, hB1⟩
  · have HO : Hid (aheadO c es seq = ByteArray.empty) := if_neg hr
    have HA : Hid (signO c es k seq = ByteArray.empty) := if_neg (fun h => hr ⟨h.1, h.2.1⟩)
    rw [HO.out] at HR
    rw [HA.out]
    unfold ripV at *
    go_enter Tryd.func13, Tryd.ntmps13
    go_wp2_with fail
    refine (HR.out _ (HX.out.alloc _)).mono ?_
    rintro e w1 ⟨rfl, hb1⟩
    have hB1 := (ent_new0 w _).trans (hb1.mono (by simp))
    clear hb1
    go_wp2
    go_ret
    exact ⟨rfl, hB1⟩
end Go.Proofs.YtehiipddbgoajaaDoor
/- Masks of the model. -/
namespace Go.Proofs.YtehiipddbgoajaaDoor
open Go.RowKit

set_option maxRecDepth 100000 in
theorem specMask_any (l : Int) (w : World) :
    Calls Tryd.prog 33 #[.int .i64 l] w fun e w' => e = .returned (.int .i64 (maskV l)) ∧ w = w' := by
  by_cases h : 0 ≤ l ∧ l ≤ 32
  · have hm := maskV_in l h.1 h.2
    have HM : Hid _ := hm
    have HC : Hid (∀ w, Calls Tryd.prog 49 #[.int .i64 (32 - l)] w fun e w' => e = .returned (.int .i64 (gap l : Int)) ∧ w = w') := fun w => l03Pow_at l (32 - l) w h.1 h.2 rfl
    have hd : decide (0 ≤ l ∧ l ≤ 32) = true := by simpa using h
    have hg := gap_le l
    have hg1 := gap_pos l
    obtain ⟨h0, h1⟩ := h
    clear hm
    go_enter Tryd.func33, Tryd.ntmps33
    go_wp2_with fail
    refine (l03Is_any l 0 32 _).mono ?_
    rintro e w1 ⟨rfl, rfl⟩
    rw [hd]
    go_wp2_with fail
    refine (HC.out _).mono ?_
    rintro e w1 ⟨rfl, rfl⟩
    go_wp2
    go_ret
    exact ⟨ret_i64 (by rw [HM.out]), rfl⟩
  · rw [maskV_out l h]
    have hd : decide (0 ≤ l ∧ l ≤ 32) = false := by simpa using h
    go_enter Tryd.func33, Tryd.ntmps33
    go_wp2_with fail
    refine (l03Is_any l 0 32 _).mono ?_
    rintro e w1 ⟨rfl, rfl⟩
    rw [hd]
    go_wp2
    go_ret
    exact ⟨rfl, rfl⟩
end Go.Proofs.YtehiipddbgoajaaDoor
/- Words and their sums, of the model. -/
namespace Go.Proofs.YtehiipddbgoajaaDoor
open Go.RowKit

def wordT (n : Int) : ByteArray := ⟨(wordL n).toArray⟩
theorem wordT_size (n : Int) : (wordT n).size = 2 := rfl
theorem word_conv (n : Int) (w : World) :
    (convert 61 9 (.slice (some ⟨w.heap.size, 0, none⟩) 2 2)).run Tryd.prog (w.alloc (.cells #[.int .u8 (n / 256 % 256), .int .u8 (n % 256)] 5)) = .ok (.string (wordT n)) (w.alloc (.cells #[.int .u8 (n / 256 % 256), .int .u8 (n % 256)] 5)) :=
  conv_lit w [n / 256 % 256, n % 256] 2 rfl (by
    intro x hx
    simp only [List.mem_cons, List.not_mem_nil, or_false] at hx
    omega) (by omega)
set_option maxRecDepth 100000 in
theorem specWord_any (n : Int) (w : World) (h0 : 0 ≤ n) (h1 : n ≤ 9223372036854775807) :
    Calls Tryd.prog 40 #[.int .i64 n] w fun e w' => e = .returned (.string (wordT n)) ∧ Below w.heap.size w w' := by
  have hc := word_conv n w
  have hd : n.tdiv 256 = n / 256 := Int.tdiv_eq_ediv_of_nonneg h0
  have hm : n.tmod 256 = n % 256 := Int.tmod_eq_emod_of_nonneg h0
  have hu : IntKind.u8.wrap (n / 256) = n / 256 % 256 := by rw [IntKind.wrap_u8]
  have hu2 : IntKind.u8.wrap (n % 256) = n % 256 := by rw [IntKind.wrap_u8]; omega
  generalize wordT n = T at *
  go_enter Tryd.func40, Tryd.ntmps40
  go_wp2
  go_ret
  exact ⟨rfl, (Below.refl _ _).alloc (Nat.le_refl _) _⟩
end Go.Proofs.YtehiipddbgoajaaDoor
/- Four bytes of a number, of the model. -/
namespace Go.Proofs.YtehiipddbgoajaaDoor
open Go.RowKit

def fourQL (n : Int) : List UInt8 := wordL (n / 65536) ++ wordL n
def fourQ (n : Int) : ByteArray := ⟨(fourQL n).toArray⟩
theorem fourQ_size (n : Int) : (fourQ n).size = 4 := rfl
theorem fourQ_eq (n : Int) : wordT (n / 65536) ++ wordT (n % 65536) = fourQ n := by
  apply ByteArray.ext
  apply Array.toList_inj.1
  simp [wordT, fourQ, fourQL, wordL_low]
set_option maxRecDepth 100000 in
theorem spec4_any (n : Int) (w : World) (h0 : 0 ≤ n) (h1 : n ≤ 4294967295) :
    Calls Tryd.prog 41 #[.int .i64 n] w fun e w' => e = .returned (.string (fourQ n)) ∧ Below w.heap.size w w' := by
  have hd : n.tdiv 65536 = n / 65536 := Int.tdiv_eq_ediv_of_nonneg h0
  have hm : n.tmod 65536 = n % 65536 := Int.tmod_eq_emod_of_nonneg h0
  have hw1 := wrap_i64_in (n / 65536) (by omega) (by omega)
  have HE : Hid _ := fourQ_eq n
  have H1 : Hid (∀ w, Calls Tryd.prog 40 #[.int .i64 (n / 65536)] w fun e w' => e = .returned (.string (wordT (n / 65536))) ∧ Below w.heap.size w w') := fun w => specWord_any _ w (by omega) (by omega)
  have H2 : Hid (∀ w, Calls Tryd.prog 40 #[.int .i64 (n % 65536)] w fun e w' => e = .returned (.string (wordT (n % 65536))) ∧ Below w.heap.size w w') := fun w => specWord_any _ w (by omega) (by omega)
  have s1 := wordT_size (n / 65536)
  have s2 := wordT_size (n % 65536)
  generalize wordT (n / 65536) = A at *
  generalize wordT (n % 65536) = B at *
  go_enter Tryd.func41, Tryd.ntmps41
  go_wp2_with fail
  refine (H1.out _).mono ?_
  rintro e w1 ⟨rfl, hb1⟩
  go_wp2_with fail
  refine (H2.out _).mono ?_
  rintro e w2 ⟨rfl, hb2⟩
  go_wp2
  go_ret
  exact ⟨by rw [← HE.out]; rfl, hb1.trans (hb2.mono hb1.size)⟩
end Go.Proofs.YtehiipddbgoajaaDoor
/- What routers say in bytes, of the model. -/
namespace Go.Proofs.YtehiipddbgoajaaDoor
open Go.RowKit Go.Sort

theorem hd_conv (c : Int) (hc : 1 ≤ c ∧ c ≤ 2) (w : World) :
    (convert 61 9 (.slice (some ⟨w.heap.size, 0, none⟩) 4 4)).run Tryd.prog (w.alloc (.cells #[.int .u8 c, .int .u8 2, .int .u8 0, .int .u8 0] 5)) = .ok (.string (ripT c [])) (w.alloc (.cells #[.int .u8 c, .int .u8 2, .int .u8 0, .int .u8 0] 5)) := by
  have h := conv_lit w [c, 2, 0, 0] 4 rfl (by
    intro x hx
    simp only [List.mem_cons, List.not_mem_nil, or_false] at hx
    omega) (by omega)
  have e : (⟨([c, 2, 0, 0].map fun x => UInt8.ofNat x.toNat).toArray⟩ : ByteArray) = ripT c [] := by
    have h2 : c = 1 ∨ c = 2 := by omega
    rcases h2 with rfl | rfl <;> rfl
  rw [e] at h
  exact h
theorem ripT_next (c : Int) (es : List Ent) (k : Nat) (hk : k < es.length) (a l n m t : Int) (he : es[k] = ⟨a, l, n, m, t⟩) (hm : 1 ≤ m ∧ m ≤ 16) :
    ripT c (es.take k) ++ wordT 2 ++ wordT t ++ fourQ a ++ fourQ (maskV l) ++ fourQ n ++ fourQ m = ripT c (es.take (k + 1)) := by
  apply ByteArray.ext
  apply Array.toList_inj.1
  have e1 : fourQL m = wordL 0 ++ wordL m := by unfold fourQL; rw [show m / 65536 = 0 by omega]
  simp only [ripT, ripL, wordT, fourQ, entsBy_next es k hk, he, entBy, entNs, wordsL, List.flatMap_cons, List.flatMap_nil, ByteArray.data_append, Array.toList_append, e1]
  simp [fourQL]
set_option maxRecDepth 100000 in
set_option maxHeartbeats 1000000 in
theorem spec05Bytes_any (c : Int) (p : Option Addr) (cap : Nat) (es : List Ent) (w : World) (h : EntsIn w p es) (hr : ripB c es = true) :
    Calls Tryd.prog 34 #[ripV c p es.length cap] w fun e w' => e = .returned (.string (ripT c es)) ∧ Below w.heap.size w w' := by
  have HX : Hid (EntsIn w p es) := h
  obtain ⟨hc, h8, ha⟩ := ripB_spec hr
  have hc0 : 1 ≤ c ∧ c ≤ 2 := by omega
  have HA : Hid (es.all entB = true) := ha
  have hu : IntKind.u8.wrap c = c := by rw [IntKind.wrap_u8]; omega
  have hconv := hd_conv c hc0 (w.alloc (.cells #[.int .i64 c, .slice p es.length cap] 24))
  rw [show (w.alloc (.cells #[.int .i64 c, .slice p es.length cap] 24)).heap.size = w.heap.size + 1 by simp] at hconv
  have HK : Hid (∀ k, (ripT c (es.take k)).size ≤ 200) := fun k => by
    show (ripT c (es.take k)).size ≤ 200
    rw [ripT_size, List.length_take]; omega
  have HZ : Hid (ripT c [] = ripT c (es.take 0)) := rfl
  have HF : Hid (ripT c (es.take es.length) = ripT c es) := by show _ = _; rw [List.take_length]
  have hB0 : Below w.heap.size w ((w.alloc (.cells #[.int .i64 c, .slice p es.length cap] 24)).alloc (.cells #[.int .u8 c, .int .u8 2, .int .u8 0, .int .u8 0] 5)) := (ent_new0 w _).alloc (by simp) _
  have HC : Hid (∀ wr, Below (w.heap.size + 1) (w.alloc (.cells #[.int .i64 c, .slice p es.length cap] 24)) wr → wr.cell? ⟨w.heap.size, 1, none⟩ = some (.slice p es.length cap)) := fun wr hb => (rip_cell (by simpa using hb)).2
  unfold ripV
  clear h hr hc ha
  generalize ripT c [] = HD at *
  generalize ripT c es = RT at *
  go_enter Tryd.func34, Tryd.ntmps34
  go_wp2_with fail
  go_loopw [3, 4] (fun T i wr => ∃ k : Nat, k ≤ es.length ∧ i = .int .i64 k ∧ T = .string (ripT c (es.take k)) ∧ Below (w.heap.size + 1) (w.alloc (.cells #[.int .i64 c, .slice p es.length cap] 24)) wr) (fun _ i _ => es.length - (intOf i).toNat)
  case atStart => exact ⟨0, Nat.zero_le _, rfl, by rw [HZ.out], by have := ent_new0 (w.alloc (.cells #[.int .i64 c, .slice p es.length cap] 24)) (.cells #[.int .u8 c, .int .u8 2, .int .u8 0, .int .u8 0] 5); simpa using this⟩
  case round =>
    obtain ⟨k, hk, rfl, rfl, hb⟩ := hrel
    have x1 := HC.out _ hb
    have hbw : Below w.heap.size w wr := (ent_new0 w _).trans (hb.mono (by omega))
    by_cases hlt : k < es.length
    · obtain ⟨g, a, l, n, m, t, rfl, hg, hek, c0, c1, c2, c3, c4⟩ := (HX.out.below hbw).at k hlt
      have hgood := all_at HA.out k hlt
      rw [hek] at hgood
      obtain ⟨ga, gl, _, gn, gm, gt⟩ := entB_spec hgood
      have hmr := maskV_range l
      have HN : Hid _ := ripT_next c es k hlt a l n m t hek gm
      have hsz := HK.out k
      have HW2 : Hid (∀ w, Calls Tryd.prog 40 #[.int .i64 2] w fun e w' => e = .returned (.string (wordT 2)) ∧ Below w.heap.size w w') := fun w => specWord_any 2 w (by omega) (by omega)
      have HWt : Hid (∀ w, Calls Tryd.prog 40 #[.int .i64 t] w fun e w' => e = .returned (.string (wordT t)) ∧ Below w.heap.size w w') := fun w => specWord_any t w (by omega) (by omega)
      have HFa : Hid (∀ w, Calls Tryd.prog 41 #[.int .i64 a] w fun e w' => e = .returned (.string (fourQ a)) ∧ Below w.heap.size w w') := fun w => spec4_any a w (by omega) (by omega)
      have HFl : Hid (∀ w, Calls Tryd.prog 41 #[.int .i64 (maskV l)] w fun e w' => e = .returned (.string (fourQ (maskV l))) ∧ Below w.heap.size w w') := fun w => spec4_any (maskV l) w (by omega) (by omega)
      have HFn : Hid (∀ w, Calls Tryd.prog 41 #[.int .i64 n] w fun e w' => e = .returned (.string (fourQ n)) ∧ Below w.heap.size w w') := fun w => spec4_any n w (by omega) (by omega)
      have HFm : Hid (∀ w, Calls Tryd.prog 41 #[.int .i64 m] w fun e w' => e = .returned (.string (fourQ m)) ∧ Below w.heap.size w w') := fun w => spec4_any m w (by omega) (by omega)
      have HM : Hid (∀ w, Calls Tryd.prog 33 #[.int .i64 l] w fun e w' => e = .returned (.int .i64 (maskV l)) ∧ w = w') := specMask_any l
      have s1 := wordT_size 2
      have s2 := wordT_size t
      have s3 := fourQ_size a
      have s4 := fourQ_size (maskV l)
      have s5 := fourQ_size n
      have s6 := fourQ_size m
      clear HA hgood hek HK
      generalize ripT c (es.take k) = T0 at *
      generalize wordT 2 = W2 at *
      generalize wordT t = WT at *
      generalize fourQ a = FA at *
      generalize fourQ (maskV l) = FL at *
      generalize fourQ n = FN at *
      generalize fourQ m = FM at *
      generalize maskV l = M at *
      go_wp2_with fail
      have HR : Hid (Row (wr.alloc (.cells #[.int .i64 a, .int .i64 l, .int .i64 n, .int .i64 m, .int .i64 t] 44)) wr.heap.size 44 [.int .i64 a, .int .i64 l, .int .i64 n, .int .i64 m, .int .i64 t]) := Row.new wr _ _
      have hGN : (([(23, Is (.string T0)), (24, Is (.string W2)), (25, Is (.string (T0 ++ W2))), (26, Is (.pointer (some ⟨wr.heap.size, 4, none⟩))), (27, Is (.int .i64 t)), (28, Is (.string WT)), (29, Is (.string (T0 ++ W2 ++ WT))), (30, Is (.pointer (some ⟨wr.heap.size, 0, none⟩))), (31, Is (.pointer (some ⟨wr.heap.size, 0, none⟩))), (32, Is (.int .i64 a)), (33, Is (.string FA)), (34, Is (.string (T0 ++ W2 ++ WT ++ FA))), (35, Is (.pointer (some ⟨wr.heap.size, 0, none⟩))), (36, Is (.pointer (some ⟨wr.heap.size, 1, none⟩))), (37, Is (.int .i64 l)), (38, Is (.int .i64 M)), (39, Is (.string FL)), (40, Is (.string (T0 ++ W2 ++ WT ++ FA ++ FL))), (41, Is (.pointer (some ⟨wr.heap.size, 2, none⟩))), (42, Is (.int .i64 n)), (43, Is (.string FN)), (44, Is (.string (T0 ++ W2 ++ WT ++ FA ++ FL ++ FN))), (45, Is (.pointer (some ⟨wr.heap.size, 3, none⟩))), (46, Is (.int .i64 m)), (47, Is (.string FM)), (48, Is (.string (T0 ++ W2 ++ WT ++ FA ++ FL ++ FN ++ FM)))] : List (Nat × (Value → World → Prop))).map (·.1)).Nodup := by simp
      refine wp_region_steady 26 (SlotG [(23, Is (.string T0)), (24, Is (.string W2)), (25, Is (.string (T0 ++ W2))), (26, Is (.pointer (some ⟨wr.heap.size, 4, none⟩))), (27, Is (.int .i64 t)), (28, Is (.string WT)), (29, Is (.string (T0 ++ W2 ++ WT))), (30, Is (.pointer (some ⟨wr.heap.size, 0, none⟩))), (31, Is (.pointer (some ⟨wr.heap.size, 0, none⟩))), (32, Is (.int .i64 a)), (33, Is (.string FA)), (34, Is (.string (T0 ++ W2 ++ WT ++ FA))), (35, Is (.pointer (some ⟨wr.heap.size, 0, none⟩))), (36, Is (.pointer (some ⟨wr.heap.size, 1, none⟩))), (37, Is (.int .i64 l)), (38, Is (.int .i64 M)), (39, Is (.string FL)), (40, Is (.string (T0 ++ W2 ++ WT ++ FA ++ FL))), (41, Is (.pointer (some ⟨wr.heap.size, 2, none⟩))), (42, Is (.int .i64 n)), (43, Is (.string FN)), (44, Is (.string (T0 ++ W2 ++ WT ++ FA ++ FL ++ FN))), (45, Is (.pointer (some ⟨wr.heap.size, 3, none⟩))), (46, Is (.int .i64 m)), (47, Is (.string FM)), (48, Is (.string (T0 ++ W2 ++ WT ++ FA ++ FL ++ FN ++ FM)))]) (by kernel_rfl) (by kernel_rfl) (Stabs.all ⟨stab_is _, stab_is _, stab_is _, stab_is _, stab_is _, stab_is _, stab_is _, stab_is _, stab_is _, stab_is _, stab_is _, stab_is _, stab_is _, stab_is _, stab_is _, stab_is _, stab_is _, stab_is _, stab_is _, stab_is _, stab_is _, stab_is _, stab_is _, stab_is _, stab_is _, stab_is _, trivial⟩) ?_ ?_
      · intro o ho
        simp only [List.take_succ_cons, List.take_zero, List.mem_cons, List.not_mem_nil, or_false] at ho
        rcases ho with rfl | rfl | rfl | rfl | rfl | rfl | rfl | rfl | rfl | rfl | rfl | rfl | rfl | rfl | rfl | rfl | rfl | rfl | rfl | rfl | rfl | rfl | rfl | rfl | rfl | rfl
        · intro a' w' hb ha hdep
          have d3 : a'.tmps.getD 3 undef = .string T0 := ha.at 3 (by kernel_rfl)
          have hmk := fun (x : Value) (W : World) => SlotG.mk (x := x) (w := W) 0 rfl hGN
          clear hGN ha hdep
          go_simp
          exact ⟨_, rfl, Below.refl _ _, hmk _ _ rfl⟩
        · intro a' w' hb ha hdep
          have hmk := fun (x : Value) (W : World) => SlotG.mk (x := x) (w := W) 1 rfl hGN
          clear hGN ha hdep
          go_simp
          refine (HW2.out _).mono ?_
          rintro e w2 ⟨rfl, hb2⟩
          exact ⟨_, rfl, hb2, hmk _ _ rfl⟩
        · intro a' w' hb ha hdep
          have d23 : a'.tmps.getD 23 undef = .string T0 := (hdep 23 (of_decide_eq_true (by kernel_rfl))).is 0 rfl
          have d24 : a'.tmps.getD 24 undef = .string W2 := (hdep 24 (of_decide_eq_true (by kernel_rfl))).is 1 rfl
          have hmk := fun (x : Value) (W : World) => SlotG.mk (x := x) (w := W) 2 rfl hGN
          clear hGN ha hdep
          have hs : ¬ 9223372036854775807 < T0.size + 2 := by omega
          go_simp
          exact ⟨_, rfl, Below.refl _ _, hmk _ _ rfl⟩
        · intro a' w' hb ha hdep
          have d5 : a'.tmps.getD 5 undef = .pointer (some ⟨wr.heap.size, 0, none⟩) := ha.at 5 (by kernel_rfl)
          have hmk := fun (x : Value) (W : World) => SlotG.mk (x := x) (w := W) 3 rfl hGN
          clear hGN ha hdep
          go_simp
          exact ⟨_, rfl, Below.refl _ _, hmk _ _ rfl⟩
        · intro a' w' hb ha hdep
          have d26 : a'.tmps.getD 26 undef = .pointer (some ⟨wr.heap.size, 4, none⟩) := (hdep 26 (of_decide_eq_true (by kernel_rfl))).is 3 rfl
          have hmk := fun (x : Value) (W : World) => SlotG.mk (x := x) (w := W) 4 rfl hGN
          clear hGN ha hdep
          have c4 : w'.cell? ⟨wr.heap.size, 4, none⟩ = some (.int .i64 t) := (HR.out.below hb HR.out.lt).cell 4
          go_simp
          exact ⟨_, rfl, Below.refl _ _, hmk _ _ rfl⟩
        · intro a' w' hb ha hdep
          have d27 : a'.tmps.getD 27 undef = .int .i64 t := (hdep 27 (of_decide_eq_true (by kernel_rfl))).is 4 rfl
          have hmk := fun (x : Value) (W : World) => SlotG.mk (x := x) (w := W) 5 rfl hGN
          clear hGN ha hdep
          go_simp
          refine (HWt.out _).mono ?_
          rintro e w2 ⟨rfl, hb2⟩
          exact ⟨_, rfl, hb2, hmk _ _ rfl⟩
        · intro a' w' hb ha hdep
          have d25 : a'.tmps.getD 25 undef = .string (T0 ++ W2) := (hdep 25 (of_decide_eq_true (by kernel_rfl))).is 2 rfl
          have d28 : a'.tmps.getD 28 undef = .string WT := (hdep 28 (of_decide_eq_true (by kernel_rfl))).is 5 rfl
          have hmk := fun (x : Value) (W : World) => SlotG.mk (x := x) (w := W) 6 rfl hGN
          clear hGN ha hdep
          have hs : ¬ 9223372036854775807 < T0.size + 2 + 2 := by omega
          go_simp
          exact ⟨_, rfl, Below.refl _ _, hmk _ _ rfl⟩
        · intro a' w' hb ha hdep
          have d5 : a'.tmps.getD 5 undef = .pointer (some ⟨wr.heap.size, 0, none⟩) := ha.at 5 (by kernel_rfl)
          have hmk := fun (x : Value) (W : World) => SlotG.mk (x := x) (w := W) 7 rfl hGN
          clear hGN ha hdep
          go_simp
          exact ⟨_, rfl, Below.refl _ _, hmk _ _ rfl⟩
        · intro a' w' hb ha hdep
          have d30 : a'.tmps.getD 30 undef = .pointer (some ⟨wr.heap.size, 0, none⟩) := (hdep 30 (of_decide_eq_true (by kernel_rfl))).is 7 rfl
          have hmk := fun (x : Value) (W : World) => SlotG.mk (x := x) (w := W) 8 rfl hGN
          clear hGN ha hdep
          go_simp
          exact ⟨_, rfl, Below.refl _ _, hmk _ _ rfl⟩
        · intro a' w' hb ha hdep
          have d31 : a'.tmps.getD 31 undef = .pointer (some ⟨wr.heap.size, 0, none⟩) := (hdep 31 (of_decide_eq_true (by kernel_rfl))).is 8 rfl
          have hmk := fun (x : Value) (W : World) => SlotG.mk (x := x) (w := W) 9 rfl hGN
          clear hGN ha hdep
          have c0 : w'.cell? ⟨wr.heap.size, 0, none⟩ = some (.int .i64 a) := (HR.out.below hb HR.out.lt).cell 0
          go_simp
          exact ⟨_, rfl, Below.refl _ _, hmk _ _ rfl⟩
        · intro a' w' hb ha hdep
          have d32 : a'.tmps.getD 32 undef = .int .i64 a := (hdep 32 (of_decide_eq_true (by kernel_rfl))).is 9 rfl
          have hmk := fun (x : Value) (W : World) => SlotG.mk (x := x) (w := W) 10 rfl hGN
          clear hGN ha hdep
          go_simp
          refine (HFa.out _).mono ?_
          rintro e w2 ⟨rfl, hb2⟩
          exact ⟨_, rfl, hb2, hmk _ _ rfl⟩
        · intro a' w' hb ha hdep
          have d29 : a'.tmps.getD 29 undef = .string (T0 ++ W2 ++ WT) := (hdep 29 (of_decide_eq_true (by kernel_rfl))).is 6 rfl
          have d33 : a'.tmps.getD 33 undef = .string FA := (hdep 33 (of_decide_eq_true (by kernel_rfl))).is 10 rfl
          have hmk := fun (x : Value) (W : World) => SlotG.mk (x := x) (w := W) 11 rfl hGN
          clear hGN ha hdep
          have hs : ¬ 9223372036854775807 < T0.size + 2 + 2 + 4 := by omega
          go_simp
          exact ⟨_, rfl, Below.refl _ _, hmk _ _ rfl⟩
        · intro a' w' hb ha hdep
          have d5 : a'.tmps.getD 5 undef = .pointer (some ⟨wr.heap.size, 0, none⟩) := ha.at 5 (by kernel_rfl)
          have hmk := fun (x : Value) (W : World) => SlotG.mk (x := x) (w := W) 12 rfl hGN
          clear hGN ha hdep
          go_simp
          exact ⟨_, rfl, Below.refl _ _, hmk _ _ rfl⟩
        · intro a' w' hb ha hdep
          have d35 : a'.tmps.getD 35 undef = .pointer (some ⟨wr.heap.size, 0, none⟩) := (hdep 35 (of_decide_eq_true (by kernel_rfl))).is 12 rfl
          have hmk := fun (x : Value) (W : World) => SlotG.mk (x := x) (w := W) 13 rfl hGN
          clear hGN ha hdep
          go_simp
          exact ⟨_, rfl, Below.refl _ _, hmk _ _ rfl⟩
        · intro a' w' hb ha hdep
          have d36 : a'.tmps.getD 36 undef = .pointer (some ⟨wr.heap.size, 1, none⟩) := (hdep 36 (of_decide_eq_true (by kernel_rfl))).is 13 rfl
          have hmk := fun (x : Value) (W : World) => SlotG.mk (x := x) (w := W) 14 rfl hGN
          clear hGN ha hdep
          have c1 : w'.cell? ⟨wr.heap.size, 1, none⟩ = some (.int .i64 l) := (HR.out.below hb HR.out.lt).cell 1
          go_simp
          exact ⟨_, rfl, Below.refl _ _, hmk _ _ rfl⟩
        · intro a' w' hb ha hdep
          have d37 : a'.tmps.getD 37 undef = .int .i64 l := (hdep 37 (of_decide_eq_true (by kernel_rfl))).is 14 rfl
          have hmk := fun (x : Value) (W : World) => SlotG.mk (x := x) (w := W) 15 rfl hGN
          clear hGN ha hdep
          go_simp
          refine (HM.out _).mono ?_
          rintro e w2 ⟨rfl, rfl⟩
          exact ⟨_, rfl, Below.refl _ _, hmk _ _ rfl⟩
        · intro a' w' hb ha hdep
          have d38 : a'.tmps.getD 38 undef = .int .i64 M := (hdep 38 (of_decide_eq_true (by kernel_rfl))).is 15 rfl
          have hmk := fun (x : Value) (W : World) => SlotG.mk (x := x) (w := W) 16 rfl hGN
          clear hGN ha hdep
          go_simp
          refine (HFl.out _).mono ?_
          rintro e w2 ⟨rfl, hb2⟩
          exact ⟨_, rfl, hb2, hmk _ _ rfl⟩
        · intro a' w' hb ha hdep
          have d34 : a'.tmps.getD 34 undef = .string (T0 ++ W2 ++ WT ++ FA) := (hdep 34 (of_decide_eq_true (by kernel_rfl))).is 11 rfl
          have d39 : a'.tmps.getD 39 undef = .string FL := (hdep 39 (of_decide_eq_true (by kernel_rfl))).is 16 rfl
          have hmk := fun (x : Value) (W : World) => SlotG.mk (x := x) (w := W) 17 rfl hGN
          clear hGN ha hdep
          have hs : ¬ 9223372036854775807 < T0.size + 2 + 2 + 4 + 4 := by omega
          go_simp
          exact ⟨_, rfl, Below.refl _ _, hmk _ _ rfl⟩
        · intro a' w' hb ha hdep
          have d5 : a'.tmps.getD 5 undef = .pointer (some ⟨wr.heap.size, 0, none⟩) := ha.at 5 (by kernel_rfl)
          have hmk := fun (x : Value) (W : World) => SlotG.mk (x := x) (w := W) 18 rfl hGN
          clear hGN ha hdep
          go_simp
          exact ⟨_, rfl, Below.refl _ _, hmk _ _ rfl⟩
        · intro a' w' hb ha hdep
          have d41 : a'.tmps.getD 41 undef = .pointer (some ⟨wr.heap.size, 2, none⟩) := (hdep 41 (of_decide_eq_true (by kernel_rfl))).is 18 rfl
          have hmk := fun (x : Value) (W : World) => SlotG.mk (x := x) (w := W) 19 rfl hGN
          clear hGN ha hdep
          have c2 : w'.cell? ⟨wr.heap.size, 2, none⟩ = some (.int .i64 n) := (HR.out.below hb HR.out.lt).cell 2
          go_simp
          exact ⟨_, rfl, Below.refl _ _, hmk _ _ rfl⟩
        · intro a' w' hb ha hdep
          have d42 : a'.tmps.getD 42 undef = .int .i64 n := (hdep 42 (of_decide_eq_true (by kernel_rfl))).is 19 rfl
          have hmk := fun (x : Value) (W : World) => SlotG.mk (x := x) (w := W) 20 rfl hGN
          clear hGN ha hdep
          go_simp
          refine (HFn.out _).mono ?_
          rintro e w2 ⟨rfl, hb2⟩
          exact ⟨_, rfl, hb2, hmk _ _ rfl⟩
        · intro a' w' hb ha hdep
          have d40 : a'.tmps.getD 40 undef = .string (T0 ++ W2 ++ WT ++ FA ++ FL) := (hdep 40 (of_decide_eq_true (by kernel_rfl))).is 17 rfl
          have d43 : a'.tmps.getD 43 undef = .string FN := (hdep 43 (of_decide_eq_true (by kernel_rfl))).is 20 rfl
          have hmk := fun (x : Value) (W : World) => SlotG.mk (x := x) (w := W) 21 rfl hGN
          clear hGN ha hdep
          have hs : ¬ 9223372036854775807 < T0.size + 2 + 2 + 4 + 4 + 4 := by omega
          go_simp
          exact ⟨_, rfl, Below.refl _ _, hmk _ _ rfl⟩
        · intro a' w' hb ha hdep
          have d5 : a'.tmps.getD 5 undef = .pointer (some ⟨wr.heap.size, 0, none⟩) := ha.at 5 (by kernel_rfl)
          have hmk := fun (x : Value) (W : World) => SlotG.mk (x := x) (w := W) 22 rfl hGN
          clear hGN ha hdep
          go_simp
          exact ⟨_, rfl, Below.refl _ _, hmk _ _ rfl⟩
        · intro a' w' hb ha hdep
          have d45 : a'.tmps.getD 45 undef = .pointer (some ⟨wr.heap.size, 3, none⟩) := (hdep 45 (of_decide_eq_true (by kernel_rfl))).is 22 rfl
          have hmk := fun (x : Value) (W : World) => SlotG.mk (x := x) (w := W) 23 rfl hGN
          clear hGN ha hdep
          have c3 : w'.cell? ⟨wr.heap.size, 3, none⟩ = some (.int .i64 m) := (HR.out.below hb HR.out.lt).cell 3
          go_simp
          exact ⟨_, rfl, Below.refl _ _, hmk _ _ rfl⟩
        · intro a' w' hb ha hdep
          have d46 : a'.tmps.getD 46 undef = .int .i64 m := (hdep 46 (of_decide_eq_true (by kernel_rfl))).is 23 rfl
          have hmk := fun (x : Value) (W : World) => SlotG.mk (x := x) (w := W) 24 rfl hGN
          clear hGN ha hdep
          go_simp
          refine (HFm.out _).mono ?_
          rintro e w2 ⟨rfl, hb2⟩
          exact ⟨_, rfl, hb2, hmk _ _ rfl⟩
        · intro a' w' hb ha hdep
          have d44 : a'.tmps.getD 44 undef = .string (T0 ++ W2 ++ WT ++ FA ++ FL ++ FN) := (hdep 44 (of_decide_eq_true (by kernel_rfl))).is 21 rfl
          have d47 : a'.tmps.getD 47 undef = .string FM := (hdep 47 (of_decide_eq_true (by kernel_rfl))).is 24 rfl
          have hmk := fun (x : Value) (W : World) => SlotG.mk (x := x) (w := W) 25 rfl hGN
          clear hGN ha hdep
          have hs : ¬ 9223372036854775807 < T0.size + 2 + 2 + 4 + 4 + 4 + 4 := by omega
          go_simp
          exact ⟨_, rfl, Below.refl _ _, hmk _ _ rfl⟩
      · intro a' w' hb' ha hG
        clear hGN
        have d48 : a'.tmps.getD 48 undef = .string (T0 ++ W2 ++ WT ++ FA ++ FL ++ FN ++ FM) := (hG _ (List.mem_of_getElem? (i := 25) rfl) 48 rfl).is 25 rfl
        have d0 : a'.tmps.getD 0 undef = .agg #[.int .i64 c, .slice (some ⟨g, 0, none⟩) es.length cap] := ha.at 0 (by kernel_rfl)
        have d1 : a'.tmps.getD 1 undef = .pointer (some ⟨w.heap.size, 0, none⟩) := ha.at 1 (by kernel_rfl)
        have d2 : a'.tmps.getD 2 undef = .string ⟨#[]⟩ := ha.at 2 (by kernel_rfl)
        have d4 : a'.tmps.getD 4 undef = .int .i64 (k : Int) := ha.at 4 (by kernel_rfl)
        have d6 : a'.tmps.getD 6 undef = .pointer (some ⟨w.heap.size, 0, none⟩) := ha.at 6 (by kernel_rfl)
        have d7 : a'.tmps.getD 7 undef = .int .i64 c := ha.at 7 (by kernel_rfl)
        have d8 : a'.tmps.getD 8 undef = .int .u8 c := ha.at 8 (by kernel_rfl)
        have d9 : a'.tmps.getD 9 undef = .slice (some ⟨w.heap.size + 1, 0, none⟩) 4 4 := ha.at 9 (by kernel_rfl)
        have d10 : a'.tmps.getD 10 undef = .string HD := ha.at 10 (by kernel_rfl)
        have d49 : a'.tmps.getD 49 undef = undef := ha.at 49 (by kernel_rfl)
        have e2 : a' = ⟨#[a'.tmps.getD 0 undef, a'.tmps.getD 1 undef, a'.tmps.getD 2 undef, a'.tmps.getD 3 undef, a'.tmps.getD 4 undef, a'.tmps.getD 5 undef, a'.tmps.getD 6 undef, a'.tmps.getD 7 undef, a'.tmps.getD 8 undef, a'.tmps.getD 9 undef, a'.tmps.getD 10 undef, a'.tmps.getD 11 undef, a'.tmps.getD 12 undef, a'.tmps.getD 13 undef, a'.tmps.getD 14 undef, a'.tmps.getD 15 undef, a'.tmps.getD 16 undef, a'.tmps.getD 17 undef, a'.tmps.getD 18 undef, a'.tmps.getD 19 undef, a'.tmps.getD 20 undef, a'.tmps.getD 21 undef, a'.tmps.getD 22 undef, a'.tmps.getD 23 undef, a'.tmps.getD 24 undef, a'.tmps.getD 25 undef, a'.tmps.getD 26 undef, a'.tmps.getD 27 undef, a'.tmps.getD 28 undef, a'.tmps.getD 29 undef, a'.tmps.getD 30 undef, a'.tmps.getD 31 undef, a'.tmps.getD 32 undef, a'.tmps.getD 33 undef, a'.tmps.getD 34 undef, a'.tmps.getD 35 undef, a'.tmps.getD 36 undef, a'.tmps.getD 37 undef, a'.tmps.getD 38 undef, a'.tmps.getD 39 undef, a'.tmps.getD 40 undef, a'.tmps.getD 41 undef, a'.tmps.getD 42 undef, a'.tmps.getD 43 undef, a'.tmps.getD 44 undef, a'.tmps.getD 45 undef, a'.tmps.getD 46 undef, a'.tmps.getD 47 undef, a'.tmps.getD 48 undef, a'.tmps.getD 49 undef], []⟩ := by rw [← (show a'.defers = [] from ha.2.1)]; exact act_eq a' 50 ha.1
        rw [d48, d0, d1, d2, d4, d6, d7, d8, d9, d10, d49] at e2
        clear hG ha d48 d0 d1 d2 d4 d6 d7 d8 d9 d10 d49
        generalize a'.tmps.getD 3 undef = x3 at *
        generalize a'.tmps.getD 5 undef = x5 at *
        generalize a'.tmps.getD 11 undef = x11 at *
        generalize a'.tmps.getD 12 undef = x12 at *
        generalize a'.tmps.getD 13 undef = x13 at *
        generalize a'.tmps.getD 14 undef = x14 at *
        generalize a'.tmps.getD 15 undef = x15 at *
        generalize a'.tmps.getD 16 undef = x16 at *
        generalize a'.tmps.getD 17 undef = x17 at *
        generalize a'.tmps.getD 18 undef = x18 at *
        generalize a'.tmps.getD 19 undef = x19 at *
        generalize a'.tmps.getD 20 undef = x20 at *
        generalize a'.tmps.getD 21 undef = x21 at *
        generalize a'.tmps.getD 22 undef = x22 at *
        generalize a'.tmps.getD 23 undef = x23 at *
        generalize a'.tmps.getD 24 undef = x24 at *
        generalize a'.tmps.getD 25 undef = x25 at *
        generalize a'.tmps.getD 26 undef = x26 at *
        generalize a'.tmps.getD 27 undef = x27 at *
        generalize a'.tmps.getD 28 undef = x28 at *
        generalize a'.tmps.getD 29 undef = x29 at *
        generalize a'.tmps.getD 30 undef = x30 at *
        generalize a'.tmps.getD 31 undef = x31 at *
        generalize a'.tmps.getD 32 undef = x32 at *
        generalize a'.tmps.getD 33 undef = x33 at *
        generalize a'.tmps.getD 34 undef = x34 at *
        generalize a'.tmps.getD 35 undef = x35 at *
        generalize a'.tmps.getD 36 undef = x36 at *
        generalize a'.tmps.getD 37 undef = x37 at *
        generalize a'.tmps.getD 38 undef = x38 at *
        generalize a'.tmps.getD 39 undef = x39 at *
        generalize a'.tmps.getD 40 undef = x40 at *
        generalize a'.tmps.getD 41 undef = x41 at *
        generalize a'.tmps.getD 42 undef = x42 at *
        generalize a'.tmps.getD 43 undef = x43 at *
        generalize a'.tmps.getD 44 undef = x44 at *
        generalize a'.tmps.getD 45 undef = x45 at *
        generalize a'.tmps.getD 46 undef = x46 at *
        generalize a'.tmps.getD 47 undef = x47 at *
        subst e2
        simp only [List.drop_succ_cons, List.drop_zero]
        have hb2 := hb.trans (((ent_new0 wr (.cells #[.int .i64 a, .int .i64 l, .int .i64 n, .int .i64 m, .int .i64 t] 44)).trans (hb'.mono (by simp))).mono (by have := hb.size; simp at this; omega))
        rw [HN.out]
        clear hb' HN HW2 HWt HFa HFl HFn HFm HM HR c0 c1 c2 c3 c4 s1 s2 s3 s4 s5 s6 hsz x1 hconv hB0
        go_wp2
        go_roundw
        case rel => exact ⟨k + 1, hlt, by go_num, rfl, hb2⟩
        case measure => simp [intOf]; omega
    · obtain rfl : k = es.length := by omega
      rw [HF.out]
      clear hlt hk
      go_wp2
      go_ret
      exact ⟨rfl, hbw⟩
set_option maxRecDepth 100000 in
theorem specRipBytes_any (c : Int) (p : Option Addr) (cap : Nat) (es : List Ent) (w : World) (h : EntsIn w p es) (hn : es.length ≤ 100000000) :
    Calls Tryd.prog 17 #[ripV c p es.length cap] w fun e w' => e = .returned (.string (ripO c es)) ∧ Below w.heap.size w w' := by
  have HR : Hid (∀ w, EntsIn w p es → Calls Tryd.prog 23 #[ripV c p es.length cap] w fun e w' => e = .returned (.bool (ripB c es)) ∧ Below w.heap.size w w') := fun w h => specRipRight_any c p cap es w h hn
  have HX : Hid (EntsIn w p es) := h
  clear h
  by_cases hr : ripB c es = true
  · have HO : Hid (ripO c es = ripT c es) := if_pos hr
    have HB : Hid (∀ w, EntsIn w p es → Calls Tryd.prog 34 #[ripV c p es.length cap] w fun e w' => e = .returned (.string (ripT c es)) ∧ Below w.heap.size w w') := fun w h => spec05Bytes_any c p cap es w h hr
    rw [hr] at HR
    rw [HO.out]
    unfold ripV at *
    clear hr HO
    generalize ripT c es = RT at *
    go_enter Tryd.func17, Tryd.ntmps17
    go_wp2_with fail
    refine (HR.out _ (HX.out.alloc _)).mono ?_
    rintro e w1 ⟨rfl, hb1⟩
    obtain ⟨c0, c1, hs1, hB1⟩ := cell2_later rfl hb1
    clear hb1 HR
    go_wp2_with fail
    refine (HB.out _ (HX.out.below hB1)).mono ?_
    rintro e w2 ⟨rfl, hb2⟩
    have hB2 := hB1.trans (hb2.mono hB1.size)
    clear hb2
    go_wp2
    go_ret
    exact ⟨rfl, hB2⟩
  · have HO : Hid (ripO c es = ByteArray.empty) := if_neg hr
    have hr' : ripB c es = false := by simpa using hr
    rw [hr'] at HR
    rw [HO.out]
    unfold ripV at *
    go_enter Tryd.func17, Tryd.ntmps17
    go_wp2_with fail
    refine (HR.out _ (HX.out.alloc _)).mono ?_
    rintro e w1 ⟨rfl, hb1⟩
    have hB1 := (ent_new0 w _).trans (hb1.mono (by simp))
    clear hb1
    go_wp2
    go_ret
    exact ⟨rfl, hB1⟩
end Go.Proofs.YtehiipddbgoajaaDoor
/- What is signed, of the model. -/
namespace Go.Proofs.YtehiipddbgoajaaDoor
open Go.RowKit Go.Sort

set_option maxRecDepth 100000 in
theorem specKey_any (k : ByteArray) (w : World) (hk : k.size ≤ maxLen) : Calls Tryd.prog 24 #[.string k] w fun e w' => e = .returned (.bool (inKey k)) ∧ w = w' := by
  unfold maxLen at hk
  by_cases h1 : 1 ≤ k.size
  · have d1 : decide (1 ≤ (k.size : Int)) = true := by simp; omega
    by_cases h2 : k.size ≤ 32
    · have d2 : decide ((k.size : Int) ≤ 32) = true := by simp; omega
      have HE : Hid (inKey k = true) := by show decide _ = true; simp [h1, h2]
      rw [HE.out]
      go_enter Tryd.func24, Tryd.ntmps24
      go_wp2
      go_ret
      exact ⟨rfl, rfl⟩
    · have d2 : decide ((k.size : Int) ≤ 32) = false := by simp; omega
      have HE : Hid (inKey k = false) := by show decide _ = false; simp; omega
      rw [HE.out]
      go_enter Tryd.func24, Tryd.ntmps24
      go_wp2
      go_ret
      exact ⟨rfl, rfl⟩
  · have d1 : decide (1 ≤ (k.size : Int)) = false := by simp; omega
    have HE : Hid (inKey k = false) := by show decide _ = false; simp; omega
    rw [HE.out]
    go_enter Tryd.func24, Tryd.ntmps24
    go_wp2
    go_ret
    exact ⟨rfl, rfl⟩
theorem mark_eq (R : ByteArray) (seq : Int) : R ++ wordT 65535 ++ wordT 3 ++ fourQ seq = R ++ markT seq := by
  apply ByteArray.ext
  apply Array.toList_inj.1
  simp [wordT, fourQ, fourQL, markT, markL, wordsL]
set_option maxRecDepth 100000 in
set_option maxHeartbeats 1000000 in
theorem spec05Sign_any (c : Int) (p : Option Addr) (cap : Nat) (es : List Ent) (k : ByteArray) (seq : Int) (w : World) (h : EntsIn w p es) (hr : ripB c es = true) (hk : inKey k = true) (hs : inSeq seq = true) :
    Calls Tryd.prog 26 #[ripV c p es.length cap, .string k, .int .i64 seq] w fun e w' => e = .returned (.string (signT c es k seq)) ∧ Below w.heap.size w w' := by
  have h8 := (ripB_spec hr).2.1
  have hk2 : 1 ≤ k.size ∧ k.size ≤ 32 := by simpa [inKey] using hk
  have hseq : 1 ≤ seq ∧ seq ≤ 1000000 := by simpa [inSeq] using hs
  have HX : Hid (EntsIn w p es) := h
  have HB : Hid (∀ w, EntsIn w p es → Calls Tryd.prog 34 #[ripV c p es.length cap] w fun e w' => e = .returned (.string (ripT c es)) ∧ Below w.heap.size w w') := fun w h => spec05Bytes_any c p cap es w h hr
  have HW1 : Hid (∀ w, Calls Tryd.prog 40 #[.int .i64 65535] w fun e w' => e = .returned (.string (wordT 65535)) ∧ Below w.heap.size w w') := fun w => specWord_any 65535 w (by omega) (by omega)
  have HW2 : Hid (∀ w, Calls Tryd.prog 40 #[.int .i64 3] w fun e w' => e = .returned (.string (wordT 3)) ∧ Below w.heap.size w w') := fun w => specWord_any 3 w (by omega) (by omega)
  have HF : Hid (∀ w, Calls Tryd.prog 41 #[.int .i64 seq] w fun e w' => e = .returned (.string (fourQ seq)) ∧ Below w.heap.size w w') := fun w => spec4_any seq w (by omega) (by omega)
  have HME : Hid (ripT c es ++ wordT 65535 ++ wordT 3 ++ fourQ seq = aheadT c es seq) := mark_eq _ _
  have hsz := aheadT_size c es seq
  have HM : Hid (∀ w, Calls Tryd.prog 42 #[.string k, .string (aheadT c es seq)] w fun e w' => e = .returned (.string (macT k (aheadT c es seq))) ∧ Below w.heap.size w w') := fun w => specMac_in k _ w (by omega) (by omega)
  have HS : Hid (∀ w, (Instr.slice 9 (.string (macT k (aheadT c es seq))) none (some (.int .i64 16)) none).run Tryd.prog w = .ok (.string (shortT k (aheadT c es seq))) w) := fun w => slice_upto (macT k (aheadT c es seq)) 16 16 rfl (by rw [macT_size]; omega) w
  have HG : Hid (signT c es k seq = aheadT c es seq ++ shortT k (aheadT c es seq)) := rfl
  have s0 := ripT_size c es
  have s1 := wordT_size 65535
  have s2 := wordT_size 3
  have s3 := fourQ_size seq
  have s4 := shortT_size k (aheadT c es seq)
  rw [HG.out]
  unfold ripV at *
  clear hr hk hs h HG
  generalize ripT c es = RT at *
  generalize wordT 65535 = W1 at *
  generalize wordT 3 = W2 at *
  generalize fourQ seq = F at *
  generalize shortT k (aheadT c es seq) = ST at *
  generalize macT k (aheadT c es seq) = MT at *
  generalize aheadT c es seq = AT at *
  go_enter Tryd.func26, Tryd.ntmps26
  go_wp2_with fail
  refine (HB.out _ (HX.out.alloc _)).mono ?_
  rintro e w1 ⟨rfl, hb1⟩
  have hB1 := (ent_new0 w _).trans (hb1.mono (by simp))
  clear hb1 HB
  go_wp2_with fail
  refine (HW1.out _).mono ?_
  rintro e w2 ⟨rfl, hb2⟩
  have hB2 := hB1.trans (hb2.mono hB1.size)
  clear hb2 HW1 hB1
  have z1 : ¬ 9223372036854775807 < 4 + 20 * es.length + 2 := by omega
  go_wp2_with fail
  refine (HW2.out _).mono ?_
  rintro e w3 ⟨rfl, hb3⟩
  have hB3 := hB2.trans (hb3.mono hB2.size)
  clear hb3 HW2 hB2
  have z2 : ¬ 9223372036854775807 < 4 + 20 * es.length + 2 + 2 := by omega
  go_wp2_with fail
  refine (HF.out _).mono ?_
  rintro e w4 ⟨rfl, hb4⟩
  have hB4 := hB3.trans (hb4.mono hB3.size)
  clear hb4 HF hB3
  have z3 : ¬ 9223372036854775807 < 4 + 20 * es.length + 2 + 2 + 4 := by omega
  go_wp2_with fail
  rw [HME.out]
  refine (HM.out _).mono ?_
  rintro e w5 ⟨rfl, hb5⟩
  have hB5 := hB4.trans (hb5.mono hB4.size)
  clear hb5 HM hB4 HME s1 s2 s3 s0
  have hsl := HS.out w5
  have z4 : ¬ 9223372036854775807 < 12 + 20 * es.length + 16 := by omega
  go_wp2
  go_ret
  exact ⟨rfl, hB5⟩
set_option maxRecDepth 100000 in
set_option maxHeartbeats 1000000 in
theorem specRipSign_any (c : Int) (p : Option Addr) (cap : Nat) (es : List Ent) (k : ByteArray) (seq : Int) (w : World) (h : EntsIn w p es) (hn : es.length ≤ 100000000) (hz : k.size ≤ 1048576) :
    Calls Tryd.prog 11 #[ripV c p es.length cap, .string k, .int .i64 seq] w fun e w' => e = .returned (.string (signO c es k seq)) ∧ Below w.heap.size w w' := by
  have HR : Hid (∀ w, EntsIn w p es → Calls Tryd.prog 23 #[ripV c p es.length cap] w fun e w' => e = .returned (.bool (ripB c es)) ∧ Below w.heap.size w w') := fun w h => specRipRight_any c p cap es w h hn
  have HX : Hid (EntsIn w p es) := h
  have HK : Hid (∀ w, Calls Tryd.prog 24 #[.string k] w fun e w' => e = .returned (.bool (inKey k)) ∧ w = w') := fun w => specKey_any k w (by unfold maxLen; omega)
  have HQ : Hid (∀ w, Calls Tryd.prog 25 #[.int .i64 seq, .int .i64 1, .int .i64 1000000] w fun e w' => e = .returned (.bool (inSeq seq)) ∧ w = w') := l03Is_any seq 1 1000000
  clear h
  by_cases h8 : k.size ≤ 8000
  · have d8 : decide (8000 < (k.size : Int)) = false := by simp; omega
    by_cases hr : ripB c es = true
    · rw [hr] at HR
      by_cases hk : inKey k = true
      · rw [hk] at HK
        by_cases hs : inSeq seq = true
        · rw [hs] at HQ
          have HA : Hid (signO c es k seq = signT c es k seq) := if_pos ⟨hr, hs, hk⟩
          rw [HA.out]
          have HS : Hid (∀ w, EntsIn w p es → Calls Tryd.prog 26 #[ripV c p es.length cap, .string k, .int .i64 seq] w fun e w' => e = .returned (.string (signT c es k seq)) ∧ Below w.heap.size w w') := fun w h => spec05Sign_any c p cap es k seq w h hr hk hs
          unfold ripV at *
          clear HA hr hs hk
          generalize signT c es k seq = GT at *
          go_enter Tryd.func11, Tryd.ntmps11
          go_wp2_with fail
          refine (HR.out _ (HX.out.alloc _)).mono ?_
          rintro e w1 ⟨rfl, hb1⟩
          obtain ⟨c0, c1, hs1, hB1⟩ := cell2_later rfl hb1
          clear hb1
          go_wp2_with fail
          refine (HK.out _).mono ?_
          rintro e w2 ⟨rfl, rfl⟩
          go_wp2_with fail
          refine (HQ.out _).mono ?_
          rintro e w2 ⟨rfl, rfl⟩
          go_wp2_with fail
          refine (HS.out _ (HX.out.below hB1)).mono ?_
          rintro e w2 ⟨rfl, hb2⟩
          have hB2 := hB1.trans (hb2.mono hB1.size)
          clear hb2
          go_wp2
          go_ret
          exact ⟨rfl, hB2⟩
        · have HA : Hid (signO c es k seq = ByteArray.empty) := if_neg (fun h => hs h.2.1)
          rw [show inSeq seq = false by simpa using hs] at HQ
          rw [HA.out]
          unfold ripV at *
          go_enter Tryd.func11, Tryd.ntmps11
          go_wp2_with fail
          refine (HR.out _ (HX.out.alloc _)).mono ?_
          rintro e w1 ⟨rfl, hb1⟩
          have hB1 := (ent_new0 w _).trans (hb1.mono (by simp))
          clear hb1
          go_wp2_with fail
          refine (HK.out _).mono ?_
          rintro e w2 ⟨rfl, rfl⟩
          go_wp2_with fail
          refine (HQ.out _).mono ?_
          rintro e w2 ⟨rfl, rfl⟩
          go_wp2
          go_ret
          exact ⟨rfl, hB1⟩
      · have HA : Hid (signO c es k seq = ByteArray.empty) := if_neg (fun h => hk h.2.2)
        rw [show inKey k = false by simpa using hk] at HK
        rw [HA.out]
        unfold ripV at *
        go_enter Tryd.func11, Tryd.ntmps11
        go_wp2_with fail
        refine (HR.out _ (HX.out.alloc _)).mono ?_
        rintro e w1 ⟨rfl, hb1⟩
        have hB1 := (ent_new0 w _).trans (hb1.mono (by simp))
        clear hb1
        go_wp2_with fail
        refine (HK.out _).mono ?_
        rintro e w2 ⟨rfl, rfl⟩
        go_wp2
        go_ret
        exact ⟨rfl, hB1⟩
    · have HA : Hid (signO c es k seq = ByteArray.empty) := if_neg (fun h => hr h.1)
      rw [show ripB c es = false by simpa using hr] at HR
      rw [HA.out]
      unfold ripV at *
      go_enter Tryd.func11, Tryd.ntmps11
      go_wp2_with fail
      refine (HR.out _ (HX.out.alloc _)).mono ?_
      rintro e w1 ⟨rfl, hb1⟩
      have hB1 := (ent_new0 w _).trans (hb1.mono (by simp))
      clear hb1
      go_wp2
      go_ret
      exact ⟨rfl, hB1⟩
  · have HA : Hid (signO c es k seq = ByteArray.empty) := if_neg (fun h => by have h2 : 1 ≤ k.size ∧ k.size ≤ 32 := by simpa [inKey] using h.2.2
                                                                              omega)
    have d8 : decide (8000 < (k.size : Int)) = true := by simp; omega
    rw [HA.out]
    unfold ripV at *
    go_enter Tryd.func11, Tryd.ntmps11
    go_wp2
    go_ret
    exact ⟨rfl, ent_new0 w _⟩
end Go.Proofs.YtehiipddbgoajaaDoor
/- What the row's list gives a walk: the table of the rounds' keys, cell by cell. -/
namespace Go.Proofs.YtehiipddbgoajaaDoor
open Go.RowKit

theorem keys_type : (Tryd.prog.globals[6]?).map (·.type) = some 114 := by kernel_rfl
theorem laid_keys {W : World} {name : String} {rest : List (String × DataW Unit)} (hg : Tryd.prog.globalNamed name = some 6) (h : laidMet Tryd.prog ((name, Lib.tabData .u32 (keysN.map fun (x : Nat) => (x : Int))) :: rest) W) : Laid W := by
  have hT := Lib.tabIs_of_head hg keys_type Tryd.underlying114 Tryd.underlying107 (by kernel_rfl) (by kernel_rfl) h
  intro i hi
  have hc := hT.cell hg i (by simpa [keysN_length] using hi)
  rw [hc]
  have hlt : i < keysN.length := by rw [keysN_length]; exact hi
  simp [hlt]
end Go.Proofs.YtehiipddbgoajaaDoor
