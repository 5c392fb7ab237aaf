/- The laws' own look: entries, lists of them and Rips are as themselves. -/
import Derived.Test.YtehiipddbgoajaaEnts
import Derived.Test.YtehiipddbgoajaaEqNet
namespace Go.Proofs.Ytehiipddbgoajaa
open Go.RowKit Go.Sort

/-- Two boxes of five cells, one behind the other: what they hold behind a later call. -/
theorem boxes5 {w w1 : World} {x0 x1 x2 x3 x4 y0 y1 y2 y3 y4 : Value} {t u : TypeId} (h : Below ((w.alloc (.cells #[x0, x1, x2, x3, x4] t)).alloc (.cells #[y0, y1, y2, y3, y4] u)).heap.size ((w.alloc (.cells #[x0, x1, x2, x3, x4] t)).alloc (.cells #[y0, y1, y2, y3, y4] u)) w1) :
    (∀ k v, [x0, x1, x2, x3, x4][k]? = some v → w1.cell? ⟨w.heap.size, k, none⟩ = some v) ∧ (∀ k v, [y0, y1, y2, y3, y4][k]? = some v → w1.cell? ⟨w.heap.size + 1, k, none⟩ = some v) ∧ Below w.heap.size w w1 := by
  have q0 := (Row.new w t [x0, x1, x2, x3, x4]).alloc (.cells #[y0, y1, y2, y3, y4] u)
  have q1 := Row.new (w.alloc (.cells #[x0, x1, x2, x3, x4] t)) u [y0, y1, y2, y3, y4]
  have p0 := q0.below h q0.lt
  have p1 := q1.below h q1.lt
  have e1 : (w.alloc (.cells #[x0, x1, x2, x3, x4] t)).heap.size = w.heap.size + 1 := by simp
  rw [e1] at p1
  exact ⟨fun k v hv => (p0.cell k).trans hv, fun k v hv => (p1.cell k).trans hv, ((ent_new0 w _).alloc (by simp) _).trans (h.mono (by simp; omega))⟩
set_option maxRecDepth 100000 in
theorem eqEntry_same (e : Ent) (w : World) : Calls Try.prog 31 #[entV e, entV e] w fun r w' => r = .returned (.bool true) ∧ Below w.heap.size w w' := by
  obtain ⟨a, l, n, m, t⟩ := e
  unfold entV
  have HN : Hid (∀ w, Calls Try.prog 38 #[.agg #[.int .i64 a, .int .i64 l], .agg #[.int .i64 a, .int .i64 l]] w fun e w' => e = .returned (.bool true) ∧ Below w.heap.size w w') := eqNet_same a l
  have h1 : (n != n) = false := by simp
  have h2 : (m != m) = false := by simp
  have h3 : (t != t) = false := by simp
  go_enter Try.func31, Try.ntmps31
  go_wp2_with fail
  refine (HN.out _).mono ?_
  rintro e w1 ⟨rfl, hb1⟩
  obtain ⟨k0, k1, hB⟩ := boxes5 hb1
  have c2 := k0 2 _ rfl
  have c3 := k0 3 _ rfl
  have c4 := k0 4 _ rfl
  have d2 := k1 2 _ rfl
  have d3 := k1 3 _ rfl
  have d4 := k1 4 _ rfl
  clear k0 k1 hb1 HN
  go_wp2
  go_ret
  exact ⟨rfl, hB⟩
set_option maxRecDepth 100000 in
theorem eqEntryS_any (p q : Option Addr) (c d : Nat) (es : List Ent) (w : World) (hp : EntsIn w p es) (hq : EntsIn w q es) (hn : es.length ≤ 100000000) : Calls Try.prog 25 #[.slice p es.length c, .slice q es.length d] w fun r w' => r = .returned (.bool true) ∧ Below w.heap.size w w' := by
  have HE : Hid (∀ e w, Calls Try.prog 31 #[entV e, entV e] w fun r w' => r = .returned (.bool true) ∧ Below w.heap.size w w') := eqEntry_same
  have HX : Hid (EntsIn w p es ∧ EntsIn w q es) := ⟨hp, hq⟩
  have h0 : ((es.length : Int) != (es.length : Int)) = false := by simp
  clear hp hq
  go_enter Try.func25, Try.ntmps25
  go_wp2_with fail
  go_loopw [5] (fun i wr => ∃ k : Nat, k ≤ es.length ∧ i = .int .i64 k ∧ Below w.heap.size w wr) (fun i _ => es.length - (intOf i).toNat)
  case atStart => exact ⟨0, Nat.zero_le _, rfl, Below.refl _ _⟩
  case round =>
    obtain ⟨k, hk, rfl, hb⟩ := hrel
    by_cases hlt : k < es.length
    · obtain ⟨g, a, l, n, m, t, rfl, hg, hek, c0, c1, c2, c3, c4⟩ := (HX.out.1.below hb).at k hlt
      obtain ⟨g', a', l', n', m', t', rfl, hg', hek', d0, d1, d2, d3, d4⟩ := (HX.out.2.below hb).at k hlt
      rw [hek] at hek'
      simp only [Ent.mk.injEq] at hek'
      obtain ⟨rfl, rfl, rfl, rfl, rfl⟩ := hek'
      have HEk : Hid (∀ w, Calls Try.prog 31 #[.agg #[.int .i64 a, .int .i64 l, .int .i64 n, .int .i64 m, .int .i64 t], .agg #[.int .i64 a, .int .i64 l, .int .i64 n, .int .i64 m, .int .i64 t]] w fun r w' => r = .returned (.bool true) ∧ Below w.heap.size w w') := HE.out ⟨a, l, n, m, t⟩
      clear HE hek HX
      replace c0 := cell_regrown c0
      replace c1 := cell_regrown c1
      replace c2 := cell_regrown c2
      replace c3 := cell_regrown c3
      replace c4 := cell_regrown c4
      replace d0 := cell_regrown d0
      replace d1 := cell_regrown d1
      replace d2 := cell_regrown d2
      replace d3 := cell_regrown d3
      replace d4 := cell_regrown d4
      go_wp2_with fail
      refine wp_region_quiet_below (by kernel_rfl) (by kernel_rfl) ?_
      repeat (go_big_quiet_step ((go_at_call 31; exact Calls.regrown_of (HEk.out _))))
      refine wpQuiet_nil ?_
      intro w1 hw'
      obtain ⟨⟨dq, osq⟩, hw''⟩ := hw'
      have hbq := below_regrown wr dq osq
      rw [← hw''] at hbq
      clear hw'' osq dq c0 c1 c2 c3 c4 d0 d1 d2 d3 d4 HEk
      have hb2 := hb.trans (hbq.mono hb.size)
      clear hbq
      go_wp2
      go_roundw
      case rel => exact ⟨k + 1, hlt, by go_num, hb2⟩
      case measure => simp [intOf]; omega
    · obtain rfl : k = es.length := by omega
      clear hlt hk
      go_wp2
      go_ret
      exact ⟨rfl, hb⟩
set_option maxRecDepth 100000 in
theorem eqRip_any (x : Int) (p q : Option Addr) (c d : Nat) (es : List Ent) (w : World) (hp : EntsIn w p es) (hq : EntsIn w q es) (hn : es.length ≤ 100000000) : Calls Try.prog 13 #[ripV x p es.length c, ripV x q es.length d] w fun r w' => r = .returned (.bool true) ∧ Below w.heap.size w w' := by
  have HE : Hid (∀ w, EntsIn w p es → EntsIn w q es → Calls Try.prog 25 #[.slice p es.length c, .slice q es.length d] w fun r w' => r = .returned (.bool true) ∧ Below w.heap.size w w') := fun w h1 h2 => eqEntryS_any p q c d es w h1 h2 hn
  have HX : Hid (EntsIn w p es ∧ EntsIn w q es) := ⟨hp, hq⟩
  have h0 : (x != x) = false := by simp
  unfold ripV
  clear hp hq
  go_enter Try.func13, Try.ntmps13
  go_wp2_with fail
  refine (HE.out _ ((HX.out.1.alloc _).alloc _) ((HX.out.2.alloc _).alloc _)).mono ?_
  rintro e w1 ⟨rfl, hb1⟩
  have hB : Below w.heap.size w w1 := ((ent_new0 w _).alloc (by simp) _).trans (hb1.mono (by simp; omega))
  clear hb1 HE HX
  go_wp2
  go_ret
  exact ⟨rfl, hB⟩
end Go.Proofs.Ytehiipddbgoajaa
