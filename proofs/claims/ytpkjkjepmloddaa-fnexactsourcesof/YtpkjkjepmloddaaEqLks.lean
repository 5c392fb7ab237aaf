/- The laws' own look: Leaks and lists of them are as themselves. (Written by gen_lks.py.) -/
import Derived.Test.YtpkjkjepmloddaaLks
import Derived.Test.YtpkjkjepmloddaaEqNet
import Derived.Lib.QuietBelow
import Derived.BigQuiet
namespace Go.Proofs.Ytpkjkjepmloddaa
open Go.RowKit Go.Sort

theorem boxes6L {w w1 : World} {xs ys : List Value} {t u : TypeId} (h : Below ((w.alloc (.cells xs.toArray t)).alloc (.cells ys.toArray u)).heap.size ((w.alloc (.cells xs.toArray t)).alloc (.cells ys.toArray u)) w1) :
    (∀ k v, xs[k]? = some v → w1.cell? ⟨w.heap.size, k, none⟩ = some v) ∧ (∀ k v, ys[k]? = some v → w1.cell? ⟨w.heap.size + 1, k, none⟩ = some v) ∧ Below w.heap.size w w1 := by
  have q0 := (Row.new w t xs).alloc (.cells ys.toArray u)
  have q1 := Row.new (w.alloc (.cells xs.toArray t)) u ys
  have p0 := q0.below h q0.lt
  have p1 := q1.below h q1.lt
  have e1 : (w.alloc (.cells xs.toArray t)).heap.size = w.heap.size + 1 := by simp
  rw [e1] at p1
  exact ⟨fun k v hv => (p0.cell k).trans hv, fun k v hv => (p1.cell k).trans hv, ((ent_new0 w _).alloc (by simp) _).trans (h.mono (by simp; omega))⟩
set_option maxRecDepth 100000 in
theorem eqLeak_same (e : Lk) (w : World) : Calls Try.prog 42 #[lkV e, lkV e] w fun r w' => r = .returned (.bool true) ∧ Below w.heap.size w w' := by
  obtain ⟨fr, tt, a, l, ad, tg⟩ := e
  unfold lkV lkA
  have HN : Hid (∀ w, Calls Try.prog 73 #[.agg #[.int .i64 a, .int .i64 l], .agg #[.int .i64 a, .int .i64 l]] w fun e w' => e = .returned (.bool true) ∧ Below w.heap.size w w') := eqNet_same a l
  have e0 : (fr != fr) = false := by simp
  have e1 : (tt != tt) = false := by simp
  have e2 : (ad != ad) = false := by simp
  have e3 : (tg != tg) = false := by simp
  go_enter Try.func42, Try.ntmps42
  go_wp2_with fail
  refine (HN.out _).mono ?_
  rintro e w1 ⟨rfl, hb1⟩
  obtain ⟨k0, k1, hB⟩ := boxes6L (xs := [.int .i64 fr, .int .i64 tt, .int .i64 a, .int .i64 l, .int .i64 ad, .int .i64 tg]) (ys := [.int .i64 fr, .int .i64 tt, .int .i64 a, .int .i64 l, .int .i64 ad, .int .i64 tg]) hb1
  have c4 := k0 4 _ rfl
  have d4 := k1 4 _ rfl
  have c5 := k0 5 _ rfl
  have d5 := k1 5 _ rfl
  clear k0 k1 hb1 HN
  go_wp2
  go_ret
  exact ⟨rfl, hB⟩
set_option maxRecDepth 100000 in
theorem eqLeakS_any (p q : Option Addr) (c0 d0 : Nat) (es : List Lk) (w : World) (hp : LksIn w p es) (hq : LksIn w q es) (hn : es.length ≤ 100000000) : Calls Try.prog 16 #[.slice p es.length c0, .slice q es.length d0] w fun r w' => r = .returned (.bool true) ∧ Below w.heap.size w w' := by
  have HE : Hid (∀ e w, Calls Try.prog 42 #[lkV e, lkV e] w fun r w' => r = .returned (.bool true) ∧ Below w.heap.size w w') := eqLeak_same
  have HX : Hid (LksIn w p es ∧ LksIn w q es) := ⟨hp, hq⟩
  have h0 : ((es.length : Int) != (es.length : Int)) = false := by simp
  clear hp hq
  go_enter Try.func16, Try.ntmps16
  go_wp2_with fail
  go_loopw [5] (fun i wr => ∃ k : Nat, k ≤ es.length ∧ i = .int .i64 k ∧ Below w.heap.size w wr) (fun i _ => es.length - (intOf i).toNat)
  case atStart => exact ⟨0, Nat.zero_le _, rfl, Below.refl _ _⟩
  case round =>
    obtain ⟨k, hk, rfl, hb⟩ := hrel
    by_cases hlt : k < es.length
    · obtain ⟨g, fr, tt, a, l, ad, tg, rfl, hg, hek, x0, x1, x2, x3, x4, x5⟩ := (HX.out.1.below hb).at k hlt
      obtain ⟨g', fr', tt', a', l', ad', tg', rfl, hg', hek', y0, y1, y2, y3, y4, y5⟩ := (HX.out.2.below hb).at k hlt
      rw [hek] at hek'
      simp only [Lk.mk.injEq] at hek'
      obtain ⟨rfl, rfl, rfl, rfl, rfl, rfl⟩ := hek'
      have HEk : Hid (∀ w, Calls Try.prog 42 #[.agg #[.int .i64 fr, .int .i64 tt, .int .i64 a, .int .i64 l, .int .i64 ad, .int .i64 tg], .agg #[.int .i64 fr, .int .i64 tt, .int .i64 a, .int .i64 l, .int .i64 ad, .int .i64 tg]] w fun r w' => r = .returned (.bool true) ∧ Below w.heap.size w w') := HE.out ⟨fr, tt, a, l, ad, tg⟩
      clear HE hek HX
      replace x0 := cell_regrown x0
      replace y0 := cell_regrown y0
      replace x1 := cell_regrown x1
      replace y1 := cell_regrown y1
      replace x2 := cell_regrown x2
      replace y2 := cell_regrown y2
      replace x3 := cell_regrown x3
      replace y3 := cell_regrown y3
      replace x4 := cell_regrown x4
      replace y4 := cell_regrown y4
      replace x5 := cell_regrown x5
      replace y5 := cell_regrown y5
      go_wp2_with fail
      refine wp_region_quiet_below (by kernel_rfl) (by kernel_rfl) ?_
      repeat (go_big_quiet_step ((go_at_call 42; exact Calls.regrown_of (HEk.out _))))
      refine wpQuiet_nil ?_
      intro w1 hw'
      obtain ⟨⟨dq, osq⟩, hw''⟩ := hw'
      have hbq := below_regrown wr dq osq
      rw [← hw''] at hbq
      clear hw'' osq dq x0 x1 x2 x3 x4 x5 y0 y1 y2 y3 y4 y5 HEk
      have hb2 := hb.trans (hbq.mono hb.size)
      clear hbq
      go_wp2
      go_roundw
      case rel => exact ⟨k + 1, hlt, by go_num, hb2⟩
      case measure => simp [intOf]; omega
    · obtain rfl : k = es.length := by omega
      clear hlt hk
      go_wp2
      go_ret
      exact ⟨rfl, hb⟩
end Go.Proofs.Ytpkjkjepmloddaa
