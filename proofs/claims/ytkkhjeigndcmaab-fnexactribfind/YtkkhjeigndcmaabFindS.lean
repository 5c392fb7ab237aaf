/- RibFind of the model. (Written by gen_finds.py.) -/
import Derived.Test.YtkkhjeigndcmaabRibM
namespace Go.Proofs.Ytkkhjeigndcmaab
open Go.RowKit Go.Sort

/-- The place of a net, or -1. -/
def atV (rs : List Rt) (a l : Int) : Int := match idxN rs a l with | some k => (k : Int) | none => -1
theorem atV_hit {rs : List Rt} {a l : Int} {k : Nat} (hk : k < rs.length) (h : ∀ j, j < k → isN a l rs[j]! = false) (hit : isN a l rs[k] = true) : idxN rs a l = some k := by
  unfold idxN
  rw [List.findIdx?_eq_some_iff_getElem]
  refine ⟨hk, hit, fun j hj => ?_⟩
  have := h j hj
  rw [get_bang (by omega)] at this
  simp [this]
theorem atV_none {rs : List Rt} {a l : Int} (h : ∀ j, j < rs.length → isN a l rs[j]! = false) : idxN rs a l = none := by
  unfold idxN
  rw [List.findIdx?_eq_none_iff]
  intro x hx
  obtain ⟨j, hj, rfl⟩ := List.mem_iff_getElem.1 hx
  have := h j hj
  rwa [get_bang hj] at this
set_option maxRecDepth 100000 in
set_option maxHeartbeats 1000000 in
theorem l06At_any (p : Option Addr) (cap : Nat) (rs : List Rt) (a l : Int) (w : World) (h : RtsIn w p rs) (hn : rs.length ≤ 100000000) :
    Calls Try.prog 29 #[ribV p rs.length cap, netV a l] w fun e w' => e = .returned (.int .i64 (atV rs a l)) ∧ Below w.heap.size w w' := by
  have HX : Hid (RtsIn w p rs) := h
  have HH1 : Hid (∀ k (hk : k < rs.length), (∀ j, j < k → isN a l rs[j]! = false) → isN a l rs[k] = true → atV rs a l = (k : Int)) := fun k hk h1 h2 => by unfold atV; rw [atV_hit hk h1 h2]
  have HH2 : Hid ((∀ j, j < rs.length → isN a l rs[j]! = false) → atV rs a l = -1) := fun h1 => by unfold atV; rw [atV_none h1]
  clear h
  generalize atV rs a l = R at *
  unfold ribV netV
  go_enter Try.func29, Try.ntmps29
  go_wp2_with fail
  go_loopw [5] (fun i wr => ∃ k : Nat, k ≤ rs.length ∧ i = .int .i64 k ∧ (∀ j, j < k → isN a l rs[j]! = false) ∧ Below ((w.alloc (.cells #[.slice p rs.length cap] 34)).alloc (.cells #[.int .i64 a, .int .i64 l] 28)).heap.size ((w.alloc (.cells #[.slice p rs.length cap] 34)).alloc (.cells #[.int .i64 a, .int .i64 l] 28)) wr) (fun i _ => rs.length - (intOf i).toNat)
  case atStart => exact ⟨0, Nat.zero_le _, rfl, fun j hj => absurd hj (by omega), Below.refl _ _⟩
  case round =>
    obtain ⟨k, hk, rfl, ha, hb0⟩ := hrel
    have q0 := (Row.new w 34 [.slice p rs.length cap]).alloc (.cells #[.int .i64 a, .int .i64 l] 28)
    have q1 := Row.new (w.alloc (.cells #[.slice p rs.length cap] 34)) 28 [.int .i64 a, .int .i64 l]
    rw [show (w.alloc (.cells #[.slice p rs.length cap] 34)).heap.size = w.heap.size + 1 by simp] at q1
    have x0 : wr.cell? ⟨w.heap.size, 0, none⟩ = some (.slice p rs.length cap) := (q0.below hb0 q0.lt).cell 0
    have y0 : wr.cell? ⟨w.heap.size + 1, 0, none⟩ = some (.int .i64 a) := (q1.below hb0 q1.lt).cell 0
    have y1 : wr.cell? ⟨w.heap.size + 1, 1, none⟩ = some (.int .i64 l) := (q1.below hb0 q1.lt).cell 1
    have hb : Below w.heap.size w wr := ((ent_new0 w _).alloc (by simp) _).trans (hb0.mono (by simp; omega))
    clear q0 q1
    by_cases hlt : k < rs.length
    · have d1 : decide ((k : Int) < (rs.length : Int)) = true := by simpa using hlt
      obtain ⟨g, A, L, M, N, I, T, U, E, C, rfl, hg, hek, c0, c1, c2, c3, c4, c5, c6, c7, c8⟩ := (HX.out.below hb).at k hlt
      clear c2 c3 c4 c5 c6 c7 c8
      by_cases hit : isN a l rs[k] = true
      · have HR : Hid (R = (k : Int)) := HH1.out k hlt ha hit
        rw [hek] at hit
        obtain ⟨rfl, rfl⟩ := isN_eq hit
        clear HH1 HH2 hit hek ha
        have z1 : (A == A) = true := by simp
        have z2 : (L == L) = true := by simp
        go_wp2_with fail
        go_quiet (fail)
        go_wp2
        go_ret
        refine ⟨?_, below_drewN hb _⟩
        rw [HR.out]; rfl
      · have HN : Hid (∀ j, j < k + 1 → isN a l rs[j]! = false) := fun j hj => by
          rcases Nat.lt_or_ge j k with h' | h'
          · exact ha j h'
          · obtain rfl : j = k := by omega
            rw [get_bang hlt]; simpa using hit
        rw [hek] at hit
        clear HH1 HH2 hek ha
        by_cases hA : A = a
        · have z1 : (A == a) = true := by simpa using hA
          have z2 : (L == l) = false := by
            rw [beq_eq_false_iff_ne]
            intro hL
            exact hit (by simp [isN, hA, hL])
          clear hit hA
          go_wp2_with fail
          go_quiet (fail)
          go_wp2
          go_roundw
          case rel => exact ⟨k + 1, hlt, by go_num, HN.out, below_drewN hb0 _⟩
          case measure => simp [intOf]; omega
        · have z1 : (A == a) = false := by simpa using hA
          clear hit hA
          go_wp2_with fail
          go_quiet (fail)
          go_wp2
          go_roundw
          case rel => exact ⟨k + 1, hlt, by go_num, HN.out, below_drewN hb0 _⟩
          case measure => simp [intOf]; omega
    · obtain rfl : k = rs.length := by omega
      have d1 : decide ((rs.length : Int) < (rs.length : Int)) = false := by simp
      have hR := HH2.out ha
      clear hlt hk HH1 HH2 ha
      go_wp2
      go_ret
      exact ⟨by rw [hR]; rfl, hb⟩
set_option maxRecDepth 100000 in
set_option maxHeartbeats 2000000 in
theorem specFind_any (p : Option Addr) (cap : Nat) (rs : List Rt) (a l : Int) (w : World) (h : RtsIn w p rs) (hn : rs.length ≤ 100000000) :
    Calls Try.prog 9 #[ribV p rs.length cap, netV a l] w fun e w' => e = .returned (rtV (findR rs a l)) ∧ Below w.heap.size w w' := by
  have HA : Hid (∀ w, RtsIn w p rs → Calls Try.prog 29 #[.agg #[.slice p rs.length cap], .agg #[.int .i64 a, .int .i64 l]] w fun e w' => e = .returned (.int .i64 (atV rs a l)) ∧ Below w.heap.size w w') := fun w h => l06At_any p cap rs a l w h hn
  have HB : Hid (∀ w, RtsIn w p rs → Calls Try.prog 30 #[.agg #[.slice p rs.length cap]] w fun e w' => e = .returned (.bool (ribB rs)) ∧ Below w.heap.size w w') := fun w h => specRib_any p cap rs w h hn
  have HX : Hid (RtsIn w p rs) := h
  clear h
  unfold ribV netV at *
  by_cases hl : rs.length ≤ 8
  · have d8 : decide (8 < (rs.length : Int)) = false := by simp; omega
    cases hi : idxN rs a l with
    | none =>
      have HR : Hid (findR rs a l = zeroR) := by
        show _ = _
        unfold findR
        rw [idx_none hi]
        split <;> rfl
      have hat : atV rs a l = -1 := by unfold atV; rw [hi]
      rw [hat] at HA
      have dk : decide ((-1 : Int) < 0) = true := by decide
      clear hat hi
      go_enter Try.func9, Try.ntmps9
      go_wp2_with fail
      refine (HA.out _ (((HX.out.alloc _).alloc _).alloc _)).mono ?_
      rintro e w1 ⟨rfl, hb1⟩
      obtain ⟨q0, q1, q2, hB, hs⟩ := boxes3 w [.slice p rs.length cap] [.int .i64 a, .int .i64 l] [.int .i64 0, .int .i64 0, .int .i64 0, .int .i64 0, .int .i64 0, .int .i64 0, .int .i64 0, .int .i64 0, .bool false] 34 28 30 hb1
      have x0 : w1.cell? ⟨w.heap.size, 0, none⟩ = some (.slice p rs.length cap) := q0.cell 0
      clear hb1
      have e0 : w1.cell? ⟨w.heap.size + 1 + 1, 0, none⟩ = some (.int .i64 0) := q2.cell 0
      have f0 : w1.frozen? ⟨w.heap.size + 1 + 1, 0, none⟩ = false := q2.frozen 0
      have e1 : w1.cell? ⟨w.heap.size + 1 + 1, 1, none⟩ = some (.int .i64 0) := q2.cell 1
      have f1 : w1.frozen? ⟨w.heap.size + 1 + 1, 1, none⟩ = false := q2.frozen 1
      have e2 : w1.cell? ⟨w.heap.size + 1 + 1, 2, none⟩ = some (.int .i64 0) := q2.cell 2
      have f2 : w1.frozen? ⟨w.heap.size + 1 + 1, 2, none⟩ = false := q2.frozen 2
      have e3 : w1.cell? ⟨w.heap.size + 1 + 1, 3, none⟩ = some (.int .i64 0) := q2.cell 3
      have f3 : w1.frozen? ⟨w.heap.size + 1 + 1, 3, none⟩ = false := q2.frozen 3
      have e4 : w1.cell? ⟨w.heap.size + 1 + 1, 4, none⟩ = some (.int .i64 0) := q2.cell 4
      have f4 : w1.frozen? ⟨w.heap.size + 1 + 1, 4, none⟩ = false := q2.frozen 4
      have e5 : w1.cell? ⟨w.heap.size + 1 + 1, 5, none⟩ = some (.int .i64 0) := q2.cell 5
      have f5 : w1.frozen? ⟨w.heap.size + 1 + 1, 5, none⟩ = false := q2.frozen 5
      have e6 : w1.cell? ⟨w.heap.size + 1 + 1, 6, none⟩ = some (.int .i64 0) := q2.cell 6
      have f6 : w1.frozen? ⟨w.heap.size + 1 + 1, 6, none⟩ = false := q2.frozen 6
      have e7 : w1.cell? ⟨w.heap.size + 1 + 1, 7, none⟩ = some (.int .i64 0) := q2.cell 7
      have f7 : w1.frozen? ⟨w.heap.size + 1 + 1, 7, none⟩ = false := q2.frozen 7
      have e8 : w1.cell? ⟨w.heap.size + 1 + 1, 8, none⟩ = some (.bool false) := q2.cell 8
      have f8 : w1.frozen? ⟨w.heap.size + 1 + 1, 8, none⟩ = false := q2.frozen 8
      have HH : Hid _ := And.intro ((((((((((q2.set 0 (.int .i64 0)).set 1 (.int .i64 0)).set 2 (.int .i64 0)).set 3 (.int .i64 0)).set 4 (.int .i64 0)).set 5 (.int .i64 0)).set 6 (.int .i64 0)).set 7 (.int .i64 0)).set 8 (.bool false))) ((((((((((hB.setCell (p := ⟨w.heap.size + 1 + 1, 0, none⟩) (by show w.heap.size ≤ w.heap.size + 1 + 1; omega) (.int .i64 0)).setCell (p := ⟨w.heap.size + 1 + 1, 1, none⟩) (by show w.heap.size ≤ w.heap.size + 1 + 1; omega) (.int .i64 0)).setCell (p := ⟨w.heap.size + 1 + 1, 2, none⟩) (by show w.heap.size ≤ w.heap.size + 1 + 1; omega) (.int .i64 0)).setCell (p := ⟨w.heap.size + 1 + 1, 3, none⟩) (by show w.heap.size ≤ w.heap.size + 1 + 1; omega) (.int .i64 0)).setCell (p := ⟨w.heap.size + 1 + 1, 4, none⟩) (by show w.heap.size ≤ w.heap.size + 1 + 1; omega) (.int .i64 0)).setCell (p := ⟨w.heap.size + 1 + 1, 5, none⟩) (by show w.heap.size ≤ w.heap.size + 1 + 1; omega) (.int .i64 0)).setCell (p := ⟨w.heap.size + 1 + 1, 6, none⟩) (by show w.heap.size ≤ w.heap.size + 1 + 1; omega) (.int .i64 0)).setCell (p := ⟨w.heap.size + 1 + 1, 7, none⟩) (by show w.heap.size ≤ w.heap.size + 1 + 1; omega) (.int .i64 0)).setCell (p := ⟨w.heap.size + 1 + 1, 8, none⟩) (by show w.heap.size ≤ w.heap.size + 1 + 1; omega) (.bool false)))
      clear q0 q1 q2 hB HA HB HX
      go_wp2_with fail
      have HH2 := HH.out
      clear HH e0 f0 e1 f1 e2 f2 e3 f3 e4 f4 e5 f5 e6 f6 e7 f7 e8 f8
      generalize (((((((((w1.setCell ⟨w.heap.size + 1 + 1, 0, none⟩ (.int .i64 0)).setCell ⟨w.heap.size + 1 + 1, 1, none⟩ (.int .i64 0)).setCell ⟨w.heap.size + 1 + 1, 2, none⟩ (.int .i64 0)).setCell ⟨w.heap.size + 1 + 1, 3, none⟩ (.int .i64 0)).setCell ⟨w.heap.size + 1 + 1, 4, none⟩ (.int .i64 0)).setCell ⟨w.heap.size + 1 + 1, 5, none⟩ (.int .i64 0)).setCell ⟨w.heap.size + 1 + 1, 6, none⟩ (.int .i64 0)).setCell ⟨w.heap.size + 1 + 1, 7, none⟩ (.int .i64 0)).setCell ⟨w.heap.size + 1 + 1, 8, none⟩ (.bool false)) = Z at *
      obtain ⟨h1, h2⟩ := HH2
      have e0 : Z.cell? ⟨w.heap.size + 1 + 1, 0, none⟩ = some (.int .i64 0) := h1.cell 0
      have e1 : Z.cell? ⟨w.heap.size + 1 + 1, 1, none⟩ = some (.int .i64 0) := h1.cell 1
      have e2 : Z.cell? ⟨w.heap.size + 1 + 1, 2, none⟩ = some (.int .i64 0) := h1.cell 2
      have e3 : Z.cell? ⟨w.heap.size + 1 + 1, 3, none⟩ = some (.int .i64 0) := h1.cell 3
      have e4 : Z.cell? ⟨w.heap.size + 1 + 1, 4, none⟩ = some (.int .i64 0) := h1.cell 4
      have e5 : Z.cell? ⟨w.heap.size + 1 + 1, 5, none⟩ = some (.int .i64 0) := h1.cell 5
      have e6 : Z.cell? ⟨w.heap.size + 1 + 1, 6, none⟩ = some (.int .i64 0) := h1.cell 6
      have e7 : Z.cell? ⟨w.heap.size + 1 + 1, 7, none⟩ = some (.int .i64 0) := h1.cell 7
      have e8 : Z.cell? ⟨w.heap.size + 1 + 1, 8, none⟩ = some (.bool false) := h1.cell 8
      refine bodyPost_ret (v := .agg #[.int .i64 0, .int .i64 0, .int .i64 0, .int .i64 0, .int .i64 0, .int .i64 0, .int .i64 0, .int .i64 0, .bool false]) (by simp [results, Try.results9, go_sem, e0, e1, e2, e3, e4, e5, e6, e7, e8]) rfl ⟨by rw [HR.out]; rfl, h2⟩
    | some k =>
      obtain ⟨hk, hlook, -, -⟩ := idx_get hi
      have hat : atV rs a l = (k : Int) := by unfold atV; rw [hi]
      rw [hat] at HA
      have dk : decide ((k : Int) < 0) = false := by simp
      clear hat hi
      have HF : Hid (∀ B, ribB rs = B → findR rs a l = if B = true then rs[k] else zeroR) := fun B hB => by
        unfold findR
        rw [hB, hlook]
        rfl
      have HK : Hid (k < rs.length) := hk
      go_enter Try.func9, Try.ntmps9
      go_wp2_with fail
      refine (HA.out _ (((HX.out.alloc _).alloc _).alloc _)).mono ?_
      rintro e w1 ⟨rfl, hb1⟩
      obtain ⟨q0, q1, q2, hB, hs⟩ := boxes3 w [.slice p rs.length cap] [.int .i64 a, .int .i64 l] [.int .i64 0, .int .i64 0, .int .i64 0, .int .i64 0, .int .i64 0, .int .i64 0, .int .i64 0, .int .i64 0, .bool false] 34 28 30 hb1
      have x0 : w1.cell? ⟨w.heap.size, 0, none⟩ = some (.slice p rs.length cap) := q0.cell 0
      clear hb1 HA
      go_wp2_with fail
      refine (HB.out _ (HX.out.below hB)).mono ?_
      rintro e w2 ⟨rfl, hb2⟩
      have q0' := q0.below hb2 q0.lt
      have q2' := q2.below hb2 q2.lt
      have hB' := hB.trans (hb2.mono hB.size)
      clear q0 q1 q2 hB hs x0 hb2 HB
      have x0 : w2.cell? ⟨w.heap.size, 0, none⟩ = some (.slice p rs.length cap) := q0'.cell 0
      cases hR : ribB rs with
      | false =>
        have HR : Hid (findR rs a l = zeroR) := HF.out false hR
        clear HF hR
        have e0 : w2.cell? ⟨w.heap.size + 1 + 1, 0, none⟩ = some (.int .i64 0) := q2'.cell 0
        have f0 : w2.frozen? ⟨w.heap.size + 1 + 1, 0, none⟩ = false := q2'.frozen 0
        have e1 : w2.cell? ⟨w.heap.size + 1 + 1, 1, none⟩ = some (.int .i64 0) := q2'.cell 1
        have f1 : w2.frozen? ⟨w.heap.size + 1 + 1, 1, none⟩ = false := q2'.frozen 1
        have e2 : w2.cell? ⟨w.heap.size + 1 + 1, 2, none⟩ = some (.int .i64 0) := q2'.cell 2
        have f2 : w2.frozen? ⟨w.heap.size + 1 + 1, 2, none⟩ = false := q2'.frozen 2
        have e3 : w2.cell? ⟨w.heap.size + 1 + 1, 3, none⟩ = some (.int .i64 0) := q2'.cell 3
        have f3 : w2.frozen? ⟨w.heap.size + 1 + 1, 3, none⟩ = false := q2'.frozen 3
        have e4 : w2.cell? ⟨w.heap.size + 1 + 1, 4, none⟩ = some (.int .i64 0) := q2'.cell 4
        have f4 : w2.frozen? ⟨w.heap.size + 1 + 1, 4, none⟩ = false := q2'.frozen 4
        have e5 : w2.cell? ⟨w.heap.size + 1 + 1, 5, none⟩ = some (.int .i64 0) := q2'.cell 5
        have f5 : w2.frozen? ⟨w.heap.size + 1 + 1, 5, none⟩ = false := q2'.frozen 5
        have e6 : w2.cell? ⟨w.heap.size + 1 + 1, 6, none⟩ = some (.int .i64 0) := q2'.cell 6
        have f6 : w2.frozen? ⟨w.heap.size + 1 + 1, 6, none⟩ = false := q2'.frozen 6
        have e7 : w2.cell? ⟨w.heap.size + 1 + 1, 7, none⟩ = some (.int .i64 0) := q2'.cell 7
        have f7 : w2.frozen? ⟨w.heap.size + 1 + 1, 7, none⟩ = false := q2'.frozen 7
        have e8 : w2.cell? ⟨w.heap.size + 1 + 1, 8, none⟩ = some (.bool false) := q2'.cell 8
        have f8 : w2.frozen? ⟨w.heap.size + 1 + 1, 8, none⟩ = false := q2'.frozen 8
        have HH : Hid _ := And.intro ((((((((((q2'.set 0 (.int .i64 0)).set 1 (.int .i64 0)).set 2 (.int .i64 0)).set 3 (.int .i64 0)).set 4 (.int .i64 0)).set 5 (.int .i64 0)).set 6 (.int .i64 0)).set 7 (.int .i64 0)).set 8 (.bool false))) ((((((((((hB'.setCell (p := ⟨w.heap.size + 1 + 1, 0, none⟩) (by show w.heap.size ≤ w.heap.size + 1 + 1; omega) (.int .i64 0)).setCell (p := ⟨w.heap.size + 1 + 1, 1, none⟩) (by show w.heap.size ≤ w.heap.size + 1 + 1; omega) (.int .i64 0)).setCell (p := ⟨w.heap.size + 1 + 1, 2, none⟩) (by show w.heap.size ≤ w.heap.size + 1 + 1; omega) (.int .i64 0)).setCell (p := ⟨w.heap.size + 1 + 1, 3, none⟩) (by show w.heap.size ≤ w.heap.size + 1 + 1; omega) (.int .i64 0)).setCell (p := ⟨w.heap.size + 1 + 1, 4, none⟩) (by show w.heap.size ≤ w.heap.size + 1 + 1; omega) (.int .i64 0)).setCell (p := ⟨w.heap.size + 1 + 1, 5, none⟩) (by show w.heap.size ≤ w.heap.size + 1 + 1; omega) (.int .i64 0)).setCell (p := ⟨w.heap.size + 1 + 1, 6, none⟩) (by show w.heap.size ≤ w.heap.size + 1 + 1; omega) (.int .i64 0)).setCell (p := ⟨w.heap.size + 1 + 1, 7, none⟩) (by show w.heap.size ≤ w.heap.size + 1 + 1; omega) (.int .i64 0)).setCell (p := ⟨w.heap.size + 1 + 1, 8, none⟩) (by show w.heap.size ≤ w.heap.size + 1 + 1; omega) (.bool false)))
        clear q0' q2' hB' HX
        go_wp2_with fail
        have HH2 := HH.out
        clear HH e0 f0 e1 f1 e2 f2 e3 f3 e4 f4 e5 f5 e6 f6 e7 f7 e8 f8
        generalize (((((((((w2.setCell ⟨w.heap.size + 1 + 1, 0, none⟩ (.int .i64 0)).setCell ⟨w.heap.size + 1 + 1, 1, none⟩ (.int .i64 0)).setCell ⟨w.heap.size + 1 + 1, 2, none⟩ (.int .i64 0)).setCell ⟨w.heap.size + 1 + 1, 3, none⟩ (.int .i64 0)).setCell ⟨w.heap.size + 1 + 1, 4, none⟩ (.int .i64 0)).setCell ⟨w.heap.size + 1 + 1, 5, none⟩ (.int .i64 0)).setCell ⟨w.heap.size + 1 + 1, 6, none⟩ (.int .i64 0)).setCell ⟨w.heap.size + 1 + 1, 7, none⟩ (.int .i64 0)).setCell ⟨w.heap.size + 1 + 1, 8, none⟩ (.bool false)) = Z at *
        obtain ⟨h1, h2⟩ := HH2
        have e0 : Z.cell? ⟨w.heap.size + 1 + 1, 0, none⟩ = some (.int .i64 0) := h1.cell 0
        have e1 : Z.cell? ⟨w.heap.size + 1 + 1, 1, none⟩ = some (.int .i64 0) := h1.cell 1
        have e2 : Z.cell? ⟨w.heap.size + 1 + 1, 2, none⟩ = some (.int .i64 0) := h1.cell 2
        have e3 : Z.cell? ⟨w.heap.size + 1 + 1, 3, none⟩ = some (.int .i64 0) := h1.cell 3
        have e4 : Z.cell? ⟨w.heap.size + 1 + 1, 4, none⟩ = some (.int .i64 0) := h1.cell 4
        have e5 : Z.cell? ⟨w.heap.size + 1 + 1, 5, none⟩ = some (.int .i64 0) := h1.cell 5
        have e6 : Z.cell? ⟨w.heap.size + 1 + 1, 6, none⟩ = some (.int .i64 0) := h1.cell 6
        have e7 : Z.cell? ⟨w.heap.size + 1 + 1, 7, none⟩ = some (.int .i64 0) := h1.cell 7
        have e8 : Z.cell? ⟨w.heap.size + 1 + 1, 8, none⟩ = some (.bool false) := h1.cell 8
        refine bodyPost_ret (v := .agg #[.int .i64 0, .int .i64 0, .int .i64 0, .int .i64 0, .int .i64 0, .int .i64 0, .int .i64 0, .int .i64 0, .bool false]) (by simp [results, Try.results9, go_sem, e0, e1, e2, e3, e4, e5, e6, e7, e8]) rfl ⟨by rw [HR.out]; rfl, h2⟩
      | true =>
        obtain ⟨g, A, L, M, N, I, T, U, E, C, rfl, hg, hek, c0, c1, c2, c3, c4, c5, c6, c7, c8⟩ := (HX.out.below hB').at k hk
        have HR : Hid (findR rs a l = ⟨A, L, M, N, I, T, U, E, C⟩) := by
          show _ = _
          rw [HF.out true hR, if_pos rfl, hek]
        clear HF hR hek
        have e0 : w2.cell? ⟨w.heap.size + 1 + 1, 0, none⟩ = some (.int .i64 0) := q2'.cell 0
        have f0 : w2.frozen? ⟨w.heap.size + 1 + 1, 0, none⟩ = false := q2'.frozen 0
        have e1 : w2.cell? ⟨w.heap.size + 1 + 1, 1, none⟩ = some (.int .i64 0) := q2'.cell 1
        have f1 : w2.frozen? ⟨w.heap.size + 1 + 1, 1, none⟩ = false := q2'.frozen 1
        have e2 : w2.cell? ⟨w.heap.size + 1 + 1, 2, none⟩ = some (.int .i64 0) := q2'.cell 2
        have f2 : w2.frozen? ⟨w.heap.size + 1 + 1, 2, none⟩ = false := q2'.frozen 2
        have e3 : w2.cell? ⟨w.heap.size + 1 + 1, 3, none⟩ = some (.int .i64 0) := q2'.cell 3
        have f3 : w2.frozen? ⟨w.heap.size + 1 + 1, 3, none⟩ = false := q2'.frozen 3
        have e4 : w2.cell? ⟨w.heap.size + 1 + 1, 4, none⟩ = some (.int .i64 0) := q2'.cell 4
        have f4 : w2.frozen? ⟨w.heap.size + 1 + 1, 4, none⟩ = false := q2'.frozen 4
        have e5 : w2.cell? ⟨w.heap.size + 1 + 1, 5, none⟩ = some (.int .i64 0) := q2'.cell 5
        have f5 : w2.frozen? ⟨w.heap.size + 1 + 1, 5, none⟩ = false := q2'.frozen 5
        have e6 : w2.cell? ⟨w.heap.size + 1 + 1, 6, none⟩ = some (.int .i64 0) := q2'.cell 6
        have f6 : w2.frozen? ⟨w.heap.size + 1 + 1, 6, none⟩ = false := q2'.frozen 6
        have e7 : w2.cell? ⟨w.heap.size + 1 + 1, 7, none⟩ = some (.int .i64 0) := q2'.cell 7
        have f7 : w2.frozen? ⟨w.heap.size + 1 + 1, 7, none⟩ = false := q2'.frozen 7
        have e8 : w2.cell? ⟨w.heap.size + 1 + 1, 8, none⟩ = some (.bool false) := q2'.cell 8
        have f8 : w2.frozen? ⟨w.heap.size + 1 + 1, 8, none⟩ = false := q2'.frozen 8
        have HH : Hid _ := And.intro ((((((((((q2'.set 0 (.int .i64 A)).set 1 (.int .i64 L)).set 2 (.int .i64 M)).set 3 (.int .i64 N)).set 4 (.int .i64 I)).set 5 (.int .i64 T)).set 6 (.int .i64 U)).set 7 (.int .i64 E)).set 8 (.bool C))) ((((((((((hB'.setCell (p := ⟨w.heap.size + 1 + 1, 0, none⟩) (by show w.heap.size ≤ w.heap.size + 1 + 1; omega) (.int .i64 A)).setCell (p := ⟨w.heap.size + 1 + 1, 1, none⟩) (by show w.heap.size ≤ w.heap.size + 1 + 1; omega) (.int .i64 L)).setCell (p := ⟨w.heap.size + 1 + 1, 2, none⟩) (by show w.heap.size ≤ w.heap.size + 1 + 1; omega) (.int .i64 M)).setCell (p := ⟨w.heap.size + 1 + 1, 3, none⟩) (by show w.heap.size ≤ w.heap.size + 1 + 1; omega) (.int .i64 N)).setCell (p := ⟨w.heap.size + 1 + 1, 4, none⟩) (by show w.heap.size ≤ w.heap.size + 1 + 1; omega) (.int .i64 I)).setCell (p := ⟨w.heap.size + 1 + 1, 5, none⟩) (by show w.heap.size ≤ w.heap.size + 1 + 1; omega) (.int .i64 T)).setCell (p := ⟨w.heap.size + 1 + 1, 6, none⟩) (by show w.heap.size ≤ w.heap.size + 1 + 1; omega) (.int .i64 U)).setCell (p := ⟨w.heap.size + 1 + 1, 7, none⟩) (by show w.heap.size ≤ w.heap.size + 1 + 1; omega) (.int .i64 E)).setCell (p := ⟨w.heap.size + 1 + 1, 8, none⟩) (by show w.heap.size ≤ w.heap.size + 1 + 1; omega) (.bool C)))
        clear q0' q2' hB' HX
        go_wp2_with fail
        have HH2 := HH.out
        clear HH e0 f0 e1 f1 e2 f2 e3 f3 e4 f4 e5 f5 e6 f6 e7 f7 e8 f8
        generalize (((((((((w2.setCell ⟨w.heap.size + 1 + 1, 0, none⟩ (.int .i64 A)).setCell ⟨w.heap.size + 1 + 1, 1, none⟩ (.int .i64 L)).setCell ⟨w.heap.size + 1 + 1, 2, none⟩ (.int .i64 M)).setCell ⟨w.heap.size + 1 + 1, 3, none⟩ (.int .i64 N)).setCell ⟨w.heap.size + 1 + 1, 4, none⟩ (.int .i64 I)).setCell ⟨w.heap.size + 1 + 1, 5, none⟩ (.int .i64 T)).setCell ⟨w.heap.size + 1 + 1, 6, none⟩ (.int .i64 U)).setCell ⟨w.heap.size + 1 + 1, 7, none⟩ (.int .i64 E)).setCell ⟨w.heap.size + 1 + 1, 8, none⟩ (.bool C)) = Z at *
        obtain ⟨h1, h2⟩ := HH2
        have e0 : Z.cell? ⟨w.heap.size + 1 + 1, 0, none⟩ = some (.int .i64 A) := h1.cell 0
        have e1 : Z.cell? ⟨w.heap.size + 1 + 1, 1, none⟩ = some (.int .i64 L) := h1.cell 1
        have e2 : Z.cell? ⟨w.heap.size + 1 + 1, 2, none⟩ = some (.int .i64 M) := h1.cell 2
        have e3 : Z.cell? ⟨w.heap.size + 1 + 1, 3, none⟩ = some (.int .i64 N) := h1.cell 3
        have e4 : Z.cell? ⟨w.heap.size + 1 + 1, 4, none⟩ = some (.int .i64 I) := h1.cell 4
        have e5 : Z.cell? ⟨w.heap.size + 1 + 1, 5, none⟩ = some (.int .i64 T) := h1.cell 5
        have e6 : Z.cell? ⟨w.heap.size + 1 + 1, 6, none⟩ = some (.int .i64 U) := h1.cell 6
        have e7 : Z.cell? ⟨w.heap.size + 1 + 1, 7, none⟩ = some (.int .i64 E) := h1.cell 7
        have e8 : Z.cell? ⟨w.heap.size + 1 + 1, 8, none⟩ = some (.bool C) := h1.cell 8
        refine bodyPost_ret (v := .agg #[.int .i64 A, .int .i64 L, .int .i64 M, .int .i64 N, .int .i64 I, .int .i64 T, .int .i64 U, .int .i64 E, .bool C]) (by simp [results, Try.results9, go_sem, e0, e1, e2, e3, e4, e5, e6, e7, e8]) rfl ⟨by rw [HR.out]; rfl, h2⟩
  · have d8 : decide (8 < (rs.length : Int)) = true := by simp; omega
    have HR : Hid (findR rs a l = zeroR) := findR_bad (ribB_long hl)
    generalize atV rs a l = X at *
    go_enter Try.func9, Try.ntmps9
    go_wp2_with fail
    refine (HA.out _ (((HX.out.alloc _).alloc _).alloc _)).mono ?_
    rintro e w1 ⟨rfl, hb1⟩
    obtain ⟨q0, q1, q2, hB, hs⟩ := boxes3 w [.slice p rs.length cap] [.int .i64 a, .int .i64 l] [.int .i64 0, .int .i64 0, .int .i64 0, .int .i64 0, .int .i64 0, .int .i64 0, .int .i64 0, .int .i64 0, .bool false] 34 28 30 hb1
    have x0 : w1.cell? ⟨w.heap.size, 0, none⟩ = some (.slice p rs.length cap) := q0.cell 0
    clear hb1
    have e0 : w1.cell? ⟨w.heap.size + 1 + 1, 0, none⟩ = some (.int .i64 0) := q2.cell 0
    have f0 : w1.frozen? ⟨w.heap.size + 1 + 1, 0, none⟩ = false := q2.frozen 0
    have e1 : w1.cell? ⟨w.heap.size + 1 + 1, 1, none⟩ = some (.int .i64 0) := q2.cell 1
    have f1 : w1.frozen? ⟨w.heap.size + 1 + 1, 1, none⟩ = false := q2.frozen 1
    have e2 : w1.cell? ⟨w.heap.size + 1 + 1, 2, none⟩ = some (.int .i64 0) := q2.cell 2
    have f2 : w1.frozen? ⟨w.heap.size + 1 + 1, 2, none⟩ = false := q2.frozen 2
    have e3 : w1.cell? ⟨w.heap.size + 1 + 1, 3, none⟩ = some (.int .i64 0) := q2.cell 3
    have f3 : w1.frozen? ⟨w.heap.size + 1 + 1, 3, none⟩ = false := q2.frozen 3
    have e4 : w1.cell? ⟨w.heap.size + 1 + 1, 4, none⟩ = some (.int .i64 0) := q2.cell 4
    have f4 : w1.frozen? ⟨w.heap.size + 1 + 1, 4, none⟩ = false := q2.frozen 4
    have e5 : w1.cell? ⟨w.heap.size + 1 + 1, 5, none⟩ = some (.int .i64 0) := q2.cell 5
    have f5 : w1.frozen? ⟨w.heap.size + 1 + 1, 5, none⟩ = false := q2.frozen 5
    have e6 : w1.cell? ⟨w.heap.size + 1 + 1, 6, none⟩ = some (.int .i64 0) := q2.cell 6
    have f6 : w1.frozen? ⟨w.heap.size + 1 + 1, 6, none⟩ = false := q2.frozen 6
    have e7 : w1.cell? ⟨w.heap.size + 1 + 1, 7, none⟩ = some (.int .i64 0) := q2.cell 7
    have f7 : w1.frozen? ⟨w.heap.size + 1 + 1, 7, none⟩ = false := q2.frozen 7
    have e8 : w1.cell? ⟨w.heap.size + 1 + 1, 8, none⟩ = some (.bool false) := q2.cell 8
    have f8 : w1.frozen? ⟨w.heap.size + 1 + 1, 8, none⟩ = false := q2.frozen 8
    have HH : Hid _ := And.intro ((((((((((q2.set 0 (.int .i64 0)).set 1 (.int .i64 0)).set 2 (.int .i64 0)).set 3 (.int .i64 0)).set 4 (.int .i64 0)).set 5 (.int .i64 0)).set 6 (.int .i64 0)).set 7 (.int .i64 0)).set 8 (.bool false))) ((((((((((hB.setCell (p := ⟨w.heap.size + 1 + 1, 0, none⟩) (by show w.heap.size ≤ w.heap.size + 1 + 1; omega) (.int .i64 0)).setCell (p := ⟨w.heap.size + 1 + 1, 1, none⟩) (by show w.heap.size ≤ w.heap.size + 1 + 1; omega) (.int .i64 0)).setCell (p := ⟨w.heap.size + 1 + 1, 2, none⟩) (by show w.heap.size ≤ w.heap.size + 1 + 1; omega) (.int .i64 0)).setCell (p := ⟨w.heap.size + 1 + 1, 3, none⟩) (by show w.heap.size ≤ w.heap.size + 1 + 1; omega) (.int .i64 0)).setCell (p := ⟨w.heap.size + 1 + 1, 4, none⟩) (by show w.heap.size ≤ w.heap.size + 1 + 1; omega) (.int .i64 0)).setCell (p := ⟨w.heap.size + 1 + 1, 5, none⟩) (by show w.heap.size ≤ w.heap.size + 1 + 1; omega) (.int .i64 0)).setCell (p := ⟨w.heap.size + 1 + 1, 6, none⟩) (by show w.heap.size ≤ w.heap.size + 1 + 1; omega) (.int .i64 0)).setCell (p := ⟨w.heap.size + 1 + 1, 7, none⟩) (by show w.heap.size ≤ w.heap.size + 1 + 1; omega) (.int .i64 0)).setCell (p := ⟨w.heap.size + 1 + 1, 8, none⟩) (by show w.heap.size ≤ w.heap.size + 1 + 1; omega) (.bool false)))
    clear q0 q1 q2 hB HA HB HX
    go_wp2_with fail
    have HH2 := HH.out
    clear HH e0 f0 e1 f1 e2 f2 e3 f3 e4 f4 e5 f5 e6 f6 e7 f7 e8 f8
    generalize (((((((((w1.setCell ⟨w.heap.size + 1 + 1, 0, none⟩ (.int .i64 0)).setCell ⟨w.heap.size + 1 + 1, 1, none⟩ (.int .i64 0)).setCell ⟨w.heap.size + 1 + 1, 2, none⟩ (.int .i64 0)).setCell ⟨w.heap.size + 1 + 1, 3, none⟩ (.int .i64 0)).setCell ⟨w.heap.size + 1 + 1, 4, none⟩ (.int .i64 0)).setCell ⟨w.heap.size + 1 + 1, 5, none⟩ (.int .i64 0)).setCell ⟨w.heap.size + 1 + 1, 6, none⟩ (.int .i64 0)).setCell ⟨w.heap.size + 1 + 1, 7, none⟩ (.int .i64 0)).setCell ⟨w.heap.size + 1 + 1, 8, none⟩ (.bool false)) = Z at *
    obtain ⟨h1, h2⟩ := HH2
    have e0 : Z.cell? ⟨w.heap.size + 1 + 1, 0, none⟩ = some (.int .i64 0) := h1.cell 0
    have e1 : Z.cell? ⟨w.heap.size + 1 + 1, 1, none⟩ = some (.int .i64 0) := h1.cell 1
    have e2 : Z.cell? ⟨w.heap.size + 1 + 1, 2, none⟩ = some (.int .i64 0) := h1.cell 2
    have e3 : Z.cell? ⟨w.heap.size + 1 + 1, 3, none⟩ = some (.int .i64 0) := h1.cell 3
    have e4 : Z.cell? ⟨w.heap.size + 1 + 1, 4, none⟩ = some (.int .i64 0) := h1.cell 4
    have e5 : Z.cell? ⟨w.heap.size + 1 + 1, 5, none⟩ = some (.int .i64 0) := h1.cell 5
    have e6 : Z.cell? ⟨w.heap.size + 1 + 1, 6, none⟩ = some (.int .i64 0) := h1.cell 6
    have e7 : Z.cell? ⟨w.heap.size + 1 + 1, 7, none⟩ = some (.int .i64 0) := h1.cell 7
    have e8 : Z.cell? ⟨w.heap.size + 1 + 1, 8, none⟩ = some (.bool false) := h1.cell 8
    refine bodyPost_ret (v := .agg #[.int .i64 0, .int .i64 0, .int .i64 0, .int .i64 0, .int .i64 0, .int .i64 0, .int .i64 0, .int .i64 0, .bool false]) (by simp [results, Try.results9, go_sem, e0, e1, e2, e3, e4, e5, e6, e7, e8]) rfl ⟨by rw [HR.out]; rfl, h2⟩
end Go.Proofs.Ytkkhjeigndcmaab
