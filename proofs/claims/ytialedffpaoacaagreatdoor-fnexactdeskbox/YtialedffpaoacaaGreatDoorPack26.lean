/- Texts that stand on each other, in one file: LookI. -/
import Derived.Test.YtialedffpaoacaaGreatDoorPack21
import Derived.WalkMore
/- What stands against an Iface: looked for. (Written by gen_near2.py.) -/
namespace Go.Proofs.YtialedffpaoacaaGreatDoor
open Go.RowKit Go.Sort

/-- The Iface of that number, if there is one. -/
def ifAt (is : List If) (i : Int) : Option If := if 0 ≤ i then is[i.toNat]? else none
theorem ifAt_some {is : List If} {i : Int} {f : If} (h : ifAt is i = some f) : ∃ k : Nat, i = (k : Int) ∧ ∃ hk : k < is.length, is[k] = f := by
  unfold ifAt at h
  split at h
  · rename_i h0
    obtain ⟨hk, e⟩ := List.getElem?_eq_some_iff.1 h
    exact ⟨i.toNat, by omega, hk, e⟩
  · cases h
theorem ifAt_nat {is : List If} {k : Nat} (hk : k < is.length) : ifAt is (k : Int) = some is[k] := by
  unfold ifAt
  rw [if_pos (by omega), Int.toNat_natCast, List.getElem?_eq_getElem hk]
theorem ifAt_none {is : List If} {i : Int} (h : ∀ j, j < is.length → (j : Int) ≠ i) : ifAt is i = none := by
  unfold ifAt
  split
  · rename_i h0
    rw [List.getElem?_eq_none]
    rcases Nat.lt_or_ge i.toNat is.length with h1 | h1
    · exact absurd (by omega) (h _ h1)
    · exact h1
  · rfl
theorem ifAt_out {is : List If} {i : Int} (h : ifAt is i = none) : i < 0 ∨ (is.length : Int) ≤ i := by
  unfold ifAt at h
  split at h
  · have := List.getElem?_eq_none_iff.1 h
    omega
  · omega
def lookC (is : List If) (i : Int) (up : Bool) : Int := match ifAt is i with
  | none => 6
  | some f => if f.u = up then 0 else 10
set_option maxRecDepth 100000 in
set_option maxHeartbeats 2000000 in
theorem look_any (g : Nat) (q2 : Option Addr) (n2 k2 : Nat) (q1 : Option Addr) (k1 : Nat) (now : Int) (is : List If) (i : Int) (up : Bool) (w : World) (hr : Row w g 179 [.slice q2 n2 k2, .slice q1 is.length k1, .int .i64 now]) (hI : IfsIn w q1 is) (hn : is.length ≤ 100000000) :
    Calls Tryz.prog 101 #[.pointer (some ⟨g, 0, none⟩), .int .i64 i, .bool up] w fun e w' => e = .returned (.int .i64 (lookC is i up)) ∧ Below w.heap.size w w' := by
  have HX : Hid (IfsIn w q1 is) := hI
  have HN : Hid ((∀ j, j < is.length → (j : Int) ≠ i) → lookC is i up = 6) := fun h => by show lookC is i up = 6; unfold lookC; rw [ifAt_none h]
  have HS : Hid (∀ k (hk : k < is.length), (k : Int) = i → lookC is i up = if is[k].u = up then 0 else 10) := fun k hk e => by subst e; unfold lookC; rw [ifAt_nat hk]
  have y1 : w.cell? ⟨g, 1, none⟩ = some (.slice q1 is.length k1) := hr.cell 1
  clear hI hr
  generalize lookC is i up = R at *
  go_enter Tryz.func101, Tryz.ntmps101
  go_wp2
  go_step3
  go_wp2
  go_step3
  go_wp2
  clear y1
  go_loopw [15, 7] (fun i' c wr => ∃ k : Nat, k ≤ is.length ∧ i' = .int .i64 k ∧ c = .int .i64 6 ∧ (∀ j, j < k → (j : Int) ≠ i) ∧ Below w.heap.size w wr) (fun i' _ _ => is.length - (intOf i').toNat)
  case atStart => exact ⟨0, Nat.zero_le _, rfl, rfl, fun j hj => absurd hj (by omega), Below.refl _ _⟩
  case round =>
    obtain ⟨k, hk, rfl, rfl, ha, hB⟩ := hrel
    by_cases hlt : k < is.length
    · have d1 : decide ((k : Int) < (is.length : Int)) = true := by simpa using hlt
      obtain ⟨b, d, a, l, c, u, rfl, hg, hek, c0, c1, c2, c3, c4⟩ := (HX.out.below hB).at k hlt
      have hBr := hB.alloc hB.size (.cells #[.int .i64 d, .int .i64 a, .int .i64 l, .int .i64 c, .bool u] 72)
      have HSk : Hid (((k : Int) = i → R = if is[k].u = up then 0 else 10)) := HS.out k hlt
      clear HS HN hB
      by_cases e0 : (k : Int) = i
      · have hR := HSk.out e0
        rw [hek] at hR
        simp only at hR
        subst e0
        have z0 : ((k : Int) != (k : Int)) = false := by simp
        clear ha HSk
        by_cases e1 : u = up
        · rw [if_pos e1] at hR
          subst e1
          have z1 : (u != u) = false := by simp
          go_wp2
          rw [Exit.noGoto_ret]
          go_ret
          exact ⟨by rw [hR]; rfl, hBr⟩
        · rw [if_neg e1] at hR
          cases u <;> cases up
          · exact absurd rfl e1
          · clear e1
            go_wp2
            rw [Exit.noGoto_ret]
            go_ret
            exact ⟨by rw [hR]; rfl, hBr⟩
          · clear e1
            go_wp2
            rw [Exit.noGoto_ret]
            go_ret
            exact ⟨by rw [hR]; rfl, hBr⟩
          · exact absurd rfl e1
      · have z0 : ((k : Int) != i) = true := by simpa using e0
        have HNx : Hid (∀ j, j < k + 1 → (j : Int) ≠ i) := fun j hj => by
          rcases Nat.lt_or_ge j k with h' | h'
          · exact ha j h'
          · obtain rfl : j = k := by omega
            exact e0
        clear ha HSk
        go_wp2_with fail
        go_roundw
        case rel => exact ⟨k + 1, hlt, by go_num, rfl, HNx.out, hBr⟩
        case measure => simp [intOf]; omega
    · obtain rfl : k = is.length := by omega
      have d1 : decide ((is.length : Int) < (is.length : Int)) = false := by simp
      have hR := HN.out ha
      clear hlt hk HN HS ha
      go_wp2
      rw [Exit.noGoto_ret]
      go_ret
      exact ⟨by rw [hR]; rfl, hB⟩
end Go.Proofs.YtialedffpaoacaaGreatDoor
