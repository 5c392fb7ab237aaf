/- (without texts) l01Source: a new source over a row of bytes; one, bytes. -/
import Derived.Test.YtchgnjpbjnkdmaaSrc
namespace Go.Proofs.Ytchgnjpbjnkdmaa
open Go.RowKit

/-- A source just made, its mix m and its size s. -/
def SrcNew (w : World) (g : Nat) (a : Option Addr) (len cap : Nat) (m s : Int) : Prop := w.cell? ⟨g, 0, none⟩ = some (.slice a len cap) ∧ w.cell? ⟨g, 1, none⟩ = some (.int .i64 0) ∧ w.cell? ⟨g, 2, none⟩ = some (.int .u64 m) ∧ w.cell? ⟨g, 3, none⟩ = some (.int .i64 s) ∧
  w.frozen? ⟨g, 1, none⟩ = false ∧ w.frozen? ⟨g, 2, none⟩ = false ∧ w.frozen? ⟨g, 3, none⟩ = false ∧ 0 ≤ m ∧ m < 18446744073709551616
theorem SrcNew.setMix {w : World} {g : Nat} {a : Option Addr} {len cap : Nat} {m s : Int} (h : SrcNew w g a len cap m s) (x : Int) (hx : 0 ≤ x ∧ x < 18446744073709551616) : SrcNew (w.setCell ⟨g, 2, none⟩ (.int .u64 x)) g a len cap x s := by
  obtain ⟨c0, c1, c2, c3, f1, f2, f3, _⟩ := h
  exact ⟨by rw [World.cell?_setCell_other _ _ _ _ (by simp)]; exact c0, by rw [World.cell?_setCell_other _ _ _ _ (by simp)]; exact c1, World.cell?_setCell_same _ _ _ c2, by rw [World.cell?_setCell_other _ _ _ _ (by simp)]; exact c3, by simpa using f1, by simpa using f2, by simpa using f3, hx⟩
theorem SrcNew.setSize {w : World} {g : Nat} {a : Option Addr} {len cap : Nat} {m s : Int} (h : SrcNew w g a len cap m s) (x : Int) : SrcNew (w.setCell ⟨g, 3, none⟩ (.int .i64 x)) g a len cap m x := by
  obtain ⟨c0, c1, c2, c3, f1, f2, f3, hm⟩ := h
  exact ⟨by rw [World.cell?_setCell_other _ _ _ _ (by simp)]; exact c0, by rw [World.cell?_setCell_other _ _ _ _ (by simp)]; exact c1, by rw [World.cell?_setCell_other _ _ _ _ (by simp)]; exact c2, World.cell?_setCell_same _ _ _ c3, by simpa using f1, by simpa using f2, by simpa using f3, hm⟩
theorem SrcNew.src {w : World} {g : Nat} {a : Option Addr} {len cap : Nat} {m s : Int} (h : SrcNew w g a len cap m s) (hs : 0 ≤ s ∧ s ≤ 12) : Src w g a len cap := by
  obtain ⟨c0, c1, c2, c3, f1, f2, _, hm0, hm1⟩ := h
  exact ⟨0, m, s, c0, c1, c2, c3, f1, f2, Nat.zero_le _, hm0, hm1, hs⟩
theorem u64_range (x : Int) : 0 ≤ IntKind.u64.wrap x ∧ IntKind.u64.wrap x < 18446744073709551616 := by rw [IntKind.wrap_u64]; omega

set_option maxRecDepth 100000 in
set_option maxHeartbeats 4000000 in
theorem source_any (a : Option Addr) (len cap : Nat) (w : World) (hc : Code w.heap.size w a len) (hl : len ≤ 1048576) :
    Calls Try.prog 46 #[.slice a len cap] w fun e w' => e = .returned (.pointer (some ⟨w.heap.size, 0, none⟩)) ∧ Src w' w.heap.size a len cap ∧ Below w.heap.size w w' := by
  go_enter Try.func46, Try.ntmps46
  go_wp2
  go_loopw [4] (fun i wr => ∃ (k : Nat) (m : Int), k ≤ len ∧ i = .int .i64 k ∧ SrcNew wr w.heap.size a len cap m 0 ∧ Below w.heap.size w wr) (fun i _ => len - (intOf i).toNat)
  case atStart => exact ⟨0, 88172645463325252, Nat.zero_le _, rfl, ⟨by simp, by simp, by simp, by simp, by simp, by simp, by simp, by omega, by omega⟩, (Below.refl _ _).alloc (Nat.le_refl _) _⟩
  case round =>
    obtain ⟨k, m, hk, rfl, hs, hbel⟩ := hrel
    have HS : Hid (SrcNew wr w.heap.size a len cap m 0) := hs
    obtain ⟨c0, c1, c2, c3, f1, f2, f3, hm0, hm1⟩ := hs
    have hsz := hbel.size
    by_cases hlt : k < len ∧ k < 64
    · obtain ⟨hlt, h64⟩ := hlt
      obtain ⟨b, off, z, rfl, hb, hz, hz0, hz1⟩ := (hc.below hbel) k hlt
      have hne : b ≠ w.heap.size := by omega
      have hlti : (k : Int) < (len : Int) := by omega
      have hx := xor_range m z
      go_wp2
      go_region
      go_wp2
      go_roundw
      case rel => exact ⟨k + 1, _, by omega, by go_num, HS.out.setMix _ (u64_range _), (hbel.setCell (Nat.le_refl _) _).drew⟩
      case measure => simp [intOf]; omega
    · have hor : len ≤ k ∨ (k < len ∧ 64 ≤ k) := by omega
      clear hlt
      by_cases h12 : 12 < (len : Int) / 20
      · have HF : Hid (Src ((wr.setCell ⟨w.heap.size, 3, none⟩ (.int .i64 ((len : Int) / 20))).setCell ⟨w.heap.size, 3, none⟩ (.int .i64 12)) w.heap.size a len cap) := ((HS.out.setSize _).setSize 12).src (by omega)
        rcases hor with hor | ⟨hor, hor2⟩
        all_goals
          go_wp2
          go_ret
          exact ⟨rfl, HF.out, (hbel.setCell (Nat.le_refl _) _).setCell (Nat.le_refl _) _⟩
      · have HF : Hid (Src (wr.setCell ⟨w.heap.size, 3, none⟩ (.int .i64 ((len : Int) / 20))) w.heap.size a len cap) := (HS.out.setSize _).src (by omega)
        rcases hor with hor | ⟨hor, hor2⟩
        all_goals
          go_wp2
          go_ret
          exact ⟨rfl, HF.out, hbel.setCell (Nat.le_refl _) _⟩

theorem one_any (g : Nat) (a : Option Addr) (len cap B : Nat) (most : Int) (w : World) (hs : Src w g a len cap) (hc : Code B w a len) (hB : B ≤ g) (hl : len ≤ 1048576) (hm1 : most ≤ 9223372036854775807) (hm0 : -9223372036854775808 ≤ most) :
    Calls Try.prog 79 #[.pointer (some ⟨g, 0, none⟩), .int .i64 most] w fun e w' => ∃ r : Bool, e = .returned (.bool r) ∧ Src w' g a len cap ∧ w.grownBy w' (some g) := by
  go_enter Try.func79, Try.ntmps79
  go_wp2_with fail
  refine (n_any g a len cap B most _ hs hc hB hl hm1 hm0).mono ?_
  rintro e w1 ⟨r, rfl, h0, h1, hs1, hg1⟩
  clear hs hc h1
  go_wp2
  go_ret
  exact ⟨_, rfl, hs1, hg1⟩

theorem Code.grown {B g : Nat} {w w' : World} {a : Option Addr} {len : Nat} (h : Code B w a len) (hb : w.grownBy w' (some g)) (hB : B ≤ g) (hw : B ≤ w.heap.size) : Code B w' a len :=
  h.below ((Below.refl B w).grown hb hw (by intro k hk; cases hk; exact hB))

theorem grown_below {w w1 w2 : World} {g : Nat} (h : w.grownBy w1 (some g)) (hb : Below w.heap.size w1 w2) : w.grownBy w2 (some g) :=
  ⟨hb.os.trans h.os, hb.tape.trans h.tape, hb.output.trans h.output, Nat.le_trans h.size hb.size, fun k hk hne => (hb.block k hk).trans (h.block k hk hne)⟩
theorem grown_of_below {B g : Nat} {w w1 w2 : World} (h : Below B w w1) (hg : w1.grownBy w2 (some g)) (hB : B ≤ w.heap.size) (hgB : B ≤ g) : Below B w w2 :=
  h.grown hg (Nat.le_trans hB h.size) (by intro k hk; cases hk; exact hgB)

end Go.Proofs.Ytchgnjpbjnkdmaa
