/- The source of draws: what it is in memory; a number drawn. -/
import Derived.Test.YtchgnjpbjnkdmaaBaseB
import Derived.BigRegion
namespace Go.Proofs.Ytchgnjpbjnkdmaa
open Go.RowKit

/-- What the walk is told of a slice of bytes that came in. -/
def IsRow (k : IntKind) (w : World) (a : Option Addr) (len cap : Nat) (zs : List Int) : Prop :=
  (a = none ∧ len = 0 ∧ cap = 0 ∧ zs = []) ∨
  ∃ x, a = some x ∧ len ≤ cap ∧ cap ≤ maxLen ∧ zs.length = cap ∧ (∀ i, i < zs.length → w.cell? (x.add i) = some (.int k (zs.getD i 0))) ∧ ∀ n ∈ zs, (Lit.int k n).wf = true
theorem IsRow.len {k : IntKind} {w : World} {a : Option Addr} {len cap : Nat} {zs : List Int} (h : IsRow k w a len cap zs) : len ≤ 9223372036854775807 := by
  rcases h with ⟨_, h, _⟩ | ⟨x, _, h1, h2, _⟩
  · omega
  · unfold maxLen at h2; omega
/-- Each of the first len places of the row holds a byte; the row lies below block B. -/
def Code (B : Nat) (w : World) (a : Option Addr) (len : Nat) : Prop :=
  ∀ i, i < len → ∃ (b off : Nat) (z : Int), a = some ⟨b, off, none⟩ ∧ b < B ∧ w.cell? ⟨b, off + i, none⟩ = some (.int .u8 z) ∧ 0 ≤ z ∧ z < 256
theorem Code.of_row {w : World} {a : Option Addr} {len cap : Nat} {zs : List Int} (h : IsRow .u8 w a len cap zs) : Code w.heap.size w a len := by
  intro i hi
  rcases h with ⟨_, rfl, _, _⟩ | ⟨x, rfl, hl, hm, hz, hc, hw⟩
  · omega
  · obtain ⟨b, off, spot⟩ := x
    have h0 := hc i (by omega)
    have hs : spot = none := by
      have := World.cell?_spot (hc 0 (by omega))
      simpa [Addr.add] using this
    subst hs
    have ea : (⟨b, off, none⟩ : Addr).add i = ⟨b, off + i, none⟩ := by unfold Addr.add; split <;> simp_all
    rw [ea] at h0
    have hlt : b < w.heap.size := by
      rcases Nat.lt_or_ge b w.heap.size with h | h
      · exact h
      · simp [World.cell?, Array.getElem?_eq_none h] at h0
    have hmem : zs.getD i 0 ∈ zs := by
      simp [List.getD, show i < zs.length by omega]
    have hb := hw _ hmem
    simp [Lit.wf, IntKind.min, IntKind.max, IntKind.bits, IntKind.signed] at hb
    refine ⟨b, off, zs.getD i 0, rfl, hlt, h0, ?_, ?_⟩ <;> simp [List.getD] <;> omega
theorem Code.below {B : Nat} {w w' : World} {a : Option Addr} {len : Nat} (h : Code B w a len) (hb : Below B w w') : Code B w' a len := by
  intro i hi
  obtain ⟨b, off, z, h1, h2, h3, h4⟩ := h i hi
  exact ⟨b, off, z, h1, h2, by rw [hb.cell (p := ⟨b, off + i, none⟩) h2]; exact h3, h4⟩

theorem Code.mono {B B' : Nat} {w : World} {a : Option Addr} {len : Nat} (h : Code B w a len) (hB : B ≤ B') : Code B' w a len := by
  intro i hi
  obtain ⟨b, off, z, h1, h2, h3⟩ := h i hi
  exact ⟨b, off, z, h1, by omega, h3⟩

/-- The source at block g, over the row a of len places. -/
def Src (w : World) (g : Nat) (a : Option Addr) (len cap : Nat) : Prop := ∃ (p : Nat) (m s : Int), w.cell? ⟨g, 0, none⟩ = some (.slice a len cap) ∧ w.cell? ⟨g, 1, none⟩ = some (.int .i64 p) ∧ w.cell? ⟨g, 2, none⟩ = some (.int .u64 m) ∧ w.cell? ⟨g, 3, none⟩ = some (.int .i64 s) ∧
  w.frozen? ⟨g, 1, none⟩ = false ∧ w.frozen? ⟨g, 2, none⟩ = false ∧ p ≤ len ∧ 0 ≤ m ∧ m < 18446744073709551616 ∧ 0 ≤ s ∧ s ≤ 12
theorem Src.lt {w : World} {g : Nat} {a : Option Addr} {len cap : Nat} (h : Src w g a len cap) : g < w.heap.size := by
  obtain ⟨p, m, s, h0, _⟩ := h
  rcases Nat.lt_or_ge g w.heap.size with h | h
  · exact h
  · simp [World.cell?, Array.getElem?_eq_none h] at h0
theorem Src.kept {w w' : World} {g : Nat} {a : Option Addr} {len cap : Nat} (h : Src w g a len cap) (hb : w'.heap[g]? = w.heap[g]?) : Src w' g a len cap := by
  obtain ⟨p, m, s, h0, h1, h2, h3, f1, f2, r⟩ := h
  exact ⟨p, m, s, by rw [World.cell?_of_block hb]; exact h0, by rw [World.cell?_of_block hb]; exact h1, by rw [World.cell?_of_block hb]; exact h2, by rw [World.cell?_of_block hb]; exact h3, by rw [World.frozen?_of_block hb]; exact f1, by rw [World.frozen?_of_block hb]; exact f2, r⟩

theorem xor_range (x y : Int) : 0 ≤ bits .xor .u64 x y ∧ bits .xor .u64 x y < 18446744073709551616 := by
  unfold bits
  rw [IntKind.wrap_u64]; omega

def mix2 (m : Int) : Int := bits .xor .u64 m (IntKind.u64.wrap (m * 8192))
def mix3 (m : Int) : Int := bits .xor .u64 (mix2 m) (mix2 m / 128)
def mix4 (m : Int) : Int := bits .xor .u64 (mix3 m) (IntKind.u64.wrap (mix3 m * 131072))
/-- Three stores one behind the other into one cell. -/
theorem cells_behind {W : World} {q : Addr} {u x2 x3 x4 : Value} (h : W.cell? q = some u) : (W.setCell q x2).cell? q = some x2 ∧ ((W.setCell q x2).setCell q x3).cell? q = some x3 ∧ (((W.setCell q x2).setCell q x3).setCell q x4).cell? q = some x4 := by
  have h2 := World.cell?_setCell_same _ _ x2 h
  have h3 := World.cell?_setCell_same _ _ x3 h2
  exact ⟨h2, h3, World.cell?_setCell_same _ _ x4 h3⟩
theorem rem_range (x y : Int) (hy : 1 < y) : 0 ≤ x % y ∧ x % y < y := ⟨Int.emod_nonneg _ (by omega), Int.emod_lt_of_pos _ (by omega)⟩
theorem Src.stored {W : World} {g : Nat} {a : Option Addr} {len cap : Nat} {p' : Nat} {s : Int} {u : Value} (x2 x3 : Value) (x4 : Int)
    (c0 : W.cell? ⟨g, 0, none⟩ = some (.slice a len cap)) (c1 : W.cell? ⟨g, 1, none⟩ = some (.int .i64 p')) (c2 : W.cell? ⟨g, 2, none⟩ = some u) (c3 : W.cell? ⟨g, 3, none⟩ = some (.int .i64 s))
    (f1 : W.frozen? ⟨g, 1, none⟩ = false) (f2 : W.frozen? ⟨g, 2, none⟩ = false) (hp : p' ≤ len) (h4 : 0 ≤ x4 ∧ x4 < 18446744073709551616) (hs : 0 ≤ s ∧ s ≤ 12) :
    Src (((W.setCell ⟨g, 2, none⟩ x2).setCell ⟨g, 2, none⟩ x3).setCell ⟨g, 2, none⟩ (.int .u64 x4)) g a len cap := by
  have hne : ∀ j, j ≠ 2 → (⟨g, 2, none⟩ : Addr) ≠ ⟨g, j, none⟩ := by intro j hj h; cases h; exact hj rfl
  refine ⟨p', x4, s, ?_, ?_, (cells_behind c2).2.2, ?_, by simpa using f1, by simpa using f2, hp, h4.1, h4.2, hs⟩
  · rw [World.cell?_setCell_other _ _ _ _ (hne 0 (by omega)), World.cell?_setCell_other _ _ _ _ (hne 0 (by omega)), World.cell?_setCell_other _ _ _ _ (hne 0 (by omega))]; exact c0
  · rw [World.cell?_setCell_other _ _ _ _ (hne 1 (by omega)), World.cell?_setCell_other _ _ _ _ (hne 1 (by omega)), World.cell?_setCell_other _ _ _ _ (hne 1 (by omega))]; exact c1
  · rw [World.cell?_setCell_other _ _ _ _ (hne 3 (by omega)), World.cell?_setCell_other _ _ _ _ (hne 3 (by omega)), World.cell?_setCell_other _ _ _ _ (hne 3 (by omega))]; exact c3
theorem Src.drew {w : World} {g : Nat} {a : Option Addr} {len cap : Nat} (h : Src w g a len cap) : Src w.drew g a len cap := h
theorem grown_set {w W : World} {g : Nat} (h : w.grownBy W (some g)) (j : Nat) (v : Value) : w.grownBy (W.setCell ⟨g, j, none⟩ v) (some g) :=
  ⟨h.os, h.tape, h.output, by simp [World.setCell]; exact h.size, fun k hk hne => by
    rw [heap_setCell_other _ _ _ _ (by intro e; exact hne (by simp [e]))]; exact h.block k hk hne⟩
theorem grown_drew {w W : World} {g : Option Nat} (h : w.grownBy W g) : w.grownBy W.drew g := ⟨h.os, h.tape, h.output, h.size, h.block⟩
theorem grown_refl (w : World) (g : Option Nat) : w.grownBy w g := ⟨rfl, rfl, rfl, Nat.le_refl _, fun _ _ _ => rfl⟩
theorem grown_trans {a b c : World} {g : Option Nat} (h : a.grownBy b g) (k : b.grownBy c g) : a.grownBy c g :=
  ⟨k.os.trans h.os, k.tape.trans h.tape, k.output.trans h.output, Nat.le_trans h.size k.size, fun i hi hne => (k.block i (Nat.lt_of_lt_of_le hi h.size) hne).trans (h.block i hi hne)⟩

set_option maxRecDepth 100000 in
set_option maxHeartbeats 4000000 in
theorem n_any (g : Nat) (a : Option Addr) (len cap B : Nat) (most : Int) (w : World) (hs : Src w g a len cap) (hc : Code B w a len) (hB : B ≤ g) (hl : len ≤ 1048576) (hm1 : most ≤ 9223372036854775807) (hm0 : -9223372036854775808 ≤ most) :
    Calls Try.prog 48 #[.pointer (some ⟨g, 0, none⟩), .int .i64 most] w fun e w' => ∃ r : Int, e = .returned (.int .i64 r) ∧ 0 ≤ r ∧ (r < most ∨ r = 0 ∧ most ≤ 1) ∧ Src w' g a len cap ∧ w.grownBy w' (some g) := by
  by_cases h1 : most ≤ 1
  · go_enter Try.func48, Try.ntmps48
    go_wp2
    go_ret
    exact ⟨0, rfl, by omega, by omega, hs, grown_refl _ _⟩
  · obtain ⟨p, m, s, c0, c1, c2, c3, f1, f2, hp, hm, hm', hss⟩ := hs
    have hx2 := xor_range m (IntKind.u64.wrap (m * 8192))
    have hx3 := xor_range (mix2 m) (mix2 m / 128)
    have hx4 := xor_range (mix3 m) (IntKind.u64.wrap (mix3 m * 131072))
    have HX4 : Hid (0 ≤ mix4 m ∧ mix4 m < 18446744073709551616) := hx4
    have HK : Hid (∀ X : Int, 0 ≤ wrap64 (X % most) ∧ wrap64 (X % most) < most) := by
      intro X
      have := rem_range X most (by omega)
      rw [IntWalk.wrap64_in _ ⟨by omega, by omega⟩]; exact this
    by_cases hlt : p < len
    · obtain ⟨b, off, z, rfl, hb, hz, hz0, hz1⟩ := hc p hlt
      have hne : b ≠ g := by omega
      have hlti : (p : Int) < (len : Int) := by omega
      have hwr := wrap_i64_in ((p : Int) + 1) (by omega) (by omega)
      have c2' : (w.setCell ⟨g, 1, none⟩ (.int .i64 ((p : Int) + 1))).cell? ⟨g, 2, none⟩ = some (.int .u64 m) := by rw [World.cell?_setCell_other _ _ _ _ (by simp)]; exact c2
      obtain ⟨b2, b3, b4⟩ := cells_behind (x2 := .int .u64 (mix2 m)) (x3 := .int .u64 (mix3 m)) (x4 := .int .u64 (mix4 m)) c2'
      have HS : Hid (Src ((((w.setCell ⟨g, 1, none⟩ (.int .i64 ((p : Int) + 1))).setCell ⟨g, 2, none⟩ (.int .u64 (mix2 m))).setCell ⟨g, 2, none⟩ (.int .u64 (mix3 m))).setCell ⟨g, 2, none⟩ (.int .u64 (mix4 m))) g (some ⟨b, off, none⟩) len cap) :=
        Src.stored (p' := p + 1) (s := s) _ _ _ (by rw [World.cell?_setCell_other _ _ _ _ (by simp)]; exact c0) (by rw [World.cell?_setCell_same _ _ _ c1]; rfl) c2' (by rw [World.cell?_setCell_other _ _ _ _ (by simp)]; exact c3) (by simpa using f1) (by simpa using f2) (by omega) HX4.out hss
      simp only [mix4, mix3, mix2] at b2 b3 b4 hx3 hx4
      go_enter Try.func48, Try.ntmps48
      go_wp2
      go_region
      go_wp2
      go_region
      go_wp2
      go_region
      go_wp2
      go_region
      go_wp2
      go_region
      go_wp2
      go_ret
      refine ⟨_, rfl, (HK.out _).1, .inl (HK.out _).2, HS.out, ?_⟩
      exact grown_drew (grown_drew (grown_drew (grown_drew (grown_drew (grown_set (grown_set (grown_set (grown_set (grown_refl _ _) _ _) _ _) _ _) _ _)))))
    · have hlti : (len : Int) ≤ (p : Int) := by omega
      obtain ⟨b2, b3, b4⟩ := cells_behind (x2 := .int .u64 (mix2 m)) (x3 := .int .u64 (mix3 m)) (x4 := .int .u64 (mix4 m)) c2
      have HS : Hid (Src (((w.setCell ⟨g, 2, none⟩ (.int .u64 (mix2 m))).setCell ⟨g, 2, none⟩ (.int .u64 (mix3 m))).setCell ⟨g, 2, none⟩ (.int .u64 (mix4 m))) g a len cap) :=
        Src.stored (p' := p) (s := s) _ _ _ c0 c1 c2 c3 f1 f2 hp HX4.out hss
      simp only [mix4, mix3, mix2] at b2 b3 b4 hx3 hx4
      go_enter Try.func48, Try.ntmps48
      go_wp2
      go_region
      go_wp2
      go_region
      go_wp2
      go_region
      go_wp2
      go_region
      go_wp2
      go_ret
      refine ⟨_, rfl, (HK.out _).1, .inl (HK.out _).2, HS.out, ?_⟩
      exact grown_drew (grown_drew (grown_drew (grown_drew (grown_set (grown_set (grown_set (grown_refl _ _) _ _) _ _) _ _))))
end Go.Proofs.Ytchgnjpbjnkdmaa
