/- Drawn bytes, upon SourceN. -/
import Derived.Test.YtchgnjpbjnkdmaaSourceN
import Derived.Test.YtchgnjpbjnkdmaaBaseB
namespace Go.Proofs.Ytchgnjpbjnkdmaa
open Go.RowKit

theorem OwnB.keptBut {w w' : World} {base g : Nat} {e : TypeId} {v : Value} {l : List UInt8} (h : OwnB w base e v l) (hg : w.grownBy w' (some g)) (hlt : g < base) : OwnB w' base e v l := by
  refine World.ownsRow.kept h hg ?_
  cases hv : v.ownBlock with
  | none => exact .inl rfl
  | some k => right; intro e2; cases e2; have := (World.ownsRow.lt h g hv).1; omega
theorem OwnB.ne_nil {w : World} {base : Nat} {e : TypeId} {v : Value} {l : List UInt8} (h : OwnB w base e v l) (hl : l ≠ []) : v ≠ .slice none 0 0 := by
  rintro rfl
  rcases h.2 with ⟨_, h0⟩ | ⟨g, cap, cur, h0, _⟩
  · exact hl (List.eq_nil_of_length_eq_zero h0)
  · simp at h0
theorem OwnB.textAny {P : Program} {w : World} {base : Nat} {e : TypeId} {v : Value} {l : List UInt8} (h : OwnB w base e v l) (hv : v ≠ .slice none 0 0) (src dst : TypeId) (hs : P.underlying src = some (.slice e)) (he : P.underlying e = some (.int .u8)) (hd : P.underlying dst = some .string) :
    (convert src dst v).run P w = .ok (.string ⟨l.toArray⟩) w := by
  have h0 := h
  rcases h.2 with ⟨hn, _⟩ | ⟨g, cap, cur, rfl, _⟩
  · exact absurd hn hv
  · exact OwnB.textAt h0 src dst hs he hd

set_option maxRecDepth 100000 in
set_option maxHeartbeats 2000000 in
theorem bytes_any (g : Nat) (a : Option Addr) (len cap B : Nat) (n : Int) (w : World) (hs : Src w g a len cap) (hc : Code B w a len) (hB : B ≤ g) (hl : len ≤ 1048576) (hn1 : n ≤ 1000000) :
    Calls Try.prog 71 #[.pointer (some ⟨g, 0, none⟩), .int .i64 n] w fun e w' => ∃ t : ByteArray, e = .returned (.string t) ∧ (t.size : Int) = max n 0 ∧ Src w' g a len cap ∧ w.grownBy w' (some g) := by
  have hgw := hs.lt
  go_enter Try.func71, Try.ntmps71
  go_wp2
  go_loopw [5, 6] (fun v i wr => ∃ (l : List UInt8), (l.length : Int) ≤ max n 0 ∧ i = .int .i64 l.length ∧ OwnB wr w.heap.size 5 v l ∧ v ≠ .slice none 0 0 ∧ Src wr g a len cap ∧ w.grownBy wr (some g)) (fun _ i _ => (n - intOf i).toNat)
  case atStart =>
    refine ⟨[], by simp; omega, rfl, OwnB.made _ _ _ (Nat.le_refl _), by simp, hs.kept ?_, ?_⟩
    · exact Below.heap_alloc _ _ _ hgw
    · exact World.grownBy_alloc w _ _
  case round =>
    obtain ⟨l, hll, rfl, hown, hnil, hsr, hgr⟩ := hrel
    have hcr := hc.grown hgr hB (by omega)
    have hsz := hgr.size
    by_cases hlt : (l.length : Int) < n
    · clear hc hs
      go_wp2_with fail
      refine (n_any g a len cap B 256 _ hsr hcr hB hl (by omega) (by omega)).mono ?_
      rintro e w1 ⟨r, rfl, h0, h1, hs1, hg1⟩
      have hr : r < 256 := by omega
      have hown1 := hown.keptBut hg1 hgw
      have hg01 := grown_trans hgr hg1
      have hs1z := hg01.size
      clear h1 hcr hown hsr
      go_wp2_with (at_builtin; refine wpList_append_byte rfl _ _ 22 rfl w.heap.size 5 Try.underlying22 Try.infoB _ l rfl (hown1.alloc _) w1.heap.size r rfl ?c1 ?c2 ?c3 ?c4 ?_)
      case c1 => simp
      case c2 => omega
      case c3 => omega
      case c4 => simp; omega
      · intro v' w2 hown2 hbel2
        have hbel3 : Below w.heap.size w1 w2 := ((Below.refl w.heap.size w1).alloc (by omega) _).trans hbel2
        have hs2 := hs1.kept (hbel3.block g hgw)
        have hg02 := grown_below hg01 hbel3
        clear hs1 hown1 hbel2
        go_wp2
        go_roundw
        case rel => exact ⟨_, by simp; omega, by simp, hown2, hown2.ne_nil (by simp), hs2, hg02⟩
        case measure => simp [intOf]; omega
    · have hconv := hown.textAny (P := Try.prog) hnil 22 9 Try.underlying22 Try.underlying5 Try.underlying9
      clear hnil hown hc hs hcr
      go_wp2
      go_ret
      exact ⟨_, rfl, by simp [ByteArray.size]; omega, hsr, hgr⟩
end Go.Proofs.Ytchgnjpbjnkdmaa
