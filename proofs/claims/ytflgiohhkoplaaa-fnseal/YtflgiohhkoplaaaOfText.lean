/- '[]byte(s)': a new row of the text's bytes. -/
import Derived.Test.YtflgiohhkoplaaaBaseB
namespace Go.Proofs.Ytflgiohhkoplaaa
open Go.RowKit

theorem bytes_of_text (w : World) (s : ByteArray) : ∃ (w' : World) (cap : Nat), (convert 9 22 (.string s)).run Try.prog w = .ok (.slice (some ⟨w.heap.size, 0, none⟩) s.size cap) w' ∧ Below w.heap.size w w' ∧ w.heap.size < w'.heap.size ∧
    (∀ k, (h : k < s.size) → w'.cell? ⟨w.heap.size, k, none⟩ = some (.int .u8 (s[k].toNat : Int))) ∧ (∀ k, k < s.size → w'.frozen? ⟨w.heap.size, k, none⟩ = false) := by
  have h := run_bytes_of_string (P := Try.prog) w 9 22 5 s Try.underlying9 Try.underlying22 Try.underlying5
  generalize grownCap w s.size 0 5 = cap at h
  refine ⟨_, cap, h, ?_, by simp, ?_, ?_⟩
  · exact ((Below.refl _ _).drew).alloc (by simp) _
  · intro k hk
    have e := World.cell?_alloc_mark w.drew (bytesRow s cap) 5 ((bytesRow s cap).size, (bytesRow s cap).size + 1) k
    have e2 : (bytesRow s cap)[k]? = some (.int .u8 (s[k].toNat : Int)) := by
      unfold bytesRow
      rw [Array.getElem?_append_left (by simpa using hk)]
      simp only [Array.getElem?_map]
      rw [Array.getElem?_eq_getElem hk]; rfl
    rw [← e2]
    exact e
  · intro k hk
    have e := World.frozen?_alloc_mark w.drew (bytesRow s cap) 5 (bytesRow s cap).size ((bytesRow s cap).size + 1) k
    have hsz : s.size ≤ (bytesRow s cap).size := by unfold bytesRow; rw [Array.size_append, Array.size_map]; exact Nat.le_add_right _ _
    have e3 : w.drew.heap.size = w.heap.size := rfl
    rw [← e3, e]
    simp
    omega
/-- A byte put against a number from 1 to 255 is another one. -/
theorem turned_byte (b : UInt8) (q : Int) (h0 : 0 ≤ q) (h1 : q < 255) : ∃ c : UInt8, bits .xor .u8 (b.toNat : Int) (1 + q) = (c.toNat : Int) ∧ c ≠ b := by
  have hb := b.toNat_lt
  have hlt : b.toNat ^^^ (1 + q).toNat < 256 := Nat.xor_lt_two_pow (n := 8) (by omega) (by omega)
  refine ⟨UInt8.ofNat (b.toNat ^^^ (1 + q).toNat), ?_, ?_⟩
  · rw [u8_xor _ _ (by omega) (by omega) (by omega) (by omega)]
    simp only [Int.toNat_natCast, UInt8.toNat_ofNat', Nat.mod_eq_of_lt hlt]
  · intro e
    have e2 := congrArg UInt8.toNat e
    simp only [UInt8.toNat_ofNat', Nat.mod_eq_of_lt hlt] at e2
    have e3 := congrArg (fun x => b.toNat ^^^ x) e2
    simp only [← Nat.xor_assoc, Nat.xor_self, Nat.zero_xor] at e3
    omega
/-- 'string(b)', one byte of b stored anew. -/
theorem text_turned {w w' : World} {g n cap k : Nat} (Z : ByteArray) (c : UInt8) (hn : n = Z.size) (hk : k < Z.size)
    (hcell : ∀ j, (h : j < Z.size) → w.cell? ⟨g, j, none⟩ = some (.int .u8 (Z[j].toNat : Int))) (hw : ∀ j, j < Z.size → w'.cell? ⟨g, j, none⟩ = (w.setCell ⟨g, k, none⟩ (.int .u8 (c.toNat : Int))).cell? ⟨g, j, none⟩) :
    ∃ Y : ByteArray, Y.data.toList = Z.data.toList.set k c ∧ (convert 22 9 (.slice (some ⟨g, 0, none⟩) n cap)).run Try.prog w' = .ok (.string Y) w' := by
  subst hn
  have hl : (Z.data.toList.set k c).length = Z.size := by simp
  have h := run_convert_bytes_back (P := Try.prog) w' 22 9 5 ⟨g, 0, none⟩ cap (Z.data.toList.set k c) Try.underlying22 Try.underlying5 Try.underlying9 (by
    intro j hj
    have hj' : j < Z.size := by rw [hl] at hj; exact hj
    have ea : (⟨g, 0, none⟩ : Addr).add j = ⟨g, j, none⟩ := by unfold Addr.add; split <;> simp_all
    rw [ea, hw j hj']
    by_cases e : k = j
    · subst e
      rw [World.cell?_setCell_same _ _ _ (hcell k hk)]
      simp
    · rw [World.cell?_setCell_other _ _ _ _ (by intro h; cases h; exact e rfl), hcell j hj']
      rw [List.getElem_set_ne e]
      rfl)
  rw [hl] at h
  exact ⟨⟨(Z.data.toList.set k c).toArray⟩, rfl, h⟩
end Go.Proofs.Ytflgiohhkoplaaa
