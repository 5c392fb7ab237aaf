/- What routers say, in plain lists of bytes. -/
import Derived.Test.YtehiipddbgoajaaEnts
import Derived.Test.YtehiipddbgoajaaWireMath
namespace Go.Proofs.Ytehiipddbgoajaa
open Go.RowKit Go.Sort

def entNs (e : Ent) : List Int := [2, e.t, e.a / 65536, e.a, maskV e.l / 65536, maskV e.l, e.n / 65536, e.n, 0, e.m]
def entBy (e : Ent) : List UInt8 := wordsL (entNs e)
theorem entBy_length (e : Ent) : (entBy e).length = 20 := by unfold entBy; rw [wordsL_length]; rfl
def entsBy (es : List Ent) : List UInt8 := es.flatMap entBy
theorem entsBy_cons (e : Ent) (es : List Ent) : entsBy (e :: es) = entBy e ++ entsBy es := rfl
theorem entsBy_append (a b : List Ent) : entsBy (a ++ b) = entsBy a ++ entsBy b := by simp [entsBy]
theorem entsBy_length (es : List Ent) : (entsBy es).length = 20 * es.length := by
  induction es with
  | nil => rfl
  | cons e es ih => rw [entsBy_cons, List.length_append, entBy_length, ih, List.length_cons]; omega
theorem entsBy_next (es : List Ent) (k : Nat) (h : k < es.length) : entsBy (es.take (k + 1)) = entsBy (es.take k) ++ entBy es[k] := by
  rw [List.take_succ_eq_append_getElem h, entsBy_append]; simp [entsBy]
def ripHd (c : Int) : List UInt8 := wordsL [c * 256 + 2, 0]
theorem ripHd_length (c : Int) : (ripHd c).length = 4 := rfl
def ripL (c : Int) (es : List Ent) : List UInt8 := ripHd c ++ entsBy es
theorem ripL_length (c : Int) (es : List Ent) : (ripL c es).length = 4 + 20 * es.length := by rw [ripL, List.length_append, ripHd_length, entsBy_length]
def ripT (c : Int) (es : List Ent) : ByteArray := ⟨(ripL c es).toArray⟩
def ripO (c : Int) (es : List Ent) : ByteArray := if ripB c es = true then ripT c es else ByteArray.empty
theorem ripT_size (c : Int) (es : List Ent) : (ripT c es).size = 4 + 20 * es.length := by
  show (ripL c es).toArray.size = _
  rw [List.size_toArray, ripL_length]
theorem ripB_spec {c : Int} {es : List Ent} (h : ripB c es = true) : (c = 1 ∨ c = 2) ∧ es.length ≤ 8 ∧ es.all entB = true := by
  simp only [ripB, Bool.and_eq_true, decide_eq_true_eq] at h
  exact ⟨h.1.1, h.1.2, h.2⟩
theorem all_at {es : List Ent} (h : es.all entB = true) (k : Nat) (hk : k < es.length) : entB es[k] = true := List.all_eq_true.1 h _ (List.getElem_mem hk)
theorem entB_spec {a l n m t : Int} (h : entB ⟨a, l, n, m, t⟩ = true) : (0 ≤ a ∧ a ≤ 4294967295) ∧ (0 ≤ l ∧ l ≤ 32) ∧ cutV a l = a ∧ (0 ≤ n ∧ n ≤ 4294967295) ∧ (1 ≤ m ∧ m ≤ 16) ∧ (0 ≤ t ∧ t ≤ 65535) := by
  simp only [entB, rightB, inAddr, inMet, inTag, Bool.and_eq_true, decide_eq_true_eq] at h
  obtain ⟨⟨⟨⟨h1, h2, h3, h4, h5⟩, h6⟩, h7⟩, h8⟩ := h
  exact ⟨⟨h1, h2⟩, ⟨h3, h4⟩, h5, h6, h7, h8⟩
end Go.Proofs.Ytehiipddbgoajaa
