/- The laws' own looks at a list of whole numbers: alike, marked, held. (Written by gen_wsrcs.py.) -/
import Derived.Test.YtpkjkjepmloddaaSrtM
import Derived.Test.YtpkjkjepmloddaaBase
import Derived.BigQuiet
namespace Go.Proofs.Ytpkjkjepmloddaa
open Go.RowKit Go.Sort

def upJ (n : Nat) : List Int := (List.range n).map fun i : Nat => 1 + (i : Int)
theorem upJ_length (n : Nat) : (upJ n).length = n := by simp [upJ]
theorem upJ_get (n k : Nat) (h : k < (upJ n).length) : (upJ n)[k] = 1 + (k : Int) := by simp [upJ]
theorem upJ_succ (n : Nat) : upJ (n + 1) = upJ n ++ [1 + (n : Int)] := by simp [upJ, List.range_succ]
/-- The value is a list of the numbers l. -/
def JsIn (w : World) (v : Value) (l : List Int) : Prop := ∃ p cap, v = .slice p l.length cap ∧ (l = [] ∨ ∃ g c, p = some ⟨g, 0, none⟩ ∧ IntsAt w g c l)
theorem JsIn.below {w w' : World} {v : Value} {l : List Int} (h : JsIn w v l) (hb : Below w.heap.size w w') : JsIn w' v l := by
  obtain ⟨p, cap, e, h⟩ := h
  refine ⟨p, cap, e, ?_⟩
  rcases h with h | ⟨g, c, e2, h3⟩
  · exact .inl h
  · exact .inr ⟨g, c, e2, h3.below hb h3.lt⟩
set_option maxRecDepth 100000 in
set_option maxHeartbeats 1000000 in
theorem eqInt64S_any (v u : Value) (l : List Int) (w : World) (hn : l.length ≤ 100000000) (h1 : JsIn w v l) (h2 : JsIn w u l) : Calls Try.prog 15 #[v, u] w fun e w' => e = .returned (.bool true) ∧ Below w.heap.size w w' := by
  obtain ⟨p, c, rfl, h1⟩ := h1
  obtain ⟨q, d, rfl, h2⟩ := h2
  go_enter Try.func15, Try.ntmps15
  go_wp2_with fail
  go_loopw [5] (fun i wr => ∃ k : Nat, k ≤ l.length ∧ i = .int .i64 k ∧ Below w.heap.size w wr) (fun i _ => l.length - (intOf i).toNat)
  case atStart => exact ⟨0, Nat.zero_le _, rfl, Below.refl _ _⟩
  case round =>
    obtain ⟨k, hk, rfl, hB⟩ := hrel
    have HB : Hid (Below w.heap.size w wr) := hB
    by_cases hlt : k < l.length
    · have d1 : decide ((k : Int) < (l.length : Int)) = true := by simpa using hlt
      have hne : l ≠ [] := by rintro rfl; simp at hlt
      have h1' := h1
      have h2' := h2
      rcases h1' with h | ⟨g, gc, rfl, i1⟩
      · exact absurd h hne
      rcases h2' with h | ⟨b, bc, rfl, i2⟩
      · exact absurd h hne
      have c0 := (i1.below hB i1.lt).cell k hlt
      have e0 := (i2.below hB i2.lt).cell k hlt
      have dn : (l[k] != l[k]) = false := by simp
      clear i1 i2 h1 h2 hne hB
      generalize l[k] = X at *
      go_wp2_with fail
      go_quiet (fail)
      go_wp2
      go_roundw
      case rel => exact ⟨k + 1, hlt, by go_num, below_drewK HB.out _⟩
      case measure => simp [intOf]; omega
    · have d1 : decide ((k : Int) < (l.length : Int)) = false := by simpa using hlt
      clear h1 h2
      go_wp2
      go_ret
      exact ⟨rfl, HB.out⟩
set_option maxRecDepth 100000 in
set_option maxHeartbeats 1000000 in
theorem markInt64S_any (v : Value) (l : List Int) (base : Nat) (w : World) (hn : l.length ≤ 100000000) (h : ∃ p cap, v = .slice p l.length cap ∧ (l = [] ∨ ∃ g c, p = some ⟨g, 0, none⟩ ∧ base ≤ g ∧ IntsAt w g c l)) :
    Calls Try.prog 18 #[v, .int .i64 1] w fun e w' => e = .returned (.int .i64 (1 + (l.length : Int))) ∧ JsIn w' v (upJ l.length) ∧ Below base w w' := by
  obtain ⟨p, cap, rfl, h⟩ := h
  rcases h with rfl | ⟨g, c, rfl, hg, hI⟩
  · go_enter Try.func18, Try.ntmps18
    go_wp2_with fail
    go_loop [5, 1] (fun i k => i = .int .i64 0 ∧ k = .int .i64 1) (fun _ _ => 0)
    case atStart => exact ⟨rfl, rfl⟩
    case round =>
      obtain ⟨rfl, rfl⟩ := hrel
      go_wp2
      go_ret
      exact ⟨rfl, ⟨p, cap, rfl, .inl rfl⟩, Below.refl _ _⟩
  · have HI : Hid (IntsAt w g c (upJ 0 ++ l.drop 0)) := hI
    clear hI
    go_enter Try.func18, Try.ntmps18
    go_wp2_with fail
    go_loopw [5, 1] (fun i m wr => ∃ k : Nat, k ≤ l.length ∧ i = .int .i64 k ∧ m = .int .i64 (1 + (k : Int)) ∧ IntsAt wr g c (upJ k ++ l.drop k) ∧ Below base w wr) (fun i _ _ => l.length - (intOf i).toNat)
    case atStart => exact ⟨0, Nat.zero_le _, rfl, rfl, HI.out, Below.refl _ _⟩
    case round =>
      clear HI
      obtain ⟨k, hk, rfl, rfl, hI, hB⟩ := hrel
      by_cases hlt : k < l.length
      · have d1 : decide ((k : Int) < (l.length : Int)) = true := by simpa using hlt
        obtain ⟨z, c0⟩ : ∃ z, wr.cell? ⟨g, k, none⟩ = some z := ⟨_, hI.cell k (by rw [List.length_append, upJ_length, List.length_drop]; omega)⟩
        have f0 := hI.frozen k
        have hs := hI.set k (1 + (k : Int))
        have e : ((upJ k ++ l.drop k).set k (1 + (k : Int))) = upJ (k + 1) ++ l.drop (k + 1) := by
          rw [List.set_append_right _ _ (by rw [upJ_length]; omega), List.drop_eq_getElem_cons hlt, upJ_length, Nat.sub_self, List.set_cons_zero, upJ_succ, List.append_assoc, List.singleton_append]
        rw [e] at hs
        have HS : Hid _ := And.intro hs (hB.setCell (p := ⟨g, k, none⟩) hg (.int .i64 (1 + (k : Int))))
        clear hs e hI hB
        go_wp2
        go_roundw
        case rel => exact ⟨k + 1, hlt, by go_num, by go_num, HS.out.1, HS.out.2⟩
        case measure => simp [intOf]; omega
      · obtain rfl : k = l.length := by omega
        rw [List.drop_length, List.append_nil] at hI
        have HS : Hid _ := And.intro hI hB
        clear hI hB
        go_wp2
        go_ret
        exact ⟨rfl, ⟨_, _, by rw [upJ_length], .inr ⟨g, c, rfl, HS.out.1⟩⟩, HS.out.2⟩
set_option maxRecDepth 100000 in
set_option maxHeartbeats 1000000 in
theorem heldInt64S_any (v : Value) (n : Nat) (w : World) (hn : n ≤ 100000000) (h : JsIn w v (upJ n)) :
    Calls Try.prog 19 #[v, .int .i64 1] w fun e w' => e = .returned (.int .i64 (1 + (n : Int))) ∧ w = w' := by
  obtain ⟨p, cap, rfl, h⟩ := h
  have hl : (upJ n).length = n := upJ_length n
  rw [hl]
  go_enter Try.func19, Try.ntmps19
  go_wp2_with fail
  go_loop [5, 1] (fun i m => ∃ k : Nat, k ≤ n ∧ i = .int .i64 k ∧ m = .int .i64 (1 + (k : Int))) (fun i _ => n - (intOf i).toNat)
  case atStart => exact ⟨0, Nat.zero_le _, rfl, rfl⟩
  case round =>
    obtain ⟨k, hk, rfl, rfl⟩ := hrel
    by_cases hlt : k < n
    · have d1 : decide ((k : Int) < (n : Int)) = true := by simpa using hlt
      have h' := h
      rcases h' with h' | ⟨g, c, rfl, hI⟩
      · rw [h'] at hl; simp at hl; omega
      have c0 := hI.cell k (by rw [hl]; exact hlt)
      rw [upJ_get] at c0
      have dn : ((1 + (k : Int)) != (1 + (k : Int))) = false := by simp
      clear h hI hl
      go_wp2
      go_round
      case rel => exact ⟨k + 1, hlt, by go_num, by go_num⟩
      case measure => simp [intOf]; omega
    · have d1 : decide ((k : Int) < (n : Int)) = false := by simpa using hlt
      obtain rfl : k = n := by omega
      clear h
      go_wp2
      go_ret
      exact ⟨rfl, rfl⟩
end Go.Proofs.Ytpkjkjepmloddaa
