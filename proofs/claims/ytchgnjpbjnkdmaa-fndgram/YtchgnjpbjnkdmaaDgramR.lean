/- Is a datagram right? Asked by the program and by the model. -/
import Derived.Test.YtchgnjpbjnkdmaaFrameR
namespace Go.Proofs.Ytchgnjpbjnkdmaa
open Go.RowKit

theorem new_below0 (w : World) (o : Obj) : Below w.heap.size w (w.alloc o) := (Below.refl _ _).alloc (Nat.le_refl _) _
def inW (n : Int) : Bool := decide (0 ≤ n ∧ n ≤ 65535)
def inA (n : Int) : Bool := decide (0 ≤ n ∧ n ≤ 4294967295)
def inT (n : Int) : Bool := decide (0 ≤ n ∧ n ≤ 255)
def dgB (s d sp dp ttl : Int) (n : Nat) : Bool := inA s && inA d && inW sp && inW dp && inT ttl && decide (n ≤ 300)
theorem dgB_spec {s d sp dp ttl : Int} {n : Nat} (h : dgB s d sp dp ttl n = true) : (0 ≤ s ∧ s ≤ 4294967295) ∧ (0 ≤ d ∧ d ≤ 4294967295) ∧ (0 ≤ sp ∧ sp ≤ 65535) ∧ (0 ≤ dp ∧ dp ≤ 65535) ∧ (0 ≤ ttl ∧ ttl ≤ 255) ∧ n ≤ 300 := by
  simp only [dgB, inA, inW, inT, Bool.and_eq_true, decide_eq_true_eq] at h
  obtain ⟨⟨⟨⟨⟨h1, h2⟩, h3⟩, h4⟩, h5⟩, h6⟩ := h
  exact ⟨h1, h2, h3, h4, h5, h6⟩
set_option maxRecDepth 100000 in
theorem isAddrW_any (a : Int) (w : World) : Calls Try.prog 49 #[.int .i64 a] w fun e w' => e = .returned (.bool (inA a)) ∧ w = w' := by
  by_cases h1 : 0 ≤ a
  · by_cases h2 : a ≤ 4294967295
    · go_enter Try.func49, Try.ntmps49
      go_wp2
      go_ret
      exact ⟨ret_bool (by simp [inA]; omega), rfl⟩
    · go_enter Try.func49, Try.ntmps49
      go_wp2
      go_ret
      exact ⟨ret_bool (by simp [inA]; omega), rfl⟩
  · go_enter Try.func49, Try.ntmps49
    go_wp2
    go_ret
    exact ⟨ret_bool (by simp [inA]; omega), rfl⟩
set_option maxRecDepth 100000 in
theorem isWord_any (a : Int) (w : World) : Calls Try.prog 77 #[.int .i64 a] w fun e w' => e = .returned (.bool (inW a)) ∧ w = w' := by
  by_cases h1 : 0 ≤ a
  · by_cases h2 : a ≤ 65535
    · go_enter Try.func77, Try.ntmps77
      go_wp2
      go_ret
      exact ⟨ret_bool (by simp [inW]; omega), rfl⟩
    · go_enter Try.func77, Try.ntmps77
      go_wp2
      go_ret
      exact ⟨ret_bool (by simp [inW]; omega), rfl⟩
  · go_enter Try.func77, Try.ntmps77
    go_wp2
    go_ret
    exact ⟨ret_bool (by simp [inW]; omega), rfl⟩
set_option maxRecDepth 100000 in
theorem l03AddrW_any (a : Int) (w : World) : Calls Try.prog 54 #[.int .i64 a] w fun e w' => e = .returned (.bool (inA a)) ∧ w = w' := by
  have HB : Hid (decide (0 ≤ a ∧ a ≤ 4294967295) = inA a) := rfl
  go_enter Try.func54, Try.ntmps54
  go_wp2_with fail
  refine (isW_any a 0 4294967295 _).mono ?_
  rintro e w1 ⟨rfl, rfl⟩
  rw [HB.out]
  go_wp2
  go_ret
  exact ⟨rfl, rfl⟩
set_option maxRecDepth 100000 in
theorem l04Port_any (a : Int) (w : World) : Calls Try.prog 78 #[.int .i64 a] w fun e w' => e = .returned (.bool (inW a)) ∧ w = w' := by
  have HB : Hid (decide (0 ≤ a ∧ a ≤ 65535) = inW a) := rfl
  go_enter Try.func78, Try.ntmps78
  go_wp2_with fail
  refine (isW_any a 0 65535 _).mono ?_
  rintro e w1 ⟨rfl, rfl⟩
  rw [HB.out]
  go_wp2
  go_ret
  exact ⟨rfl, rfl⟩
def dgV (s d sp dp ttl : Int) (t : ByteArray) : Value := .agg #[.int .i64 s, .int .i64 d, .int .i64 sp, .int .i64 dp, .int .i64 ttl, .string t]
set_option maxRecDepth 100000 in
theorem implDgramRight_any (s d sp dp ttl : Int) (t : ByteArray) (w : World) :
    Calls Try.prog 40 #[dgV s d sp dp ttl t] w fun e w' => e = .returned (.bool (dgB s d sp dp ttl t.size)) ∧ Below w.heap.size w w' := by
  unfold dgB dgV
  have HA : Hid (∀ (a : Int) (w : World), Calls Try.prog 49 #[.int .i64 a] w fun e w' => e = .returned (.bool (inA a)) ∧ w = w') := isAddrW_any
  have HW : Hid (∀ (a : Int) (w : World), Calls Try.prog 77 #[.int .i64 a] w fun e w' => e = .returned (.bool (inW a)) ∧ w = w') := isWord_any
  have HAs : Hid (∀ (w : World), Calls Try.prog 49 #[.int .i64 s] w fun e w' => e = .returned (.bool (inA s)) ∧ w = w') := isAddrW_any s
  have HAd : Hid (∀ (w : World), Calls Try.prog 49 #[.int .i64 d] w fun e w' => e = .returned (.bool (inA d)) ∧ w = w') := isAddrW_any d
  have HWs : Hid (∀ (w : World), Calls Try.prog 77 #[.int .i64 sp] w fun e w' => e = .returned (.bool (inW sp)) ∧ w = w') := isWord_any sp
  have HWd : Hid (∀ (w : World), Calls Try.prog 77 #[.int .i64 dp] w fun e w' => e = .returned (.bool (inW dp)) ∧ w = w') := isWord_any dp
  generalize inA s = A1 at *
  generalize inA d = A2 at *
  generalize inW sp = A3 at *
  generalize inW dp = A4 at *
  clear HA HW
  go_enter Try.func40, Try.ntmps40
  go_wp2_with fail
  refine (HAs.out _).mono ?_
  rintro e w1 ⟨rfl, rfl⟩
  cases A1
  · go_wp2
    go_ret
    exact ⟨rfl, new_below0 _ _⟩
  · go_wp2_with fail
    refine (HAd.out _).mono ?_
    rintro e w1 ⟨rfl, rfl⟩
    cases A2
    · go_wp2
      go_ret
      exact ⟨rfl, new_below0 _ _⟩
    · go_wp2_with fail
      refine (HWs.out _).mono ?_
      rintro e w1 ⟨rfl, rfl⟩
      cases A3
      · go_wp2
        go_ret
        exact ⟨rfl, new_below0 _ _⟩
      · go_wp2_with fail
        refine (HWd.out _).mono ?_
        rintro e w1 ⟨rfl, rfl⟩
        cases A4
        · go_wp2
          go_ret
          exact ⟨rfl, new_below0 _ _⟩
        · by_cases h1 : 0 ≤ ttl
          · by_cases h2 : ttl ≤ 255
            · by_cases h3 : t.size ≤ 300
              · go_wp2
                go_ret
                exact ⟨ret_bool (by simp [inT, h1, h2]; omega), new_below0 _ _⟩
              · go_wp2
                go_ret
                exact ⟨ret_bool (by simp [inT, h1, h2]; omega), new_below0 _ _⟩
            · go_wp2
              go_ret
              exact ⟨ret_bool (by simp [inT]; omega), new_below0 _ _⟩
          · go_wp2
            go_ret
            exact ⟨ret_bool (by simp [inT]; omega), new_below0 _ _⟩
set_option maxRecDepth 100000 in
theorem specDgramRight_any (s d sp dp ttl : Int) (t : ByteArray) (w : World) :
    Calls Try.prog 41 #[dgV s d sp dp ttl t] w fun e w' => e = .returned (.bool (dgB s d sp dp ttl t.size)) ∧ Below w.heap.size w w' := by
  unfold dgB dgV
  have HAs : Hid (∀ (w : World), Calls Try.prog 54 #[.int .i64 s] w fun e w' => e = .returned (.bool (inA s)) ∧ w = w') := l03AddrW_any s
  have HAd : Hid (∀ (w : World), Calls Try.prog 54 #[.int .i64 d] w fun e w' => e = .returned (.bool (inA d)) ∧ w = w') := l03AddrW_any d
  have HWs : Hid (∀ (w : World), Calls Try.prog 78 #[.int .i64 sp] w fun e w' => e = .returned (.bool (inW sp)) ∧ w = w') := l04Port_any sp
  have HWd : Hid (∀ (w : World), Calls Try.prog 78 #[.int .i64 dp] w fun e w' => e = .returned (.bool (inW dp)) ∧ w = w') := l04Port_any dp
  have HT : Hid (∀ (w : World), Calls Try.prog 55 #[.int .i64 ttl, .int .i64 0, .int .i64 255] w fun e w' => e = .returned (.bool (inT ttl)) ∧ w = w') := isW_any ttl 0 255
  generalize inA s = A1 at *
  generalize inA d = A2 at *
  generalize inW sp = A3 at *
  generalize inW dp = A4 at *
  generalize inT ttl = A5 at *
  go_enter Try.func41, Try.ntmps41
  go_wp2_with fail
  refine (HAs.out _).mono ?_
  rintro e w1 ⟨rfl, rfl⟩
  cases A1
  · go_wp2
    go_ret
    exact ⟨rfl, new_below0 _ _⟩
  · go_wp2_with fail
    refine (HAd.out _).mono ?_
    rintro e w1 ⟨rfl, rfl⟩
    cases A2
    · go_wp2
      go_ret
      exact ⟨rfl, new_below0 _ _⟩
    · go_wp2_with fail
      refine (HWs.out _).mono ?_
      rintro e w1 ⟨rfl, rfl⟩
      cases A3
      · go_wp2
        go_ret
        exact ⟨rfl, new_below0 _ _⟩
      · go_wp2_with fail
        refine (HWd.out _).mono ?_
        rintro e w1 ⟨rfl, rfl⟩
        cases A4
        · go_wp2
          go_ret
          exact ⟨rfl, new_below0 _ _⟩
        · go_wp2_with fail
          refine (HT.out _).mono ?_
          rintro e w1 ⟨rfl, rfl⟩
          cases A5
          · go_wp2
            go_ret
            exact ⟨rfl, new_below0 _ _⟩
          · by_cases h3 : t.size ≤ 300
            · go_wp2
              go_ret
              exact ⟨ret_bool (by simp; omega), new_below0 _ _⟩
            · go_wp2
              go_ret
              exact ⟨ret_bool (by simp; omega), new_below0 _ _⟩
end Go.Proofs.Ytchgnjpbjnkdmaa
