/- PutNum, of the model and of the program: the same bytes. -/
import Derived.Test.YtflgiohhkoplaaaDoorNumMath
import Derived.Test.YtflgiohhkoplaaaDoorBaseB
namespace Go.Proofs.YtflgiohhkoplaaaDoor
open Go.RowKit

theorem specFold_any (n : Int) (w : World) (h0 : -9223372036854775808 ≤ n) (h1 : n ≤ 9223372036854775807) :
    Calls Tryd.prog 15 #[.int .i64 n] w fun e w' => e = .returned (.int .u64 (foldN n)) ∧ w = w' := by
  by_cases h : n < 0
  · have HF : Hid ((foldN n : Int) = -2 * n - 1) := foldN_neg n h
    go_enter Tryd.func15, Tryd.ntmps15
    go_wp2
    go_ret
    exact ⟨ret_u64 (by rw [HF.out]; omega), rfl⟩
  · have HF : Hid ((foldN n : Int) = 2 * n) := foldN_pos n h
    go_enter Tryd.func15, Tryd.ntmps15
    go_wp2
    go_ret
    exact ⟨ret_u64 (by rw [HF.out]), rfl⟩
theorem implFold_any (n : Int) (w : World) (h0 : -9223372036854775808 ≤ n) (h1 : n ≤ 9223372036854775807) :
    Calls Tryd.prog 14 #[.int .i64 n] w fun e w' => e = .returned (.int .u64 (foldN n)) ∧ w = w' := by
  by_cases hn : n < 0
  · have HF : Hid ((foldN n : Int) = -2 * n - 1) := foldN_neg n hn
    go_enter Tryd.func14, Tryd.ntmps14
    go_wp2
    go_ret
    exact ⟨ret_u64 (by rw [HF.out]; exact fold_neg n h0 hn), rfl⟩
  · have HF : Hid ((foldN n : Int) = 2 * n) := foldN_pos n hn
    go_enter Tryd.func14, Tryd.ntmps14
    go_wp2
    go_ret
    exact ⟨ret_u64 (by rw [HF.out]; omega), rfl⟩
set_option maxRecDepth 100000 in
set_option maxHeartbeats 1000000 in
theorem specPutNum_any (n : Int) (w : World) (h0 : -9223372036854775808 ≤ n) (h1 : n ≤ 9223372036854775807) :
    Calls Tryd.prog 6 #[.int .i64 n] w fun e w' => e = .returned (.string ⟨(putNumB n).toArray⟩) ∧ Below w.heap.size w w' := by
  have hb := foldN_lt n h0 h1
  have HN : Hid (PutRel (putNumB n) [] 9 (foldN n)) := ⟨hb, rfl, rfl⟩
  clear hb
  generalize putNumB n = N at *
  go_enter Tryd.func6, Tryd.ntmps6
  go_wp2_with (go_at_call 15; refine (specFold_any _ _ h0 h1).mono ?_; rintro e w' ⟨rfl, rfl⟩)
  go_loopw [3, 4] (fun x v wr => ∃ (f u : Nat) (l : List UInt8), Hid (PutRel N l f u) ∧ x = .int .u64 u ∧ OwnB wr w.heap.size 5 v l ∧ Below w.heap.size w wr) (fun x _ _ => (intOf x).toNat)
  case atStart => exact ⟨9, _, [], HN, rfl, OwnB.made _ _ _ (Nat.le_refl _), (Below.refl _ _).alloc (Nat.le_refl _) _⟩
  case round =>
    obtain ⟨f, u, l, HR, rfl, hown, hbel⟩ := hrel
    have hl := HR.out.len
    have ht := HR.out.top
    have hsz := hbel.size
    by_cases hu : 128 ≤ u
    · go_wp2_with (at_builtin; refine wpList_append_byte rfl _ _ 22 rfl w.heap.size 5 Tryd.underlying22 Tryd.infoB _ l rfl (hown.alloc _) wr.heap.size ((u : Int) % 128 + 128) rfl ?c1 ?c2 ?c3 ?c4 ?_)
      case c1 => simp
      case c2 => omega
      case c3 => omega
      case c4 => simp; omega
      · intro v' w1 hown' hbel'
        go_wp2
        go_roundw
        case rel =>
          obtain ⟨f', HR'⟩ := HR.out.step hu
          exact ⟨f', u / 128, _, HR', by go_num, by rw [show u % 128 + 128 = ((u : Int) % 128 + 128).toNat by omega]; exact hown', (hbel.alloc hsz _).trans hbel'⟩
        case measure => simp [intOf]; omega
    · go_wp2_with (at_builtin; refine wpList_append_byte rfl _ _ 22 rfl w.heap.size 5 Tryd.underlying22 Tryd.infoB _ l rfl (hown.alloc _) wr.heap.size (u : Int) rfl ?d1 ?d2 ?d3 ?d4 ?_)
      case d1 => simp
      case d2 => omega
      case d3 => omega
      case d4 => simp; omega
      · intro v' w1 hown' hbel'
        have hconv := (hown'.text (by simp) 22 9 Tryd.underlying22 Tryd.underlying5 Tryd.underlying9).2
        have HS := HR.out.stop (show u < 128 by omega)
        rw [HS] at hconv
        clear HS hown'
        go_wp2
        go_ret
        exact ⟨rfl, (hbel.alloc hsz _).trans hbel'⟩
set_option maxRecDepth 100000 in
set_option maxHeartbeats 1000000 in
theorem implPutNum_any (n : Int) (w : World) (h0 : -9223372036854775808 ≤ n) (h1 : n ≤ 9223372036854775807) :
    Calls Tryd.prog 5 #[.int .i64 n] w fun e w' => e = .returned (.string ⟨(putNumB n).toArray⟩) ∧ Below w.heap.size w w' := by
  have hb := foldN_lt n h0 h1
  have HN : Hid (PutRel (putNumB n) [] 9 (foldN n)) := ⟨hb, rfl, rfl⟩
  clear hb
  generalize putNumB n = N at *
  go_enter Tryd.func5, Tryd.ntmps5
  go_wp2_with (go_at_call 14; refine (implFold_any _ _ h0 h1).mono ?_; rintro e w' ⟨rfl, rfl⟩)
  go_loopw [3, 4] (fun v x wr => ∃ (f u : Nat) (l : List UInt8), Hid (PutRel N l f u) ∧ x = .int .u64 u ∧ OwnB wr w.heap.size 5 v l ∧ Below w.heap.size w wr) (fun _ x _ => (intOf x).toNat)
  case atStart => exact ⟨9, _, [], HN, rfl, OwnB.nil _ _ _, Below.refl _ _⟩
  case round =>
    obtain ⟨f, u, l, HR, rfl, hown, hbel⟩ := hrel
    have hl := HR.out.len
    have ht := HR.out.top
    have hsz := hbel.size
    by_cases hu : 128 ≤ u
    · go_wp2_with (at_builtin; refine wpList_append_byte rfl _ _ 22 rfl w.heap.size 5 Tryd.underlying22 Tryd.infoB _ l rfl (hown.alloc _) wr.heap.size ((u : Int) % 128 + 128) rfl ?c1 ?c2 ?c3 ?c4 ?_)
      case c1 => simp
      case c2 => omega
      case c3 => omega
      case c4 => simp; omega
      · intro v' w1 hown' hbel'
        go_wp2
        go_roundw
        case rel =>
          obtain ⟨f', HR'⟩ := HR.out.step hu
          exact ⟨f', u / 128, _, HR', by go_num, by rw [show u % 128 + 128 = ((u : Int) % 128 + 128).toNat by omega]; exact hown', (hbel.alloc hsz _).trans hbel'⟩
        case measure => simp [intOf]; omega
    · go_wp2_with (at_builtin; refine wpList_append_byte rfl _ _ 22 rfl w.heap.size 5 Tryd.underlying22 Tryd.infoB _ l rfl (hown.alloc _) wr.heap.size (u : Int) rfl ?d1 ?d2 ?d3 ?d4 ?_)
      case d1 => simp
      case d2 => omega
      case d3 => omega
      case d4 => simp; omega
      · intro v' w1 hown' hbel'
        have hconv := (hown'.text (by simp) 22 9 Tryd.underlying22 Tryd.underlying5 Tryd.underlying9).2
        have HS := HR.out.stop (show u < 128 by omega)
        rw [HS] at hconv
        clear HS hown'
        go_wp2
        go_ret
        exact ⟨rfl, (hbel.alloc hsz _).trans hbel'⟩
end Go.Proofs.YtflgiohhkoplaaaDoor
