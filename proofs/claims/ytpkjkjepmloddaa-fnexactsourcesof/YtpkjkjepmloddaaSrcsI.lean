/- SourcesOf of the program. (Written by gen_srcs.py.) -/
import Derived.Test.YtpkjkjepmloddaaSrcsM
import Derived.Test.YtpkjkjepmloddaaOwnJ
import Derived.Test.YtpkjkjepmloddaaSrtI
namespace Go.Proofs.Ytpkjkjepmloddaa
open Go.RowKit Go.Sort

/-- The value is a list of the numbers l, of memory from base on. -/
def ListJ (w : World) (base : Nat) (v : Value) (l : List Int) : Prop := ∃ p cap, v = .slice p l.length cap ∧ (l = [] ∨ ∃ g c, p = some ⟨g, 0, none⟩ ∧ base ≤ g ∧ IntsAt w g c l)
theorem ListJ.nil (w : World) (base : Nat) (p : Option Addr) (c : Nat) : ListJ w base (.slice p 0 c) [] := ⟨p, c, rfl, .inl rfl⟩
theorem ListJ.below {w w' : World} {base : Nat} {v : Value} {l : List Int} (h : ListJ w base v l) (hb : Below w.heap.size w w') : ListJ w' base v l := by
  obtain ⟨p, cap, e, h⟩ := h
  refine ⟨p, cap, e, ?_⟩
  rcases h with h | ⟨g, c, e2, h2, h3⟩
  · exact .inl h
  · exact .inr ⟨g, c, e2, h2, h3.below hb h3.lt⟩
theorem ListJ.of_own {w : World} {base : Nat} {v : Value} {l : List Int} (h : OwnJ w base v l) : ListJ w base v l := by
  obtain ⟨p, cap, rfl⟩ := h.shape
  by_cases hl : l = []
  · subst hl
    exact ⟨p, cap, rfl, .inl rfl⟩
  · obtain ⟨-, g, c, e, h1, h2, h3⟩ := h.ints hl
    exact ⟨p, cap, rfl, .inr ⟨g, c, e, h1, h3⟩⟩
set_option maxRecDepth 100000 in
set_option maxHeartbeats 2000000 in
theorem implSrcs_any (p : Option Addr) (cap : Nat) (ls : List Lk) (to : Int) (w : World) (h : LksIn w p ls) (hn : ls.length ≤ 100000000) :
    Calls Try.prog 14 #[.slice p ls.length cap, .int .i64 to] w fun e w' => (∃ v, e = .returned v ∧ ListJ w' w.heap.size v (srcsO ls to)) ∧ Below w.heap.size w w' := by
  have HL : Hid (∀ w, LksIn w p ls → Calls Try.prog 38 #[.slice p ls.length cap] w fun e w' => e = .returned (.bool (lksB ls)) ∧ Below w.heap.size w w') := fun w h => implLeaks_any p cap ls w h hn
  have HP : Hid (∀ w, Calls Try.prog 39 #[.int .i64 to] w fun e w' => e = .returned (.bool (inPt to)) ∧ w = w') := isParty_any to
  have HX : Hid (LksIn w p ls) := h
  have HR : Hid (srcsO ls to = if (lksB ls && inPt to) = true then srcJ ls to else []) := rfl
  have HJ : Hid (lksB ls = true → inPt to = true → ∀ ds out : List Int, ds.Perm (srcW ls to) → OnceJ ds out → out = srcJ ls to) := fun a b ds out c d => srcJ_of a b c d
  have H4 : Hid (lksB ls = true → ls.length ≤ 4) := fun h => (lksB_spec h).1
  clear h
  generalize srcsO ls to = RES at *
  generalize lksB ls = LB at *
  generalize inPt to = IP at *
  go_enter Try.func14, Try.ntmps14
  go_wp2_with fail
  refine (HL.out _ HX.out).mono ?_
  rintro e w1 ⟨rfl, hB⟩
  have hR := HR.out
  clear HL HR
  cases LB
  · simp only [Bool.false_and, Bool.false_eq_true, if_false] at hR
    clear HP HJ H4
    go_wp2
    go_ret
    exact ⟨⟨_, rfl, by rw [hR]; exact ListJ.nil _ _ _ _⟩, hB⟩
  go_wp2_with fail
  refine (HP.out _).mono ?_
  rintro e w2 ⟨rfl, rfl⟩
  clear HP
  cases IP
  · simp only [Bool.and_false, Bool.false_eq_true, if_false] at hR
    clear HJ H4
    go_wp2
    go_ret
    exact ⟨⟨_, rfl, by rw [hR]; exact ListJ.nil _ _ _ _⟩, hB⟩
  have h4 := H4.out (by first | rfl | trivial)
  simp only [Bool.and_self, if_true] at hR
  have HK : Hid (∀ ds out : List Int, ds.Perm (srcW ls to) → OnceJ ds out → out = RES) := fun ds out a b => by rw [hR]; exact HJ.out (by first | rfl | trivial) (by first | rfl | trivial) ds out a b
  clear HJ H4 hR
  have ho : OwnJ (w1.alloc (.cells #[.int .i64 to] 2)) w.heap.size (.slice (some ⟨w1.heap.size, 0, none⟩) 1 1) (srcW (ls.take 0) to) := OwnJ.one w1 w.heap.size hB.size to
  have hB := hB.alloc hB.size (.cells #[.int .i64 to] 2)
  have HO : Hid _ := And.intro ho hB
  clear ho hB
  go_wp2_with fail
  go_loopw [20, 5] (fun i v wr => ∃ k : Nat, k ≤ ls.length ∧ i = .int .i64 k ∧ OwnJ wr w.heap.size v (srcW (ls.take k) to) ∧ Below w.heap.size w wr) (fun i _ _ => ls.length - (intOf i).toNat)
  case atStart => exact ⟨0, Nat.zero_le _, rfl, HO.out.1, HO.out.2⟩
  case round =>
    clear HO
    obtain ⟨k, hk, rfl, ho, hB⟩ := hrel
    by_cases hlt : k < ls.length
    · have d1 : decide ((k : Int) < (ls.length : Int)) = true := by simpa using hlt
      obtain ⟨g, fr, tt, a, l, ad, tg, rfl, hg, hek, c0, c1, c2, c3, c4, c5⟩ := (HX.out.below hB).at k hlt
      have hnx : srcW (ls.take (k + 1)) to = srcW (ls.take k) to ++ (if tt = to then [fr] else []) := by
        rw [List.take_add_one, List.getElem?_eq_getElem hlt, hek]
        exact srcW_snoc _ _ _
      have hle : (srcW (ls.take k) to).length ≤ 5 := by have := srcW_le (ls.take k) to; rw [List.length_take] at this; omega
      have ho := ho.alloc (.cells #[.int .i64 fr, .int .i64 tt, .int .i64 a, .int .i64 l, .int .i64 ad, .int .i64 tg] 76)
      have hB := hB.alloc hB.size (.cells #[.int .i64 fr, .int .i64 tt, .int .i64 a, .int .i64 l, .int .i64 ad, .int .i64 tg] 76)
      obtain ⟨q, cq, rfl⟩ := ho.shape
      by_cases ht : tt = to
      · have dt : (tt == to) = true := by simpa using ht
        rw [if_pos ht] at hnx
        have HN : Hid _ := hnx
        have ho := ho.alloc (.cells #[.int .i64 fr] 2)
        have hB := hB.alloc hB.size (.cells #[.int .i64 fr] 2)
        have rE := Row.new (wr.alloc (.cells #[.int .i64 fr, .int .i64 tt, .int .i64 a, .int .i64 l, .int .i64 ad, .int .i64 tg] 76)) 2 [.int .i64 fr]
        have hs1 : w.heap.size ≤ ((wr.alloc (.cells #[.int .i64 fr, .int .i64 tt, .int .i64 a, .int .i64 l, .int .i64 ad, .int .i64 tg] 76)).alloc (.cells #[.int .i64 fr] 2)).heap.size := hB.size
        rw [show (wr.alloc (.cells #[.int .i64 fr, .int .i64 tt, .int .i64 a, .int .i64 l, .int .i64 ad, .int .i64 tg] 76)).heap.size = wr.heap.size + 1 by simp] at rE
        clear ht hnx hek
        go_wp2_with (at_builtin; refine wpList_append_int rfl _ _ rfl w.heap.size _ _ rfl ho (wr.heap.size + 1) 1 fr rfl rE (by omega) hs1 ?_)
        intro v5 w5 ho5 hb5
        have HZ : Hid _ := And.intro ho5 (hB.trans hb5)
        clear ho5 hb5 ho hB rE hs1 c0 c1 c2 c3 c4 c5
        go_wp2_with fail
        go_roundw
        case rel => exact ⟨k + 1, hlt, by go_num, by rw [HN.out]; exact HZ.out.1, HZ.out.2⟩
        case measure => simp [intOf]; omega
      · have dt : (tt == to) = false := by simpa using ht
        rw [if_neg ht, List.append_nil] at hnx
        have HZ : Hid _ := And.intro ho (And.intro hB hnx)
        clear ho hB hnx ht hek
        go_wp2_with fail
        clear c0 c1 c2 c3 c4 c5
        go_roundw
        case rel => exact ⟨k + 1, hlt, by go_num, by rw [HZ.out.2.2]; exact HZ.out.1, HZ.out.2.1⟩
        case measure => simp [intOf]; omega
    · have d1 : decide ((k : Int) < (ls.length : Int)) = false := by simpa using hlt
      have htk : ls.take k = ls := List.take_of_length_le (by omega)
      rw [htk] at ho
      have hne : srcW ls to ≠ [] := by unfold srcW; simp
      have hle := srcW_le ls to
      generalize hds : srcW ls to = ds at *
      obtain ⟨q, cq, rfl⟩ := ho.shape
      obtain ⟨-, g, c, rfl, hbg, hcq, hI⟩ := ho.ints hne
      have h12 : ds.length ≤ 12 := by omega
      have HS : Hid (Calls Try.prog 40 #[.slice (some ⟨g, 0, none⟩) ds.length cq] wr fun e w' => e = .returned (.tuple #[]) ∧ InsSJ g c ds wr ds.length w') := sortJ_any g c cq ds wr h12 hI
      have HB : Hid (Below w.heap.size w wr) := hB
      clear htk ho hI hB hds HX hne
      go_wp2_with fail
      refine HS.out.mono ?_
      rintro e w3 ⟨rfl, cur, hN3, hP3, hR3, hB3⟩
      have hl3 : cur.length = ds.length := hP3.length_eq
      rw [← hl3] at hR3
      have HC : Hid (Calls Try.prog 41 #[.slice (some ⟨g, 0, none⟩) cur.length cq] w3 fun e w' => ∃ out : List Int, e = .returned (.slice (some ⟨g, 0, none⟩) out.length cq) ∧ IntsAt w' g c out ∧ OnceJ cur out ∧ ButG g w3 w' ∧ w'.heap.size = w3.heap.size) := compactJ_any g c cq cur w3 (by omega) (by omega) hR3 hN3
      have HD : Hid _ := And.intro hP3 hB3
      rw [hl3] at HC
      clear hN3 hP3 hR3 hB3 HS
      go_wp2_with fail
      refine HC.out.mono ?_
      rintro e w4 ⟨out, rfl, hN4, hO4, hB4, -⟩
      have HF : Hid _ := And.intro hN4 (And.intro hO4 hB4)
      clear hN4 hO4 hB4 HC
      go_wp2
      go_ret
      obtain ⟨hN4, hO4, hB4⟩ := HF.out
      have e1 := HK.out cur out HD.out.1 hO4
      refine ⟨⟨_, rfl, ?_⟩, hB4 _ _ (HD.out.2 _ _ HB.out hbg) hbg⟩
      rw [← e1]
      exact ⟨_, _, rfl, .inr ⟨g, c, rfl, hbg, hN4⟩⟩
end Go.Proofs.Ytpkjkjepmloddaa
