/- SourcesOf of the model. (Written by gen_srcs.py.) -/
import Derived.Test.YtpkjkjepmloddaaSrcsM
import Derived.Test.YtpkjkjepmloddaaOwnJ
namespace Go.Proofs.Ytpkjkjepmloddaa
open Go.RowKit Go.Sort

set_option maxRecDepth 100000 in
set_option maxHeartbeats 2000000 in
theorem specSrcs_any (p : Option Addr) (cap : Nat) (ls : List Lk) (to : Int) (w : World) (h : LksIn w p ls) (hn : ls.length ≤ 100000000) :
    Calls Try.prog 12 #[.slice p ls.length cap, .int .i64 to] w fun e w' => (∃ v, e = .returned v ∧ OwnJ w' w.heap.size v (srcsO ls to)) ∧ Below w.heap.size w w' := by
  have HL : Hid (∀ w, LksIn w p ls → Calls Try.prog 36 #[.slice p ls.length cap] w fun e w' => e = .returned (.bool (lksB ls)) ∧ Below w.heap.size w w') := fun w h => specLeaks_any p cap ls w h hn
  have HP : Hid (∀ w, Calls Try.prog 29 #[.int .i64 to, .int .i64 0, .int .i64 2] w fun e w' => e = .returned (.bool (inPt to)) ∧ w = w') := fun w => by
    have := l03Is_any to 0 2 w
    unfold inPt
    exact this
  have HX : Hid (LksIn w p ls) := h
  have HR : Hid (srcsO ls to = if (lksB ls && inPt to) = true then srcJ ls to else []) := rfl
  clear h
  generalize srcsO ls to = RES at *
  generalize lksB ls = LB at *
  generalize inPt to = IP at *
  have ho := OwnJ.made w w.heap.size (Nat.le_refl _)
  have hB := ent_new0 w (.cells #[] 2)
  have HO : Hid _ := And.intro ho hB
  clear ho hB
  go_enter Try.func12, Try.ntmps12
  go_wp2_with fail
  obtain ⟨ho, hB⟩ := HO.out
  clear HO
  refine (HL.out _ (HX.out.below hB)).mono ?_
  rintro e w1 ⟨rfl, hb1⟩
  have ho := ho.below hb1
  have hB := hB.trans (hb1.mono hB.size)
  have hR := HR.out
  clear HL HR hb1
  cases LB
  · simp only [Bool.false_and, Bool.false_eq_true, if_false] at hR
    clear HP
    go_wp2
    go_ret
    exact ⟨⟨_, rfl, by rw [hR]; exact ho⟩, hB⟩
  go_wp2_with fail
  refine (HP.out _).mono ?_
  rintro e w2 ⟨rfl, rfl⟩
  clear HP
  cases IP
  · simp only [Bool.and_false, Bool.false_eq_true, if_false] at hR
    go_wp2
    go_ret
    exact ⟨⟨_, rfl, by rw [hR]; exact ho⟩, hB⟩
  simp only [Bool.and_self, if_true] at hR
  have HJ : Hid (srcJ ls to = RES) := hR.symm
  have HO : Hid _ := And.intro ho hB
  clear ho hB hR
  go_wp2_with fail
  go_loopw [6, 5] (fun i v wr => ∃ k : Nat, k ≤ 3 ∧ i = .int .i64 k ∧ OwnJ wr w.heap.size v (srcK ls to k) ∧ Below w.heap.size w wr) (fun i _ _ => 3 - (intOf i).toNat)
  case atStart => exact ⟨0, by omega, rfl, HO.out.1, HO.out.2⟩
  case round =>
    clear HO
    obtain ⟨k, hk, rfl, ho, hB⟩ := hrel
    by_cases hlt : k < 3
    · have d1 : decide ((k : Int) < 3) = true := by simp; omega
      obtain ⟨q, cq, rfl⟩ := ho.shape
      have HO : Hid _ := And.intro ho hB
      have hx := HX.out.below hB
      have hnx := srcK_next ls to k hlt
      have hle := srcK_le ls to k
      have HN : Hid _ := hnx
      clear ho hB hnx
      have hb0 : ((k : Int) == to) = srcB ls to (k : Int) 0 := by unfold srcB; simp
      rw [← srcB_all ls to (k : Int)] at HN
      generalize srcK ls to k = S at *
      generalize hV : (k : Int) = V at *
      generalize hBB : ((V : Int) == to) = B0 at *
      go_wp2_with fail
      go_loop [8, 7] (fun j b => ∃ m : Nat, m ≤ ls.length ∧ j = .int .i64 m ∧ b = .bool (srcB ls to V m)) (fun j _ => ls.length - (intOf j).toNat)
      case atStart => exact ⟨0, Nat.zero_le _, rfl, by first | rfl | rw [hb0]⟩
      case round =>
        obtain ⟨m, hm, rfl, rfl⟩ := hrel
        clear hb0 hBB
        by_cases hml : m < ls.length
        · have dm : decide ((m : Int) < (ls.length : Int)) = true := by simpa using hml
          obtain ⟨g, fr, tt, a, l, ad, tg, rfl, hg, hek, c0, c1, c2, c3, c4, c5⟩ := hx.at m hml
          have hnb := srcB_next ls to V m hml
          rw [hek] at hnb
          simp only at hnb
          have HNB : Hid _ := hnb
          clear hek hnb c2 c3 c4 c5
          generalize srcB ls to V m = B1 at *
          generalize ht1 : (tt == to) = T1 at *
          generalize ht2 : (fr == V) = T2 at *
          cases B1
          · cases T1
            · go_wp2
              go_round
              case rel => exact ⟨m + 1, hml, by go_num, by rw [HNB.out]; rfl⟩
              case measure => simp [intOf]; omega
            · go_wp2
              go_round
              case rel => exact ⟨m + 1, hml, by go_num, by rw [HNB.out]; simp⟩
              case measure => simp [intOf]; omega
          · go_wp2
            go_round
            case rel => exact ⟨m + 1, hml, by go_num, by rw [HNB.out]; simp⟩
            case measure => simp [intOf]; omega
        · have dm : decide ((m : Int) < (ls.length : Int)) = false := by simpa using hml
          obtain rfl : m = ls.length := by omega
          generalize srcB ls to V ls.length = B1 at *
          clear hx
          cases B1
          · go_wp2
            go_roundw
            case rel => exact ⟨k + 1, hlt, by rw [← hV]; go_num, by have h := HN.out; simp only [Bool.false_eq_true, if_false, List.append_nil] at h; rw [h]; exact HO.out.1, HO.out.2⟩
            case measure => simp [intOf]; omega
          · obtain ⟨ho, hB⟩ := HO.out
            have ho := ho.alloc (.cells #[.int .i64 V] 2)
            have hB := hB.alloc hB.size (.cells #[.int .i64 V] 2)
            have rE := Row.new wr 2 [.int .i64 V]
            have hs1 := hB.size
            go_wp2_with (at_builtin; refine wpList_append_int rfl _ _ rfl w.heap.size _ _ rfl ho wr.heap.size 1 V rfl rE (by omega) hs1 ?_)
            intro v5 w5 ho5 hb5
            have HZ : Hid _ := And.intro ho5 (hB.trans hb5)
            clear ho5 hb5 ho hB rE hs1
            go_wp2_with fail
            go_roundw
            case rel => exact ⟨k + 1, hlt, by rw [← hV]; go_num, by have h := HN.out; simp only [if_true] at h; rw [h]; exact HZ.out.1, HZ.out.2⟩
            case measure => simp [intOf]; omega
    · have d1 : decide ((k : Int) < 3) = false := by simp; omega
      obtain rfl : k = 3 := by omega
      rw [srcK_all, HJ.out] at ho
      have HO : Hid _ := And.intro ho hB
      clear ho hB
      go_wp2
      go_ret
      exact ⟨⟨_, rfl, HO.out.1⟩, HO.out.2⟩
end Go.Proofs.Ytpkjkjepmloddaa
