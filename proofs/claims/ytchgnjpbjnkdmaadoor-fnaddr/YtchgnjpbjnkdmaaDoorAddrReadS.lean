/- AddrRead of the model. -/
import Derived.Test.YtchgnjpbjnkdmaaDoorAddrTextS
import Derived.Test.YtchgnjpbjnkdmaaDoorNumS
import Derived.Test.YtchgnjpbjnkdmaaDoorSplitS
import Derived.Test.YtchgnjpbjnkdmaaDoorReadA
namespace Go.Proofs.YtchgnjpbjnkdmaaDoor
open Go.RowKit

/-- Numbers put together, each a byte, as the model does it. -/
def foldN : List (List UInt8) → Int → Int
  | [], n => n
  | p :: ps, n => foldN ps (256 * n + l3N p)
theorem foldN_snoc (ps : List (List UInt8)) (p : List UInt8) : ∀ n, foldN (ps ++ [p]) n = 256 * foldN ps n + l3N p := by
  induction ps with
  | nil => intro n; rfl
  | cons q ps ih => intro n; exact ih _
theorem foldN_addr (a : Nat) (h : a < 4294967296) : foldN (addrP a) 0 = (a : Int) := by
  unfold addrP
  simp only [foldN]
  rw [l3N_dec _ (by omega), l3N_dec _ (by omega), l3N_dec _ (by omega), l3N_dec _ (by omega)]
  omega
theorem l3N_part (a k : Nat) (h : a < 4294967296) (hk : k < (addrP a).length) : 0 ≤ l3N (addrP a)[k] ∧ l3N (addrP a)[k] ≤ 255 := by
  have hk4 : k < 4 := by simpa [addrP] using hk
  obtain rfl | rfl | rfl | rfl : k = 0 ∨ k = 1 ∨ k = 2 ∨ k = 3 := by omega
  · show 0 ≤ l3N (Lib.decDigits _) ∧ l3N (Lib.decDigits _) ≤ 255; rw [l3N_dec _ (by omega)]; omega
  · show 0 ≤ l3N (Lib.decDigits _) ∧ l3N (Lib.decDigits _) ≤ 255; rw [l3N_dec _ (by omega)]; omega
  · show 0 ≤ l3N (Lib.decDigits _) ∧ l3N (Lib.decDigits _) ≤ 255; rw [l3N_dec _ (by omega)]; omega
  · show 0 ≤ l3N (Lib.decDigits _) ∧ l3N (Lib.decDigits _) ≤ 255; rw [l3N_dec _ (by omega)]; omega
theorem spF_short (c : UInt8) : ∀ (s cur : List UInt8), ∀ p ∈ spF c cur s, p.length ≤ cur.length + s.length := by
  intro s
  induction s with
  | nil => intro cur p hp; simp [spF] at hp; rw [hp]; simp
  | cons b s ih =>
    intro cur p hp
    simp only [spF] at hp
    split at hp
    · rcases List.mem_cons.1 hp with rfl | hp
      · simp
      · have := ih [] p hp; simp at this; simp; omega
    · have := ih (cur ++ [b]) p hp; simp at this; simp; omega
theorem take_snoc {ps : List (List UInt8)} {k : Nat} (hk : k < ps.length) : ps.take (k + 1) = ps.take k ++ [ps[k]] := List.take_succ_eq_append_getElem hk
/-- What the model's reading comes to: where a part is no byte, nothing is read. -/
theorem part_none (l : List UInt8) (k : Nat) (hk : k < (spF 46 [] l).length) (h : ¬ (0 ≤ l3N (spF 46 [] l)[k] ∧ l3N (spF 46 [] l)[k] ≤ 255)) : addrR l = none := by
  apply addrR_none_of
  intro a ha e
  subst e
  have hp := addrL_pieces a
  apply h
  have hk2 : k < (addrP a).length := by rw [← hp]; exact hk
  have := l3N_part a k ha hk2
  simpa [hp] using this
theorem fold_none (s : ByteArray) (n : Int) (hn : n = foldN ((spF 46 [] s.data.toList).take 4) 0) (h : addrT n ≠ s) : addrR s.data.toList = none := by
  apply addrR_none_of
  intro a ha e
  apply h
  have hp := addrL_pieces a
  rw [hn, e, hp, show (addrP a).take 4 = addrP a from rfl, foldN_addr a ha, addrT_in a (by omega)]
  apply ByteArray.ext
  apply Array.toList_inj.1
  rw [e]
theorem fold_some (s : ByteArray) (n : Int) (h0 : 0 ≤ n) (h1 : n ≤ 4294967295) (h : addrT n = s) : addrR s.data.toList = some n.toNat := by
  obtain ⟨N, rfl⟩ := Int.eq_ofNat_of_zero_le h0
  rw [Int.toNat_natCast]
  refine (addrR_iff _ _).2 ⟨by omega, ?_⟩
  rw [← h, addrT_in N (by omega)]
theorem text_same {a b : ByteArray} (h : a = b) : (a.toList == b.toList) = true := by rw [h]; simp
theorem foldN_range {ps : List (List UInt8)} {k : Nat} (hk : k < ps.length) (_hk4 : k ≤ 3) (h : 0 ≤ foldN (ps.take k) 0 ∧ foldN (ps.take k) 0 < 256 ^ k) (hx : 0 ≤ l3N ps[k] ∧ l3N ps[k] ≤ 255) :
    foldN (ps.take (k + 1)) 0 = 256 * foldN (ps.take k) 0 + l3N ps[k] ∧ 0 ≤ foldN (ps.take (k + 1)) 0 ∧ foldN (ps.take (k + 1)) 0 < 256 ^ (k + 1) := by
  rw [take_snoc hk, foldN_snoc]
  refine ⟨rfl, by omega, ?_⟩
  rw [Int.pow_succ]; omega
theorem pow256I (k : Nat) (h : k ≤ 4) : (256 : Int) ^ k ≤ 4294967296 := by
  obtain rfl | rfl | rfl | rfl | rfl : k = 0 ∨ k = 1 ∨ k = 2 ∨ k = 3 ∨ k = 4 := by omega
  all_goals decide
set_option maxRecDepth 100000 in
theorem specAddrRead_any (s : ByteArray) (w : World) (hs : s.size ≤ 1048576) :
    Calls Tryd.prog 16 #[.string s] w fun e w' => e = .returned (numO (readA s).1 0 (readA s).2) ∧ Below w.heap.size w w' := by
  by_cases hz : 8000 < s.size
  · rw [readA_big hz]
    unfold numO
    go_enter Tryd.func16, Tryd.ntmps16
    go_wp2
    refine bodyPost_ret (v := .agg #[.int .i64 0, .int .i64 0, .int .i64 2]) (by simp [results, Tryd.results16, go_sem]) rfl ⟨rfl, (Below.refl _ _).alloc (Nat.le_refl _) _⟩
  · have HNO : Hid (addrR s.data.toList = none → numO (readA s).1 0 (readA s).2 = .agg #[.int .i64 0, .int .i64 0, .int .i64 3]) := fun h => by show _ = _; rw [readA_none hz h]; rfl
    have HYES : Hid (∀ n : Int, 0 ≤ n → addrR s.data.toList = some n.toNat → numO (readA s).1 0 (readA s).2 = .agg #[.int .i64 n, .int .i64 0, .int .i64 0]) := fun n h0 h => by show _ = _; rw [readA_some hz h]; unfold numO; simp only; rw [Int.toNat_of_nonneg h0]
    have HPN : Hid (∀ k (hk : k < (spF 46 [] s.data.toList).length), ¬ (0 ≤ l3N (spF 46 [] s.data.toList)[k] ∧ l3N (spF 46 [] s.data.toList)[k] ≤ 255) → addrR s.data.toList = none) := part_none s.data.toList
    have HFN : Hid (addrT (foldN ((spF 46 [] s.data.toList).take 4) 0) ≠ s → addrR s.data.toList = none) := fun h => fold_none s _ rfl h
    have HFS : Hid (∀ n : Int, 0 ≤ n → n ≤ 4294967295 → addrT n = s → addrR s.data.toList = some n.toNat) := fun n => fold_some s n
    have HSP : Hid (∀ w, Calls Tryd.prog 38 #[.string s, .int .u8 46] w fun e w' => ∃ v, e = .returned v ∧ Own w' w.heap.size 9 v (texts (spF 46 [] s.data.toList)) ∧ Below w.heap.size w w') := fun w => l01Split_any s 46 w hs
    have HLP : Hid (1 ≤ (spF 46 [] s.data.toList).length) := spF_length_pos 46 s.data.toList []
    have HSH : Hid (∀ p ∈ spF 46 [] s.data.toList, p.length ≤ s.size) := fun p hp => by
      have := spF_short 46 s.data.toList [] p hp
      simpa using this
    have hz2 : s.size ≤ 8000 := by omega
    clear hz
    generalize numO (readA s).1 0 (readA s).2 = V at *
    generalize addrR s.data.toList = R at *
    generalize spF 46 [] s.data.toList = ps at *
    go_enter Tryd.func16, Tryd.ntmps16
    go_wp2_with fail
    refine (HSP.out _).mono ?_
    rintro e w1 ⟨v, rfl, hown, hb1⟩
    obtain ⟨g, cap, rfl, hg, hgl, hlc, hcells⟩ := hown.form (by intro e; have := HLP.out; rw [← texts_length, e] at this; simp at this)
    rw [texts_length] at hlc ⊢
    obtain ⟨hc1, hf1⟩ := bcell hb1
    have hs1 : w.heap.size < w1.heap.size := by have := hb1.size; simp at this; omega
    have hB : Below w.heap.size w w1 := ((Below.refl _ _).alloc (Nat.le_refl _) _).trans (hb1.mono (by simp))
    have HCE : Hid (∀ j u, (texts ps)[j]? = some u → w1.cell? ⟨g, j, none⟩ = some u) := hcells
    clear hown hcells hb1
    go_wp2_with fail
    go_loop [4, 5] (fun n i => ∃ k : Nat, k ≤ ps.length ∧ k ≤ 4 ∧ i = .int .i64 (k : Int) ∧ n = .int .i64 (foldN (ps.take k) 0) ∧ Hid (0 ≤ foldN (ps.take k) 0 ∧ foldN (ps.take k) 0 < 256 ^ k)) (fun _ i => 4 - (intOf i).toNat)
    case atStart => exact ⟨0, by omega, by omega, rfl, rfl, ⟨by show (0 : Int) ≤ 0; omega, by show (0 : Int) < 1; omega⟩⟩
    case round =>
      obtain ⟨k, hk, hk4, rfl, rfl, HF⟩ := hrel
      by_cases hlt : k < ps.length ∧ k < 4
      · obtain ⟨hl1, hl2⟩ := hlt
        have d1 : decide ((k : Int) < (ps.length : Int)) = true := by simp; omega
        have d2 : decide ((k : Int) < 4) = true := by simp; omega
        have hcell := HCE.out k (.string ⟨ps[k].toArray⟩) (by simp [texts, hl1])
        have hsz := HSH.out ps[k] (List.getElem_mem hl1)
        have HNU : Hid (∀ w, Calls Tryd.prog 39 #[.string ⟨ps[k].toArray⟩] w fun e w' => e = .returned (.int .i64 (l3N ps[k])) ∧ w = w') := fun w => by
          have := l03Num_any ⟨ps[k].toArray⟩ w (by simp [ByteArray.size]; omega)
          simpa using this
        have hrx := l3N_range ps[k]
        have HP1 : Hid _ := HPN.out k hl1
        have HR1 : Hid (0 ≤ l3N ps[k] ∧ l3N ps[k] ≤ 255 → foldN (ps.take (k + 1)) 0 = 256 * foldN (ps.take k) 0 + l3N ps[k] ∧ 0 ≤ foldN (ps.take (k + 1)) 0 ∧ foldN (ps.take (k + 1)) 0 < 256 ^ (k + 1)) := fun hx => foldN_range hl1 (by omega) HF.out hx
        have hfr : 0 ≤ foldN (ps.take k) 0 ∧ foldN (ps.take k) 0 ≤ 4294967296 := ⟨HF.out.1, by have := HF.out.2; have := pow256I k hk4; omega⟩
        generalize (⟨ps[k].toArray⟩ : ByteArray) = P at *
        generalize l3N ps[k] = x at *
        generalize foldN (ps.take k) 0 = N at *
        by_cases hx : 0 ≤ x ∧ x ≤ 255
        · have hdx : decide (0 ≤ x ∧ x ≤ 255) = true := by simpa using hx
          have HRR : Hid _ := HR1.out hx
          obtain ⟨hx0, hx1⟩ := hx
          go_wp2_with fail
          refine (HNU.out _).mono ?_
          rintro e w2 ⟨rfl, rfl⟩
          go_wp2_with fail
          refine (l03Is_any x 0 255 _).mono ?_
          rintro e w2 ⟨rfl, rfl⟩
          rw [hdx]
          clear hcell
          go_wp2
          refine ⟨⟨k + 1, by omega, by omega, by go_num, ?_, HRR.out.2⟩, ?_⟩
          · rw [HRR.out.1]
          · simp [intOf]; omega
        · have hdx : decide (0 ≤ x ∧ x ≤ 255) = false := by simpa using hx
          have HV : Hid (V = .agg #[.int .i64 0, .int .i64 0, .int .i64 3]) := HNO.out (HP1.out hx)
          clear hx
          go_wp2_with fail
          refine (HNU.out _).mono ?_
          rintro e w2 ⟨rfl, rfl⟩
          go_wp2_with fail
          refine (l03Is_any x 0 255 _).mono ?_
          rintro e w2 ⟨rfl, rfl⟩
          rw [hdx]
          clear hcell
          go_wp2
          refine bodyPost_ret (v := V) (by rw [HV.out]; simp [results, Tryd.results16, go_sem, hc1]) rfl ⟨rfl, ?_⟩
          exact ((hB.setCell (Nat.le_refl _) _).setCell (Nat.le_refl _) _).setCell (Nat.le_refl _) _
      · have ht4 : ps.take 4 = ps.take k := by
          by_cases h4 : k = 4
          · rw [h4]
          · rw [List.take_of_length_le (by omega), List.take_of_length_le (by omega)]
        have HFN2 : Hid (addrT (foldN (ps.take k) 0) ≠ s → R = none) := by rw [← ht4]; exact HFN.out
        have hfr : 0 ≤ foldN (ps.take k) 0 ∧ foldN (ps.take k) 0 ≤ 4294967295 := ⟨HF.out.1, by have := HF.out.2; have := pow256I k hk4; omega⟩
        have hdd : (¬ k < ps.length) ∨ (k < ps.length ∧ k = 4) := by omega
        have HAT : Hid (∀ w, Calls Tryd.prog 14 #[.int .i64 (foldN (ps.take k) 0)] w fun e w' => e = .returned (.string (addrT (foldN (ps.take k) 0))) ∧ Below w.heap.size w w') := specAddrText_any _
        have HFS2 : Hid (addrT (foldN (ps.take k) 0) = s → V = .agg #[.int .i64 (foldN (ps.take k) 0), .int .i64 0, .int .i64 0]) := fun h => HYES.out _ hfr.1 (HFS.out _ hfr.1 hfr.2 h)
        have HTS : Hid (7 ≤ (addrT (foldN (ps.take k) 0)).size) := by
          obtain ⟨N, hN⟩ := Int.eq_ofNat_of_zero_le hfr.1
          rw [hN] at hfr ⊢
          show 7 ≤ _
          rw [addrT_in N (by omega), text_size]
          exact (addrL_length N (by omega)).1
        generalize addrT (foldN (ps.take k) 0) = T at *
        generalize foldN (ps.take k) 0 = N at *
        clear ht4 hlt hk4
        rcases hdd with dd | ⟨dd, rfl⟩
        case' inl => have d1 : decide ((k : Int) < (ps.length : Int)) = false := by simp; omega
        case' inr => have d1 : decide (((4 : Nat) : Int) < (ps.length : Int)) = true := by simp; omega
        case' inr => rw [show ((4 : Nat) : Int) = 4 from rfl] at *
        all_goals
          by_cases hem : s.toList.isEmpty = true
          · have HV : Hid (V = .agg #[.int .i64 0, .int .i64 0, .int .i64 3]) := HNO.out (HFN2.out (fun e => by
              have h7 := HTS.out
              rw [e, show s.size = s.toList.length by rw [ByteArray.toList_eq]; simp, List.isEmpty_iff.1 hem] at h7
              simp at h7))
            go_wp2
            refine bodyPost_ret (v := V) (by rw [HV.out]; simp [results, Tryd.results16, go_sem, hc1]) rfl ⟨rfl, ?_⟩
            exact ((hB.setCell (Nat.le_refl _) _).setCell (Nat.le_refl _) _).setCell (Nat.le_refl _) _
          · have hem2 : s.toList.isEmpty = false := by simpa using hem
            by_cases hT : T = s
            · have hsame := text_same hT
              have HV : Hid _ := HFS2.out hT
              clear hT hem
              go_wp2_with fail
              refine (HAT.out _).mono ?_
              rintro e w2 ⟨rfl, hb2⟩
              obtain ⟨hc2, hf2⟩ := bcell hb2
              have hs2 : w.heap.size < w2.heap.size := by have := hb2.size; omega
              have hB2 := hB.trans (hb2.mono hB.size)
              clear hb2
              go_wp2
              refine bodyPost_ret (v := V) (by rw [HV.out]; simp [results, Tryd.results16, go_sem, hc1, hc2, hs1]) rfl ⟨rfl, ?_⟩
              exact ((hB2.setCell (Nat.le_refl _) _).setCell (Nat.le_refl _) _).setCell (Nat.le_refl _) _
            · have hsame := text_ne hT
              have HV : Hid _ := HNO.out (HFN2.out hT)
              clear hT hem
              go_wp2_with fail
              refine (HAT.out _).mono ?_
              rintro e w2 ⟨rfl, hb2⟩
              obtain ⟨hc2, hf2⟩ := bcell hb2
              have hs2 : w.heap.size < w2.heap.size := by have := hb2.size; omega
              have hB2 := hB.trans (hb2.mono hB.size)
              clear hb2
              go_wp2
              refine bodyPost_ret (v := V) (by rw [HV.out]; simp [results, Tryd.results16, go_sem, hc1, hc2, hs1]) rfl ⟨rfl, ?_⟩
              exact ((hB2.setCell (Nat.le_refl _) _).setCell (Nat.le_refl _) _).setCell (Nat.le_refl _) _
end Go.Proofs.YtchgnjpbjnkdmaaDoor
