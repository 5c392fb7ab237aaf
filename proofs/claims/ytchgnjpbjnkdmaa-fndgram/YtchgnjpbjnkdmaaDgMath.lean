/- Datagrams and frames come back from their bytes; a head with its own sum in it sums to nothing. -/
import Derived.Test.YtchgnjpbjnkdmaaDReadM
import Derived.Test.YtchgnjpbjnkdmaaFReadM
import Derived.Test.YtchgnjpbjnkdmaaSum16
namespace Go.Proofs.Ytchgnjpbjnkdmaa
open Go.RowKit

theorem byteN (x : Int) (h0 : 0 ≤ x) (h1 : x < 256) : (UInt8.ofNat x.toNat).toNat = x.toNat := by
  rw [UInt8.toNat_ofNat']; omega
theorem num_word (n : Int) (h0 : 0 ≤ n) (h1 : n ≤ 65535) : (numL (wordL n) : Int) = n := by
  have e1 := byteN (n / 256 % 256) (by omega) (by omega)
  have e2 := byteN (n % 256) (by omega) (by omega)
  simp only [numL, wordL, List.foldl_cons, List.foldl_nil, e1, e2]
  omega
theorem num_four (n : Int) (h0 : 0 ≤ n) (h1 : n ≤ 4294967295) : (numL (wordL (n / 65536) ++ wordL n) : Int) = n := by
  have e1 := byteN (n / 65536 / 256 % 256) (by omega) (by omega)
  have e2 := byteN (n / 65536 % 256) (by omega) (by omega)
  have e3 := byteN (n / 256 % 256) (by omega) (by omega)
  have e4 := byteN (n % 256) (by omega) (by omega)
  simp only [numL, wordL, List.cons_append, List.nil_append, List.foldl_cons, List.foldl_nil, e1, e2, e3, e4]
  omega
theorem num_ttl (ttl : Int) (h0 : 0 ≤ ttl) (h1 : ttl ≤ 255) : (numL [UInt8.ofNat ((ttl * 256 + 17) / 256 % 256).toNat] : Int) = ttl := by
  have e1 := byteN ((ttl * 256 + 17) / 256 % 256) (by omega) (by omega)
  simp only [numL, List.foldl_cons, List.foldl_nil, e1]
  omega
theorem dg_cuts (s d sp dp ttl : Int) (t : List UInt8) : cutL (dgL s d sp dp ttl t) 12 16 = wordL (s / 65536) ++ wordL s ∧ cutL (dgL s d sp dp ttl t) 16 20 = wordL (d / 65536) ++ wordL d ∧ cutL (dgL s d sp dp ttl t) 20 22 = wordL sp ∧ cutL (dgL s d sp dp ttl t) 22 24 = wordL dp ∧ cutL (dgL s d sp dp ttl t) 8 9 = [UInt8.ofNat ((ttl * 256 + 17) / 256 % 256).toNat] ∧ (dgL s d sp dp ttl t).drop 28 = t ∧ (dgL s d sp dp ttl t).take 20 = headL s d ttl t.length (sumN (headL s d ttl t.length 0)) := by
  unfold dgL
  generalize ((sumN (headL s d ttl t.length 0) : Nat) : Int) = X
  generalize ((bsumN s d sp dp t : Nat) : Int) = Y
  refine ⟨rfl, rfl, rfl, rfl, rfl, rfl, rfl⟩
theorem dgRead_text (s d sp dp ttl : Int) (t : ByteArray) (h : dgB s d sp dp ttl t.size = true) : dgRead (dgT s d sp dp ttl t) = dOut s d sp dp ttl t 0 := by
  obtain ⟨hs, hd, hsp, hdp, htt, hn⟩ := dgB_spec h
  have hz := dgT_size s d sp dp ttl t
  obtain ⟨c1, c2, c3, c4, c5, c6, _⟩ := dg_cuts s d sp dp ttl t.data.toList
  have e1 : (numAt (dgT s d sp dp ttl t) 12 16 : Int) = s := by unfold numAt; rw [show (dgT s d sp dp ttl t).data.toList = dgL s d sp dp ttl t.data.toList from rfl, c1]; exact num_four s hs.1 hs.2
  have e2 : (numAt (dgT s d sp dp ttl t) 16 20 : Int) = d := by unfold numAt; rw [show (dgT s d sp dp ttl t).data.toList = dgL s d sp dp ttl t.data.toList from rfl, c2]; exact num_four d hd.1 hd.2
  have e3 : (numAt (dgT s d sp dp ttl t) 20 22 : Int) = sp := by unfold numAt; rw [show (dgT s d sp dp ttl t).data.toList = dgL s d sp dp ttl t.data.toList from rfl, c3]; exact num_word sp hsp.1 hsp.2
  have e4 : (numAt (dgT s d sp dp ttl t) 22 24 : Int) = dp := by unfold numAt; rw [show (dgT s d sp dp ttl t).data.toList = dgL s d sp dp ttl t.data.toList from rfl, c4]; exact num_word dp hdp.1 hdp.2
  have e5 : (numAt (dgT s d sp dp ttl t) 8 9 : Int) = ttl := by unfold numAt; rw [show (dgT s d sp dp ttl t).data.toList = dgL s d sp dp ttl t.data.toList from rfl, c5]; exact num_ttl ttl htt.1 htt.2
  have e6 : dtD (dgT s d sp dp ttl t) = t := by
    apply ByteArray.ext
    apply Array.toList_inj.1
    unfold dtD
    rw [cutL_extract]
    unfold cutL
    rw [List.take_of_length_le (by simp)]
    exact c6
  have hof : dgOf (dgT s d sp dp ttl t) = dgT s d sp dp ttl t := by unfold dgOf; rw [e1, e2, e3, e4, e5, e6]; exact dgO_in _ _ _ _ _ _ h
  rw [dgRead_good _ (by omega) (by omega) hof, e1, e2, e3, e4, e5, e6]
theorem dgRead_back (p : ByteArray) : ∃ s d sp dp ttl x c, dgRead p = dOut s d sp dp ttl x c ∧ (c = 0 → dgO s d sp dp ttl x = p) := by
  by_cases h1 : 8000 < p.size
  · exact ⟨_, _, _, _, _, _, _, dgRead_out p h1, by intro h; cases h⟩
  · by_cases h2 : p.size < 28
    · exact ⟨_, _, _, _, _, _, _, dgRead_short p h2, by intro h; cases h⟩
    · by_cases he : dgOf p = p
      · exact ⟨_, _, _, _, _, _, _, dgRead_good p (by omega) (by omega) he, fun _ => he⟩
      · refine ⟨_, _, _, _, _, _, _, dgRead_bad p (by omega) (by omega) he, fun h => ?_⟩
        unfold whyN at h
        split at h <;> cases h
theorem fr_cuts (v : Int) (t : List UInt8) : ((frL v t).take 16).drop 14 = wordL v ∧ (frL v t).drop 18 = t := ⟨rfl, rfl⟩
theorem frRead_text (v : Int) (t : ByteArray) (h : frB v t.size = true) : frRead (frT v t) = frOut v t 0 := by
  obtain ⟨h0, h1, hn⟩ := frB_spec h
  have hz : (frT v t).size = 18 + t.size := by
    show (frL v t.data.toList).toArray.size = _
    rw [List.size_toArray, frL_length]; simp
  obtain ⟨c1, c2⟩ := fr_cuts v t.data.toList
  have e1 : (vlN (frT v t) : Int) = v := by unfold vlN; rw [show (frT v t).data.toList = frL v t.data.toList from rfl, c1]; exact num_word v (by omega) (by omega)
  have e2 : dtF (frT v t) = t := by
    apply ByteArray.ext
    apply Array.toList_inj.1
    unfold dtF
    rw [extract_list, List.take_of_length_le (by simp)]
    exact c2
  have hof : frO (vlN (frT v t)) (dtF (frT v t)) = frT v t := by rw [e1, e2]; exact frO_in v t h
  rw [frRead_good _ (by omega) (by omega) hof, e1, e2]
theorem frRead_back (q : ByteArray) : ∃ v x c, frRead q = frOut v x c ∧ (c = 0 → frO v x = q) := by
  by_cases h1 : 8000 < q.size
  · exact ⟨_, _, _, frRead_out q h1, by intro h; cases h⟩
  · by_cases h2 : q.size < 18
    · exact ⟨_, _, _, frRead_short q h2, by intro h; cases h⟩
    · by_cases he : frO (vlN q) (dtF q) = q
      · exact ⟨_, _, _, frRead_good q (by omega) (by omega) he, fun _ => he⟩
      · exact ⟨_, _, _, frRead_bad q (by omega) (by omega) he, by intro h; cases h⟩
theorem ra_word (n : Int) (l : List UInt8) : ra true (wordL n ++ l) = (n % 65536).toNat + ra true l := by
  have e1 := byteN (n / 256 % 256) (by omega) (by omega)
  have e2 := byteN (n % 256) (by omega) (by omega)
  simp only [wordL, List.cons_append, List.nil_append, ra, e1, e2]
  omega
theorem ra_words (ns : List Int) : ra true (wordsL ns) = (ns.map fun n => (n % 65536).toNat).sum := by
  induction ns with
  | nil => rfl
  | cons n ns ih => rw [wordsL_cons, ra_word, ih]; rfl
theorem head_sum (s d ttl : Int) (n : Nat) : sumN (headL s d ttl n (sumN (headL s d ttl n 0))) = 0 := by
  have h0 : ra true (headL s d ttl n 0) = ra true (headL s d ttl n 0) := rfl
  have hle := sumN_le (headL s d ttl n 0)
  have hS : sumN (headL s d ttl n 0) = 65535 - foldN (ra true (headL s d ttl n 0)) := rfl
  have hpos : 17664 ≤ ra true (headL s d ttl n 0) := by
    unfold headL
    rw [ra_words]
    simp only [List.map_cons, List.sum_cons]
    omega
  have hadd : ra true (headL s d ttl n (sumN (headL s d ttl n 0))) = ra true (headL s d ttl n 0) + sumN (headL s d ttl n 0) := by
    generalize sumN (headL s d ttl n 0) = X at *
    unfold headL
    rw [ra_words, ra_words]
    simp only [List.map_cons, List.sum_cons, List.map_nil, List.sum_nil]
    omega
  show 65535 - foldN (ra true (headL s d ttl n (sumN (headL s d ttl n 0)))) = 0
  rw [hadd]
  generalize ra true (headL s d ttl n 0) = R at *
  generalize sumN (headL s d ttl n 0) = X at *
  unfold foldN at *
  rw [if_neg (by omega)] at hS
  rw [if_neg (by omega)]
  omega
theorem head_of (s d sp dp ttl : Int) (t : ByteArray) : sum16 ((dgT s d sp dp ttl t).extract 0 20) = 0 := by
  have hz := dgT_size s d sp dp ttl t
  have hl : ((dgT s d sp dp ttl t).extract 0 20).data.toList = headL s d ttl t.data.toList.length (sumN (headL s d ttl t.data.toList.length 0)) := by
    rw [cutL_extract]
    exact (dg_cuts s d sp dp ttl t.data.toList).2.2.2.2.2.2
  rw [sum16_in _ (by simp; omega), hl, head_sum]
  rfl
theorem dgO_size (s d sp dp ttl : Int) (t : ByteArray) : (dgO s d sp dp ttl t).size ≤ 328 := by
  unfold dgO
  split
  · rename_i h
    rw [dgT_size]
    have := (dgB_spec h).2.2.2.2.2
    omega
  · decide
theorem frO_size (v : Int) (t : ByteArray) : (frO v t).size ≤ 1018 := by
  unfold frO
  split
  · rename_i h
    have hz : (frT v t).size = 18 + t.size := by
      show (frL v t.data.toList).toArray.size = _
      rw [List.size_toArray, frL_length]; simp
    have := (frB_spec h).2.2
    omega
  · decide
end Go.Proofs.Ytchgnjpbjnkdmaa
