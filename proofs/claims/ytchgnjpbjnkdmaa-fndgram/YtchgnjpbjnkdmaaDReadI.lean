/- DgramRead of the program. -/
import Derived.Test.YtchgnjpbjnkdmaaDReadM
import Derived.Test.YtchgnjpbjnkdmaaDgI
import Derived.Test.YtchgnjpbjnkdmaaTextB
namespace Go.Proofs.Ytchgnjpbjnkdmaa
open Go.RowKit

theorem BytesIn.cut {w : World} {g : Nat} {l : List UInt8} (h : BytesIn w g 0 l) (a b : Nat) (hb : b ≤ l.length) (hab : a < b) : BytesIn w g a (cutL l a b) := by
  have := h.piece a b hb (by omega)
  rwa [if_neg (by omega), Nat.zero_add] at this
theorem piece_at (g n cap a b : Nat) (x y : Int) (hx : x = a) (hy : y = b) (hab : a < b) (hb : b ≤ cap) (k : Nat) (hk : k = b - a) (w : World) :
    Calls Try.prog 70 #[.slice (some ⟨g, 0, none⟩) n cap, .int .i64 x, .int .i64 y] w fun e w' => e = .returned (.slice (some ⟨g, a, none⟩) k k) ∧ w = w' := by
  have := piece_any g 0 n cap a b w (by omega) hb
  rw [if_neg (by omega), Nat.zero_add, ← hk, ← hx, ← hy] at this
  exact this
theorem number_at (t : ByteArray) (g a b cap : Nat) (k : Nat) (hk : k = b - a) (hb : b ≤ t.size) (h4 : b - a ≤ 4) (w : World) (hB : BytesIn w g a (cutL t.data.toList a b)) :
    Calls Try.prog 69 #[.slice (some ⟨g, a, none⟩) k cap] w fun e w' => e = .returned (.int .i64 (numAt t a b : Int)) ∧ w = w' := by
  have hl := cutL_length t.data.toList a b (by simpa using hb)
  have := numberOf_any (cutL t.data.toList a b) g a cap w (by omega) hB
  rw [hl, ← hk] at this
  exact this
set_option maxRecDepth 100000 in
set_option maxHeartbeats 1000000 in
theorem implDgramOf_any (t : ByteArray) (g cap : Nat) (w : World) (h : 28 ≤ t.size) (h8 : t.size ≤ 8000) (hc : t.size ≤ cap) (hB : BytesIn w g 0 t.data.toList) (hg : g < w.heap.size) :
    Calls Try.prog 67 #[.slice (some ⟨g, 0, none⟩) t.size cap] w fun e w' => e = .returned (dgV (numAt t 12 16) (numAt t 16 20) (numAt t 20 22) (numAt t 22 24) (numAt t 8 9) (dtD t)) ∧ Below w.heap.size w w' := by
  have hts : t.data.toList.length = t.size := by simp
  have HB : Hid (∀ a b, b ≤ t.size → a < b → BytesIn (w.alloc (.cells #[.int .i64 0, .int .i64 0, .int .i64 0, .int .i64 0, .int .i64 0, .string ⟨#[]⟩] 40)) g a (cutL t.data.toList a b)) := fun a b hb hab =>
    (hB.below (new_below0 w _) hg).cut a b (by omega) hab
  have HP1 : Hid (∀ w, Calls Try.prog 70 #[.slice (some ⟨g, 0, none⟩) t.size cap, .int .i64 12, .int .i64 16] w fun e w' => e = .returned (.slice (some ⟨g, 12, none⟩) 4 4) ∧ w = w') := piece_at g t.size cap 12 16 12 16 rfl rfl (by omega) (by omega) 4 rfl
  have HP2 : Hid (∀ w, Calls Try.prog 70 #[.slice (some ⟨g, 0, none⟩) t.size cap, .int .i64 16, .int .i64 20] w fun e w' => e = .returned (.slice (some ⟨g, 16, none⟩) 4 4) ∧ w = w') := piece_at g t.size cap 16 20 16 20 rfl rfl (by omega) (by omega) 4 rfl
  have HP3 : Hid (∀ w, Calls Try.prog 70 #[.slice (some ⟨g, 0, none⟩) t.size cap, .int .i64 20, .int .i64 22] w fun e w' => e = .returned (.slice (some ⟨g, 20, none⟩) 2 2) ∧ w = w') := piece_at g t.size cap 20 22 20 22 rfl rfl (by omega) (by omega) 2 rfl
  have HP4 : Hid (∀ w, Calls Try.prog 70 #[.slice (some ⟨g, 0, none⟩) t.size cap, .int .i64 22, .int .i64 24] w fun e w' => e = .returned (.slice (some ⟨g, 22, none⟩) 2 2) ∧ w = w') := piece_at g t.size cap 22 24 22 24 rfl rfl (by omega) (by omega) 2 rfl
  have HP5 : Hid (∀ w, Calls Try.prog 70 #[.slice (some ⟨g, 0, none⟩) t.size cap, .int .i64 8, .int .i64 9] w fun e w' => e = .returned (.slice (some ⟨g, 8, none⟩) 1 1) ∧ w = w') := piece_at g t.size cap 8 9 8 9 rfl rfl (by omega) (by omega) 1 rfl
  have HP6 : Hid (∀ w, Calls Try.prog 70 #[.slice (some ⟨g, 0, none⟩) t.size cap, .int .i64 28, .int .i64 (t.size : Int)] w fun e w' => e = .returned (.slice (some ⟨g, if t.size = 28 then 0 else 0 + 28, none⟩) (t.size - 28) (t.size - 28)) ∧ w = w') := fun w => piece_any g 0 t.size cap 28 t.size w (by omega) (by omega)
  have HN1 : Hid (∀ w, BytesIn w g 12 (cutL t.data.toList 12 16) → Calls Try.prog 69 #[.slice (some ⟨g, 12, none⟩) 4 4] w fun e w' => e = .returned (.int .i64 (numAt t 12 16 : Int)) ∧ w = w') := number_at t g 12 16 4 4 rfl (by omega) (by omega)
  have HN2 : Hid (∀ w, BytesIn w g 16 (cutL t.data.toList 16 20) → Calls Try.prog 69 #[.slice (some ⟨g, 16, none⟩) 4 4] w fun e w' => e = .returned (.int .i64 (numAt t 16 20 : Int)) ∧ w = w') := number_at t g 16 20 4 4 rfl (by omega) (by omega)
  have HN3 : Hid (∀ w, BytesIn w g 20 (cutL t.data.toList 20 22) → Calls Try.prog 69 #[.slice (some ⟨g, 20, none⟩) 2 2] w fun e w' => e = .returned (.int .i64 (numAt t 20 22 : Int)) ∧ w = w') := number_at t g 20 22 2 2 rfl (by omega) (by omega)
  have HN4 : Hid (∀ w, BytesIn w g 22 (cutL t.data.toList 22 24) → Calls Try.prog 69 #[.slice (some ⟨g, 22, none⟩) 2 2] w fun e w' => e = .returned (.int .i64 (numAt t 22 24 : Int)) ∧ w = w') := number_at t g 22 24 2 2 rfl (by omega) (by omega)
  have HN5 : Hid (∀ w, BytesIn w g 8 (cutL t.data.toList 8 9) → Calls Try.prog 69 #[.slice (some ⟨g, 8, none⟩) 1 1] w fun e w' => e = .returned (.int .i64 (numAt t 8 9 : Int)) ∧ w = w') := number_at t g 8 9 1 1 rfl (by omega) (by omega)
  have hc2 := bytes_text (w.alloc (.cells #[.int .i64 0, .int .i64 0, .int .i64 0, .int .i64 0, .int .i64 0, .string ⟨#[]⟩] 40)) g _ (t.size - 28) _ (t.size - 28) (by simp) ((hB.below (new_below0 w _) hg).piece 28 t.size (by omega) (by omega))
  have hdt : (⟨((t.data.toList.take t.size).drop 28).toArray⟩ : ByteArray) = dtD t := by
    apply ByteArray.ext; apply Array.toList_inj.1; unfold dtD; rw [cutL_extract]; rfl
  rw [hdt] at hc2
  clear hdt hB
  generalize (if t.size = 28 then 0 else 0 + 28) = o2 at *
  generalize t.size - 28 = n2 at *
  generalize numAt t 12 16 = V1 at *
  generalize numAt t 16 20 = V2 at *
  generalize numAt t 20 22 = V3 at *
  generalize numAt t 22 24 = V4 at *
  generalize numAt t 8 9 = V5 at *
  generalize dtD t = D at *
  unfold dgV
  go_enter Try.func67, Try.ntmps67
  go_wp2_with fail
  refine (HP1.out _).mono ?_
  rintro e w1 ⟨rfl, rfl⟩
  go_wp2_with fail
  refine (HN1.out _ (HB.out 12 16 (by omega) (by omega))).mono ?_
  rintro e w1 ⟨rfl, rfl⟩
  go_wp2_with fail
  refine (HP2.out _).mono ?_
  rintro e w1 ⟨rfl, rfl⟩
  go_wp2_with fail
  refine (HN2.out _ (HB.out 16 20 (by omega) (by omega))).mono ?_
  rintro e w1 ⟨rfl, rfl⟩
  go_wp2_with fail
  refine (HP3.out _).mono ?_
  rintro e w1 ⟨rfl, rfl⟩
  go_wp2_with fail
  refine (HN3.out _ (HB.out 20 22 (by omega) (by omega))).mono ?_
  rintro e w1 ⟨rfl, rfl⟩
  go_wp2_with fail
  refine (HP4.out _).mono ?_
  rintro e w1 ⟨rfl, rfl⟩
  go_wp2_with fail
  refine (HN4.out _ (HB.out 22 24 (by omega) (by omega))).mono ?_
  rintro e w1 ⟨rfl, rfl⟩
  go_wp2_with fail
  refine (HP5.out _).mono ?_
  rintro e w1 ⟨rfl, rfl⟩
  go_wp2_with fail
  refine (HN5.out _ (HB.out 8 9 (by omega) (by omega))).mono ?_
  rintro e w1 ⟨rfl, rfl⟩
  go_wp2_with fail
  refine (HP6.out _).mono ?_
  rintro e w1 ⟨rfl, rfl⟩
  go_wp2
  refine bodyPost_ret (v := .agg #[.int .i64 (V1 : Int), .int .i64 (V2 : Int), .int .i64 (V3 : Int), .int .i64 (V4 : Int), .int .i64 (V5 : Int), .string D]) (by simp [results, Try.results67, go_sem]) rfl ⟨rfl, ?_⟩
  exact new_below0 _ _
/-- Appending to what has no room: a new row. -/
theorem run_append_full (w : World) (ty : TypeId) (g : Nat) (l m : List UInt8) (hl : BytesIn w g 0 l) (o c : Nat) (hm : BytesIn w g o m) (hlen : l.length + m.length ≤ 1000000) (hpos : 0 < m.length) :
    ∃ v' w', (Builtin.append_ #[22, 22] ty #[.slice (some ⟨g, 0, none⟩) l.length l.length, .slice (some ⟨g, o, none⟩) m.length c]).run Try.prog w = .ok v' w' ∧ Own w' w.heap.size 5 v' (cellsB (l ++ m)) ∧ Below w.heap.size w w' := by
  obtain ⟨i0, hi0, hz0, hz1, hz2⟩ := info_parts Try.infoB
  have hadd : ∀ p j, (⟨g, p, none⟩ : Addr).add j = ⟨g, p + j, none⟩ := fun p j => by unfold Addr.add; split <;> simp_all
  have hcell : ∀ (x : List UInt8) (p : Nat), BytesIn w g p x → ∀ j u, (cellsB x)[j]? = some u → w.cell? ((⟨g, p, none⟩ : Addr).add j) = some u := fun x p hx j u hj => by
    obtain ⟨h1, e⟩ := List.getElem?_eq_some_iff.1 hj
    rw [hadd, hx j (by simpa [cellsB] using h1), ← e]
    simp [cellsB]
  have hr := run_append_grow (P := Try.prog) w 22 ty 5 i0 (.int .u8 0) Try.underlying22 hi0 hz0 ⟨g, 0, none⟩ l.length l.length (cellsB l) (by rw [hz1, cellsB_length]; omega) (hcell l 0 hl) ⟨g, o, none⟩ m.length c (cellsB m) (by rw [hz1, cellsB_length]; omega) (hcell m o hm) (by omega) (by omega) (growslice_fits (by omega) (by rw [hz2]; omega))
  have hge := grownCap_ge w (l.length + m.length) l.length 5
  have hcm := grownCap_le_maxLen w (l.length + m.length) l.length 5 (by unfold maxLen; omega)
  refine ⟨_, _, hr, ⟨by simp [cellsB_length], .inr ⟨w.heap.size, _, _, by rw [cellsB_length, List.length_append], Nat.le_refl _, heap_alloc_new w.drew _, by rw [cellsB_length, List.length_append]; exact hge, hcm, ?_, ?_⟩⟩, ((Below.refl _ w).drew).alloc (Nat.le_refl _) _⟩
  · simp only [Array.size_append, List.size_toArray, size_zeroCells, cellsB_length]
    simp [Value.cells]
    omega
  · simp only [Array.toList_append]
    rw [cellsB_append, Nat.mul_one, List.length_append]
    exact List.take_left' (by simp)
set_option maxRecDepth 100000 in
set_option maxHeartbeats 1000000 in
theorem implWithout_any (t : ByteArray) (g cap : Nat) (w : World) (h : 28 ≤ t.size) (h8 : t.size ≤ 8000) (hc : t.size ≤ cap) (hB : BytesIn w g 0 t.data.toList) (hg : g < w.heap.size) :
    Calls Try.prog 80 #[.slice (some ⟨g, 0, none⟩) t.size cap] w fun e w' => e = .returned (.string ⟨(bareL t.data.toList).toArray⟩) ∧ Below w.heap.size w w' := by
  have hts : t.data.toList.length = t.size := by simp
  have HP1 : Hid (∀ w, Calls Try.prog 70 #[.slice (some ⟨g, 0, none⟩) t.size cap, .int .i64 0, .int .i64 10] w fun e w' => e = .returned (.slice (some ⟨g, 0, none⟩) 10 10) ∧ w = w') := piece_at g t.size cap 0 10 0 10 rfl rfl (by omega) (by omega) 10 rfl
  have HP2 : Hid (∀ w, Calls Try.prog 70 #[.slice (some ⟨g, 0, none⟩) t.size cap, .int .i64 12, .int .i64 26] w fun e w' => e = .returned (.slice (some ⟨g, 12, none⟩) 14 14) ∧ w = w') := piece_at g t.size cap 12 26 12 26 rfl rfl (by omega) (by omega) 14 rfl
  have HP6 : Hid (∀ w, Calls Try.prog 70 #[.slice (some ⟨g, 0, none⟩) t.size cap, .int .i64 28, .int .i64 (t.size : Int)] w fun e w' => e = .returned (.slice (some ⟨g, if t.size = 28 then 0 else 0 + 28, none⟩) (t.size - 28) (t.size - 28)) ∧ w = w') := fun w => piece_any g 0 t.size cap 28 t.size w (by omega) (by omega)
  have l1 := cutL_length t.data.toList 0 10 (by omega)
  have l2 := cutL_length t.data.toList 12 26 (by omega)
  have l3 := cutL_length t.data.toList 28 t.size (by omega)
  obtain ⟨v1, w1, hr1, ho1, hb1⟩ := run_append_full w 22 g (cutL t.data.toList 0 10) (cutL t.data.toList 12 26) (hB.cut 0 10 (by omega) (by omega)) 12 14 (hB.cut 12 26 (by omega) (by omega)) (by omega) (by omega)
  rw [l1, l2] at hr1
  have hB3 : BytesIn w1 g (if t.size = 28 then 0 else 0 + 28) (cutL t.data.toList 28 t.size) := (hB.piece 28 t.size (by omega) (by omega)).below hb1 hg
  have hb1s := hb1.size
  obtain ⟨v2, w2, hr2, ho2, hb2⟩ := run_append_own' (P := Try.prog) w1 w.heap.size 22 22 5 Try.underlying22 Try.infoB v1 _ (cutL t.data.toList 28 t.size) ho1 g (if t.size = 28 then 0 else 0 + 28) (t.size - 28) (fun j u hj => by
    obtain ⟨h1, e⟩ := List.getElem?_eq_some_iff.1 hj
    rw [hB3 j (by simpa [cellsB] using h1), ← e]
    simp [cellsB]) (by rw [List.length_append]; omega) hb1s
  rw [l3] at hr2
  have hcv := own_conv (t := ⟨(bareL t.data.toList).toArray⟩) ho2 (by intro e; have := congrArg List.length e; rw [List.length_append, List.length_append, l1] at this; simp at this) (by
    have e3 : cutL t.data.toList 28 t.size = t.data.toList.drop 28 := by unfold cutL; rw [← hts, List.take_length]
    have e2 : cutL t.data.toList 12 26 = (t.data.toList.drop 12).take 14 := by unfold cutL; rw [List.drop_take]
    have e1 : cutL t.data.toList 0 10 = t.data.toList.take 10 := rfl
    unfold bareL; rw [e1, e2, e3, List.append_assoc])
  have hB2 : Below w.heap.size w w2 := hb1.trans hb2
  clear hB3 ho1 ho2 l1 l2 l3 hB hb1 hb2
  generalize (⟨(bareL t.data.toList).toArray⟩ : ByteArray) = R at *
  generalize (if t.size = 28 then 0 else 0 + 28) = o2 at *
  generalize t.size - 28 = n2 at *
  go_enter Try.func80, Try.ntmps80
  go_wp2_with fail
  refine (HP1.out _).mono ?_
  rintro e w3 ⟨rfl, rfl⟩
  go_wp2_with fail
  refine (HP2.out _).mono ?_
  rintro e w3 ⟨rfl, rfl⟩
  go_wp2_with (at_builtin; refine wpList_append_ran rfl _ _ 22 rfl _ _ rfl rfl hr1 ?_)
  go_wp2_with fail
  refine (HP6.out _).mono ?_
  rintro e w3 ⟨rfl, rfl⟩
  go_wp2_with (at_builtin; refine wpList_append_ran rfl _ _ 22 rfl _ _ rfl rfl hr2 ?_)
  go_wp2
  go_ret
  exact ⟨rfl, hB2⟩
end Go.Proofs.Ytchgnjpbjnkdmaa
