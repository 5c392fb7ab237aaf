/- Texts that stand on each other, in one file: WordS, FourS, PiecesB, SumS, HeadS, BodyS, Dg4, Frm4, SumI. -/
import Derived.Test.YtialedffpaoacaaGreatDoorPack1
import Derived.Test.YtialedffpaoacaaGreatDoorOwnV
import Derived.Test.YtialedffpaoacaaGreatDoorPack2
import Derived.Test.YtialedffpaoacaaGreatDoorBaseB
import Derived.Laws.ShiftsVarLaws
import Derived.Test.YtialedffpaoacaaGreatDoorPack6
import Derived.Test.YtialedffpaoacaaGreatDoorPack4
/- Words and their sums, of the model. -/
namespace Go.Proofs.YtialedffpaoacaaGreatDoor
open Go.RowKit

def wordT (n : Int) : ByteArray := ⟨(wordL n).toArray⟩
theorem wordT_size (n : Int) : (wordT n).size = 2 := rfl
theorem word_conv (n : Int) (w : World) :
    (convert 150 9 (.slice (some ⟨w.heap.size, 0, none⟩) 2 2)).run Tryz.prog (w.alloc (.cells #[.int .u8 (n / 256 % 256), .int .u8 (n % 256)] 5)) = .ok (.string (wordT n)) (w.alloc (.cells #[.int .u8 (n / 256 % 256), .int .u8 (n % 256)] 5)) :=
  conv_lit w [n / 256 % 256, n % 256] 2 rfl (by
    intro x hx
    simp only [List.mem_cons, List.not_mem_nil, or_false] at hx
    omega) (by omega)
set_option maxRecDepth 100000 in
theorem specWord_any (n : Int) (w : World) (h0 : 0 ≤ n) (h1 : n ≤ 9223372036854775807) :
    Calls Tryz.prog 84 #[.int .i64 n] w fun e w' => e = .returned (.string (wordT n)) ∧ Below w.heap.size w w' := by
  have hc := word_conv n w
  have hd : n.tdiv 256 = n / 256 := Int.tdiv_eq_ediv_of_nonneg h0
  have hm : n.tmod 256 = n % 256 := Int.tmod_eq_emod_of_nonneg h0
  have hu : IntKind.u8.wrap (n / 256) = n / 256 % 256 := by rw [IntKind.wrap_u8]
  have hu2 : IntKind.u8.wrap (n % 256) = n % 256 := by rw [IntKind.wrap_u8]; omega
  generalize wordT n = T at *
  go_enter Tryz.func84, Tryz.ntmps84
  go_wp2
  go_ret
  exact ⟨rfl, (Below.refl _ _).alloc (Nat.le_refl _) _⟩
end Go.Proofs.YtialedffpaoacaaGreatDoor
/- Four bytes of a number, of the model. -/
namespace Go.Proofs.YtialedffpaoacaaGreatDoor
open Go.RowKit

def fourQL (n : Int) : List UInt8 := wordL (n / 65536) ++ wordL n
def fourQ (n : Int) : ByteArray := ⟨(fourQL n).toArray⟩
theorem fourQ_size (n : Int) : (fourQ n).size = 4 := rfl
theorem fourQ_eq (n : Int) : wordT (n / 65536) ++ wordT (n % 65536) = fourQ n := by
  apply ByteArray.ext
  apply Array.toList_inj.1
  simp [wordT, fourQ, fourQL, wordL_low]
set_option maxRecDepth 100000 in
theorem spec4_any (n : Int) (w : World) (h0 : 0 ≤ n) (h1 : n ≤ 4294967295) :
    Calls Tryz.prog 85 #[.int .i64 n] w fun e w' => e = .returned (.string (fourQ n)) ∧ Below w.heap.size w w' := by
  have hd : n.tdiv 65536 = n / 65536 := Int.tdiv_eq_ediv_of_nonneg h0
  have hm : n.tmod 65536 = n % 65536 := Int.tmod_eq_emod_of_nonneg h0
  have hw1 := wrap_i64_in (n / 65536) (by omega) (by omega)
  have HE : Hid _ := fourQ_eq n
  have H1 : Hid (∀ w, Calls Tryz.prog 84 #[.int .i64 (n / 65536)] w fun e w' => e = .returned (.string (wordT (n / 65536))) ∧ Below w.heap.size w w') := fun w => specWord_any _ w (by omega) (by omega)
  have H2 : Hid (∀ w, Calls Tryz.prog 84 #[.int .i64 (n % 65536)] w fun e w' => e = .returned (.string (wordT (n % 65536))) ∧ Below w.heap.size w w') := fun w => specWord_any _ w (by omega) (by omega)
  have s1 := wordT_size (n / 65536)
  have s2 := wordT_size (n % 65536)
  generalize wordT (n / 65536) = A at *
  generalize wordT (n % 65536) = B at *
  go_enter Tryz.func85, Tryz.ntmps85
  go_wp2_with fail
  refine (H1.out _).mono ?_
  rintro e w1 ⟨rfl, hb1⟩
  go_wp2_with fail
  refine (H2.out _).mono ?_
  rintro e w2 ⟨rfl, hb2⟩
  go_wp2
  go_ret
  exact ⟨by rw [← HE.out]; rfl, hb1.trans (hb2.mono hb1.size)⟩
end Go.Proofs.YtialedffpaoacaaGreatDoor
/- Bytes cut, read as a number, and summed, of the program. -/
namespace Go.Proofs.YtialedffpaoacaaGreatDoor
open Go.RowKit

/-- The bytes l lie in block g from offset o on. -/
def BytesIn (w : World) (g o : Nat) (l : List UInt8) : Prop := ∀ j, (h : j < l.length) → w.cell? ⟨g, o + j, none⟩ = some (.int .u8 (l[j].toNat : Int))
theorem BytesIn.below {B : Nat} {w w' : World} {g o : Nat} {l : List UInt8} (h : BytesIn w g o l) (hb : Below B w w') (hg : g < B) : BytesIn w' g o l := by
  intro j hj
  rw [hb.cell (p := ⟨g, o + j, none⟩) hg]
  exact h j hj
theorem BytesIn.of_cells {w : World} {g : Nat} {l : List UInt8} (h : ∀ j u, (cellsB l)[j]? = some u → w.cell? ⟨g, j, none⟩ = some u) : BytesIn w g 0 l := by
  intro j hj
  rw [Nat.zero_add]
  exact h j _ (by simp [cellsB, hj])
theorem BytesIn.piece {w : World} {g o : Nat} {l : List UInt8} (h : BytesIn w g o l) (a b : Nat) (hb : b ≤ l.length) (_ : a ≤ b) : BytesIn w g (if b = a then o else o + a) ((l.take b).drop a) := by
  intro j hj
  rw [List.length_drop, List.length_take] at hj
  rw [if_neg (by omega), List.getElem_drop, List.getElem_take, Nat.add_assoc]
  exact h (a + j) (by omega)
theorem Tryz.elemB : Tryz.prog.elem 150 = 5 := by kernel_rfl
theorem or_low (a n : Nat) (ha : a < 1099511627776) (hn : n ≤ 255) : bits .or .i64 ((a : Int) * 256) (n : Int) = ((256 * a + n : Nat) : Int) := by
  have h := i64_or_nat (a * 256) n (by omega) (by omega)
  rw [show ((a : Int) * 256) = ((a * 256 : Nat) : Int) by omega, h]
  have := Nat.two_pow_add_eq_or_of_lt (i := 8) (b := n) (by omega) a
  rw [Nat.mul_comm a 256]
  exact congrArg _ this.symm
theorem and_word (x : Nat) (h : x < 9223372036854775808) : bits .and .i64 (x : Int) 65535 = ((x % 65536 : Nat) : Int) := by
  have := i64_and_nat x 65535 h (by omega)
  rw [show ((65535 : Nat) : Int) = 65535 from rfl] at this
  rw [this, show (65535 : Nat) = 2 ^ 16 - 1 from rfl, Nat.and_two_pow_sub_one_eq_mod]
end Go.Proofs.YtialedffpaoacaaGreatDoor
/- Numbers in bytes and sums of words, of the model. -/
namespace Go.Proofs.YtialedffpaoacaaGreatDoor
open Go.RowKit

set_option maxRecDepth 100000 in
theorem specSum_any (t : ByteArray) (w : World) (hl : t.size ≤ 1000000) :
    Calls Tryz.prog 87 #[.string t] w fun e w' => e = .returned (.int .i64 (sumN t.data.toList : Int)) ∧ w = w' := by
  have hts : t.data.toList.length = t.size := by simp
  have HR : Hid (ra true t.data.toList ≤ 65280 * t.size) := by have := ra_le true t.data.toList; rwa [hts] at this
  have HS : Hid (sumN t.data.toList = 65535 - foldN (ra true t.data.toList)) := rfl
  have H0 : Hid (ra true (t.data.toList.drop 0) = ra true t.data.toList) := rfl
  have HE : Hid (∀ k, t.size ≤ k → ra true (t.data.toList.drop k) = 0) := fun k hk => by show _ = _; rw [List.drop_eq_nil_of_le (by omega), ra_nil]
  have H2 : Hid (∀ k, (h : k + 1 < t.size) → ra true (t.data.toList.drop k) = 256 * t[k].toNat + t[k + 1].toNat + ra true (t.data.toList.drop (k + 2))) := fun k h => ra_at2 t.data.toList k (by omega)
  have H1 : Hid (∀ k, (h : k < t.size) → ¬ k + 1 < t.size → ra true (t.data.toList.drop k) = 256 * t[k].toNat) := fun k h h2 => ra_at1 t.data.toList k (by omega) (by omega)
  generalize sumN t.data.toList = S at *
  generalize ra true t.data.toList = R at *
  generalize hf : (fun k => ra true (t.data.toList.drop k)) = f
  have e : ∀ k, ra true (t.data.toList.drop k) = f k := fun k => by rw [← hf]
  simp only [e] at H0 HE H2 H1
  clear e hf
  go_enter Tryz.func87, Tryz.ntmps87
  go_wp2_with fail
  go_loop [3, 4] (fun v i => ∃ k n : Nat, k ≤ t.size + 1 ∧ i = .int .i64 (k : Int) ∧ v = .int .i64 (n : Int) ∧ Hid (n + f k = R)) (fun _ i => t.size + 1 - (intOf i).toNat)
  case atStart => exact ⟨0, 0, by omega, rfl, rfl, by show _ = _; rw [Nat.zero_add]; exact H0.out⟩
  case round =>
    obtain ⟨k, n, hk, rfl, rfl, hn⟩ := hrel
    have hnR : n ≤ R := by have := hn.out; omega
    have hRl := HR.out
    by_cases hlt : k < t.size
    · have hb := t[k].toNat_lt
      have hw1 := wrap_i64_in ((n : Int) + 256 * (t[k].toNat : Int)) (by omega) (by omega)
      by_cases hlt2 : k + 1 < t.size
      · have hb2 := t[k + 1].toNat_lt
        have hst : Hid (n + 256 * t[k].toNat + t[k + 1].toNat + f (k + 2) = R) := by
          have h1 := hn.out
          have h2 := H2.out k hlt2
          show _ = _
          omega
        have hw2 := wrap_i64_in ((n : Int) + 256 * (t[k].toNat : Int) + (t[k + 1].toNat : Int)) (by omega) (by omega)
        clear hn
        go_wp2
        go_round
        case rel => exact ⟨k + 2, n + 256 * t[k].toNat + t[k + 1].toNat, by omega, by go_num, by go_num, hst⟩
        case measure => simp [intOf]; omega
      · have hst : Hid (n + 256 * t[k].toNat + f (k + 2) = R) := by
          have h1 := hn.out
          have h2 := H1.out k hlt hlt2
          have h3 := HE.out (k + 2) (by omega)
          show _ = _
          omega
        clear hn
        go_wp2
        go_round
        case rel => exact ⟨k + 2, n + 256 * t[k].toNat, by omega, by go_num, by go_num, hst⟩
        case measure => simp [intOf]; omega
    · have hnR : n = R := by have := hn.out; rw [HE.out k (by omega)] at this; omega
      subst hnR
      clear hn H1 H2 H0 HE HR
      generalize hD : foldN n = D at *
      have HD : Hid (foldN n = D) := hD
      clear hD
      go_wp2_with fail
      go_loop [3] (fun v => ∃ m : Nat, m ≤ n ∧ v = .int .i64 (m : Int) ∧ Hid (foldN m = D)) (fun v => (intOf v).toNat)
      case atStart => exact ⟨n, Nat.le_refl _, rfl, HD⟩
      case round =>
        obtain ⟨m, hm, rfl, hD⟩ := hrel
        by_cases hbig : 65535 < m
        · have hst : Hid (foldN (m / 65536 + m % 65536) = D) := by show _ = _; rw [foldN_step m hbig]; exact hD.out
          have e1 : (m : Int).tdiv 65536 = (m : Int) / 65536 := Int.tdiv_eq_ediv_of_nonneg (by omega)
          have e2 : (m : Int).tmod 65536 = (m : Int) % 65536 := Int.tmod_eq_emod_of_nonneg (by omega)
          have hw1 := wrap_i64_in ((m : Int) / 65536 + (m : Int) % 65536) (by omega) (by omega)
          have hw2 := wrap_i64_in ((m : Int) / 65536) (by omega) (by omega)
          clear hD
          go_wp2
          go_round
          case rel => exact ⟨m / 65536 + m % 65536, by omega, by go_num, hst⟩
          case measure => simp [intOf]; omega
        · have hmD : m = D := by have := hD.out; rw [foldN_small m (by omega)] at this; exact this
          subst hmD
          have HF : Hid (((S : Nat) : Int) = 65535 - (m : Int)) := by have := HS.out; show _ = _; omega
          go_wp2
          go_ret
          exact ⟨ret_i64 HF.out.symm, rfl⟩
end Go.Proofs.YtialedffpaoacaaGreatDoor
/- A datagram's head, of the model. -/
namespace Go.Proofs.YtialedffpaoacaaGreatDoor
open Go.RowKit

def bytesT (l : List UInt8) : ByteArray := ⟨l.toArray⟩
theorem two_new (w : World) (a b : Int) (ha : 0 ≤ a ∧ a < 256) (hb : 0 ≤ b ∧ b < 256) : RowB (w.alloc (.cells #[.int .u8 a, .int .u8 b] 5)) w.heap.size 5 [UInt8.ofNat a.toNat, UInt8.ofNat b.toNat] := by
  unfold RowB
  rw [show cellsB [UInt8.ofNat a.toNat, UInt8.ofNat b.toNat] = [.int .u8 a, .int .u8 b] by simp only [cellsB, List.map_cons, List.map_nil, byte_of_int a ha.1 ha.2, byte_of_int b hb.1 hb.2]]
  exact heap_alloc_new w _
def headT (s d ttl : Int) (n : Nat) (sum : Int) : ByteArray := ⟨(headL s d ttl n sum).toArray⟩
theorem headT_size (s d ttl : Int) (n : Nat) (sum : Int) : (headT s d ttl n sum).size = 20 := by
  show (headL s d ttl n sum).toArray.size = 20
  rw [List.size_toArray, headL_length]
theorem headT_eq (s d ttl : Int) (n : Nat) (sum : Int) (h0 : 0 ≤ ttl) (h1 : ttl ≤ 255) :
    bytesT [69, 0] ++ wordT (28 + (n : Int)) ++ fourQ 0 ++ bytesT [UInt8.ofNat ttl.toNat, 17] ++ wordT sum ++ fourQ s ++ fourQ d = headT s d ttl n sum := by
  apply ByteArray.ext
  apply Array.toList_inj.1
  have e0 : wordL 17664 = [69, 0] := rfl
  have e1 : fourQL 0 = [0, 0, 0, 0] := rfl
  have e2 : wordL 0 = [0, 0] := rfl
  have e3 : wordL (ttl * 256 + 17) = [UInt8.ofNat ttl.toNat, 17] := by
    unfold wordL
    rw [show (ttl * 256 + 17) / 256 % 256 = ttl by omega, show (ttl * 256 + 17) % 256 = 17 by omega]
    rfl
  simp [bytesT, wordT, fourQ, headT, headL, wordsL, e0, e1, e2, e3]
  simp [fourQL]
set_option maxRecDepth 100000 in
set_option maxHeartbeats 1000000 in
theorem specHead_any (s d sp dp ttl : Int) (t : ByteArray) (sum : Int) (w : World) (hs0 : 0 ≤ s ∧ s ≤ 4294967295) (hd0 : 0 ≤ d ∧ d ≤ 4294967295) (ht0 : 0 ≤ ttl ∧ ttl ≤ 255) (hn : t.size ≤ 300) (hm0 : 0 ≤ sum ∧ sum ≤ 65535) :
    Calls Tryz.prog 89 #[dgV s d sp dp ttl t, .int .i64 sum] w fun e w' => e = .returned (.string (headT s d ttl t.size sum)) ∧ Below w.heap.size w w' := by
  rw [← headT_eq s d ttl t.size sum ht0.1 ht0.2]
  unfold dgV
  have HW1 : Hid (∀ w, Calls Tryz.prog 84 #[.int .i64 (28 + (t.size : Int))] w fun e w' => e = .returned (.string (wordT (28 + (t.size : Int)))) ∧ Below w.heap.size w w') := fun w => specWord_any _ w (by omega) (by omega)
  have HW2 : Hid (∀ w, Calls Tryz.prog 84 #[.int .i64 sum] w fun e w' => e = .returned (.string (wordT sum)) ∧ Below w.heap.size w w') := fun w => specWord_any _ w (by omega) (by omega)
  have HF0 : Hid (∀ w, Calls Tryz.prog 85 #[.int .i64 0] w fun e w' => e = .returned (.string (fourQ 0)) ∧ Below w.heap.size w w') := fun w => spec4_any _ w (by omega) (by omega)
  have HFS : Hid (∀ w, Calls Tryz.prog 85 #[.int .i64 s] w fun e w' => e = .returned (.string (fourQ s)) ∧ Below w.heap.size w w') := fun w => spec4_any _ w (by omega) (by omega)
  have HFD : Hid (∀ w, Calls Tryz.prog 85 #[.int .i64 d] w fun e w' => e = .returned (.string (fourQ d)) ∧ Below w.heap.size w w') := fun w => spec4_any _ w (by omega) (by omega)
  have HL0 : Hid (∀ w : World, RowB (w.alloc (.cells #[.int .u8 69, .int .u8 0] 5)) w.heap.size 5 [69, 0]) := fun w => two_new w 69 0 (by omega) (by omega)
  have HL1 : Hid (∀ w : World, RowB (w.alloc (.cells #[.int .u8 ttl, .int .u8 17] 5)) w.heap.size 5 [UInt8.ofNat ttl.toNat, 17]) := fun w => two_new w ttl 17 (by omega) (by omega)
  have HC0 : Hid (∀ (w : World) (g : Nat), RowB w g 5 [69, 0] → (convert 150 9 (.slice (some ⟨g, 0, none⟩) 2 2)).run Tryz.prog w = .ok (.string (bytesT [69, 0])) w) := fun w g h => h.conv (bytesT [69, 0]) rfl (n := 2) rfl (by omega)
  have HC1 : Hid (∀ (w : World) (g : Nat), RowB w g 5 [UInt8.ofNat ttl.toNat, 17] → (convert 150 9 (.slice (some ⟨g, 0, none⟩) 2 2)).run Tryz.prog w = .ok (.string (bytesT [UInt8.ofNat ttl.toNat, 17])) w) := fun w g h => h.conv (bytesT [UInt8.ofNat ttl.toNat, 17]) rfl (n := 2) rfl (by omega)
  have hu : IntKind.u8.wrap ttl = ttl := by rw [IntKind.wrap_u8]; omega
  have hw1 := wrap_i64_in (28 + (t.size : Int)) (by omega) (by omega)
  have z0 : (bytesT [69, 0]).size = 2 := rfl
  have z1 := wordT_size (28 + (t.size : Int))
  have z2 := fourQ_size 0
  have z3 : (bytesT [UInt8.ofNat ttl.toNat, 17]).size = 2 := rfl
  have z4 := wordT_size sum
  have z5 := fourQ_size s
  have z6 := fourQ_size d
  have HR : Hid (Row (w.alloc (.cells #[.int .i64 s, .int .i64 d, .int .i64 sp, .int .i64 dp, .int .i64 ttl, .string t] 105)) w.heap.size 105 [.int .i64 s, .int .i64 d, .int .i64 sp, .int .i64 dp, .int .i64 ttl, .string t]) := Row.new w _ _
  generalize bytesT [69, 0] = A0 at *
  generalize wordT (28 + (t.size : Int)) = W1 at *
  generalize fourQ 0 = F0 at *
  generalize bytesT [UInt8.ofNat ttl.toNat, 17] = B0 at *
  generalize wordT sum = W2 at *
  generalize fourQ s = FS at *
  generalize fourQ d = FD at *
  go_enter Tryz.func89, Tryz.ntmps89
  go_wp2_with fail
  have hGN : (([(5, fun x W => ∃ g, x = .slice (some ⟨g, 0, none⟩) 2 2 ∧ RowB W g 5 [69, 0]), (6, Is (.string A0)), (7, Is (.pointer (some ⟨w.heap.size, 5, none⟩))), (8, Is (.string t)), (9, Is (.int .i64 (t.size : Int))), (10, Is (.int .i64 (28 + (t.size : Int)))), (11, Is (.string W1)), (12, Is (.string (A0 ++ W1))), (13, Is (.string F0)), (14, Is (.string (A0 ++ W1 ++ F0))), (15, Is (.pointer (some ⟨w.heap.size, 4, none⟩))), (16, Is (.int .i64 ttl)), (17, Is (.int .u8 ttl)), (18, fun x W => ∃ g, x = .slice (some ⟨g, 0, none⟩) 2 2 ∧ RowB W g 5 [UInt8.ofNat ttl.toNat, 17]), (19, Is (.string B0)), (20, Is (.string (A0 ++ W1 ++ F0 ++ B0))), (21, Is (.int .i64 sum)), (22, Is (.string W2)), (23, Is (.string (A0 ++ W1 ++ F0 ++ B0 ++ W2))), (24, Is (.pointer (some ⟨w.heap.size, 0, none⟩))), (25, Is (.int .i64 s)), (26, Is (.string FS)), (27, Is (.string (A0 ++ W1 ++ F0 ++ B0 ++ W2 ++ FS))), (28, Is (.pointer (some ⟨w.heap.size, 1, none⟩))), (29, Is (.int .i64 d)), (30, Is (.string FD)), (31, Is (.string (A0 ++ W1 ++ F0 ++ B0 ++ W2 ++ FS ++ FD))), (4, Is (.string (A0 ++ W1 ++ F0 ++ B0 ++ W2 ++ FS ++ FD)))] : List (Nat × (Value → World → Prop))).map (·.1)).Nodup := by simp
  refine wp_region_steady 28 (SlotG [(5, fun x W => ∃ g, x = .slice (some ⟨g, 0, none⟩) 2 2 ∧ RowB W g 5 [69, 0]), (6, Is (.string A0)), (7, Is (.pointer (some ⟨w.heap.size, 5, none⟩))), (8, Is (.string t)), (9, Is (.int .i64 (t.size : Int))), (10, Is (.int .i64 (28 + (t.size : Int)))), (11, Is (.string W1)), (12, Is (.string (A0 ++ W1))), (13, Is (.string F0)), (14, Is (.string (A0 ++ W1 ++ F0))), (15, Is (.pointer (some ⟨w.heap.size, 4, none⟩))), (16, Is (.int .i64 ttl)), (17, Is (.int .u8 ttl)), (18, fun x W => ∃ g, x = .slice (some ⟨g, 0, none⟩) 2 2 ∧ RowB W g 5 [UInt8.ofNat ttl.toNat, 17]), (19, Is (.string B0)), (20, Is (.string (A0 ++ W1 ++ F0 ++ B0))), (21, Is (.int .i64 sum)), (22, Is (.string W2)), (23, Is (.string (A0 ++ W1 ++ F0 ++ B0 ++ W2))), (24, Is (.pointer (some ⟨w.heap.size, 0, none⟩))), (25, Is (.int .i64 s)), (26, Is (.string FS)), (27, Is (.string (A0 ++ W1 ++ F0 ++ B0 ++ W2 ++ FS))), (28, Is (.pointer (some ⟨w.heap.size, 1, none⟩))), (29, Is (.int .i64 d)), (30, Is (.string FD)), (31, Is (.string (A0 ++ W1 ++ F0 ++ B0 ++ W2 ++ FS ++ FD))), (4, Is (.string (A0 ++ W1 ++ F0 ++ B0 ++ W2 ++ FS ++ FD)))]) (by kernel_rfl) (by kernel_rfl) (Stabs.all ⟨stab_rowB 2 [69, 0], stab_is _, stab_is _, stab_is _, stab_is _, stab_is _, stab_is _, stab_is _, stab_is _, stab_is _, stab_is _, stab_is _, stab_is _, stab_rowB 2 [UInt8.ofNat ttl.toNat, 17], stab_is _, stab_is _, stab_is _, stab_is _, stab_is _, stab_is _, stab_is _, stab_is _, stab_is _, stab_is _, stab_is _, stab_is _, stab_is _, stab_is _, trivial⟩) ?_ ?_
  · intro o ho
    simp only [List.take_succ_cons, List.take_zero, List.mem_cons, List.not_mem_nil, or_false] at ho
    rcases ho with rfl | rfl | rfl | rfl | rfl | rfl | rfl | rfl | rfl | rfl | rfl | rfl | rfl | rfl | rfl | rfl | rfl | rfl | rfl | rfl | rfl | rfl | rfl | rfl | rfl | rfl | rfl | rfl
    · intro a' w' hb ha hdep
      have hmk := fun (x : Value) (W : World) => SlotG.mk (x := x) (w := W) 0 rfl hGN
      clear hGN ha hdep
      go_simp
      exact ⟨_, rfl, new_below0 _ _, hmk _ _ ⟨_, rfl, HL0.out w'⟩⟩
    · intro a' w' hb ha hdep
      have D5 := (hdep 5 (of_decide_eq_true (by kernel_rfl))).get 0 rfl
      have hmk := fun (x : Value) (W : World) => SlotG.mk (x := x) (w := W) 1 rfl hGN
      clear hGN ha hdep
      obtain ⟨g, d5, hr5⟩ := D5
      have hconv := HC0.out w' g hr5
      go_simp
      exact ⟨_, rfl, Below.refl _ _, hmk _ _ rfl⟩
    · intro a' w' hb ha hdep
      have d2 : a'.tmps.getD 2 undef = .pointer (some ⟨w.heap.size, 0, none⟩) := ha.at 2 (by kernel_rfl)
      have hmk := fun (x : Value) (W : World) => SlotG.mk (x := x) (w := W) 2 rfl hGN
      clear hGN ha hdep
      go_simp
      exact ⟨_, rfl, Below.refl _ _, hmk _ _ rfl⟩
    · intro a' w' hb ha hdep
      have d7 : a'.tmps.getD 7 undef = .pointer (some ⟨w.heap.size, 5, none⟩) := (hdep 7 (of_decide_eq_true (by kernel_rfl))).is 2 rfl
      have hmk := fun (x : Value) (W : World) => SlotG.mk (x := x) (w := W) 3 rfl hGN
      clear hGN ha hdep
      have c5 : w'.cell? ⟨w.heap.size, 5, none⟩ = some (.string t) := (HR.out.below hb HR.out.lt).cell 5
      go_simp
      exact ⟨_, rfl, Below.refl _ _, hmk _ _ rfl⟩
    · intro a' w' hb ha hdep
      have d8 : a'.tmps.getD 8 undef = .string t := (hdep 8 (of_decide_eq_true (by kernel_rfl))).is 3 rfl
      have hmk := fun (x : Value) (W : World) => SlotG.mk (x := x) (w := W) 4 rfl hGN
      clear hGN ha hdep
      go_simp
      exact ⟨_, rfl, Below.refl _ _, hmk _ _ rfl⟩
    · intro a' w' hb ha hdep
      have d9 : a'.tmps.getD 9 undef = .int .i64 (t.size : Int) := (hdep 9 (of_decide_eq_true (by kernel_rfl))).is 4 rfl
      have hmk := fun (x : Value) (W : World) => SlotG.mk (x := x) (w := W) 5 rfl hGN
      clear hGN ha hdep
      go_simp
      exact ⟨_, rfl, Below.refl _ _, hmk _ _ rfl⟩
    · intro a' w' hb ha hdep
      have d10 : a'.tmps.getD 10 undef = .int .i64 (28 + (t.size : Int)) := (hdep 10 (of_decide_eq_true (by kernel_rfl))).is 5 rfl
      have hmk := fun (x : Value) (W : World) => SlotG.mk (x := x) (w := W) 6 rfl hGN
      clear hGN ha hdep
      go_simp
      refine (HW1.out _).mono ?_
      rintro e w2 ⟨rfl, hb2⟩
      exact ⟨_, rfl, hb2, hmk _ _ rfl⟩
    · intro a' w' hb ha hdep
      have d6 : a'.tmps.getD 6 undef = .string A0 := (hdep 6 (of_decide_eq_true (by kernel_rfl))).is 1 rfl
      have d11 : a'.tmps.getD 11 undef = .string W1 := (hdep 11 (of_decide_eq_true (by kernel_rfl))).is 6 rfl
      have hmk := fun (x : Value) (W : World) => SlotG.mk (x := x) (w := W) 7 rfl hGN
      clear hGN ha hdep
      have hs : ¬ 9223372036854775807 < A0.size + W1.size := by omega
      go_simp
      exact ⟨_, rfl, Below.refl _ _, hmk _ _ rfl⟩
    · intro a' w' hb ha hdep
      have hmk := fun (x : Value) (W : World) => SlotG.mk (x := x) (w := W) 8 rfl hGN
      clear hGN ha hdep
      go_simp
      refine (HF0.out _).mono ?_
      rintro e w2 ⟨rfl, hb2⟩
      exact ⟨_, rfl, hb2, hmk _ _ rfl⟩
    · intro a' w' hb ha hdep
      have d12 : a'.tmps.getD 12 undef = .string (A0 ++ W1) := (hdep 12 (of_decide_eq_true (by kernel_rfl))).is 7 rfl
      have d13 : a'.tmps.getD 13 undef = .string F0 := (hdep 13 (of_decide_eq_true (by kernel_rfl))).is 8 rfl
      have hmk := fun (x : Value) (W : World) => SlotG.mk (x := x) (w := W) 9 rfl hGN
      clear hGN ha hdep
      have hs : ¬ 9223372036854775807 < A0.size + W1.size + F0.size := by omega
      go_simp
      exact ⟨_, rfl, Below.refl _ _, hmk _ _ rfl⟩
    · intro a' w' hb ha hdep
      have d2 : a'.tmps.getD 2 undef = .pointer (some ⟨w.heap.size, 0, none⟩) := ha.at 2 (by kernel_rfl)
      have hmk := fun (x : Value) (W : World) => SlotG.mk (x := x) (w := W) 10 rfl hGN
      clear hGN ha hdep
      go_simp
      exact ⟨_, rfl, Below.refl _ _, hmk _ _ rfl⟩
    · intro a' w' hb ha hdep
      have d15 : a'.tmps.getD 15 undef = .pointer (some ⟨w.heap.size, 4, none⟩) := (hdep 15 (of_decide_eq_true (by kernel_rfl))).is 10 rfl
      have hmk := fun (x : Value) (W : World) => SlotG.mk (x := x) (w := W) 11 rfl hGN
      clear hGN ha hdep
      have c4 : w'.cell? ⟨w.heap.size, 4, none⟩ = some (.int .i64 ttl) := (HR.out.below hb HR.out.lt).cell 4
      go_simp
      exact ⟨_, rfl, Below.refl _ _, hmk _ _ rfl⟩
    · intro a' w' hb ha hdep
      have d16 : a'.tmps.getD 16 undef = .int .i64 ttl := (hdep 16 (of_decide_eq_true (by kernel_rfl))).is 11 rfl
      have hmk := fun (x : Value) (W : World) => SlotG.mk (x := x) (w := W) 12 rfl hGN
      clear hGN ha hdep
      go_simp
      exact ⟨_, rfl, Below.refl _ _, hmk _ _ rfl⟩
    · intro a' w' hb ha hdep
      have d17 : a'.tmps.getD 17 undef = .int .u8 ttl := (hdep 17 (of_decide_eq_true (by kernel_rfl))).is 12 rfl
      have hmk := fun (x : Value) (W : World) => SlotG.mk (x := x) (w := W) 13 rfl hGN
      clear hGN ha hdep
      rw [Array.getD_eq_getD_getElem?] at d17
      go_simp
      exact ⟨_, rfl, new_below0 _ _, hmk _ _ ⟨_, rfl, HL1.out w'⟩⟩
    · intro a' w' hb ha hdep
      have D18 := (hdep 18 (of_decide_eq_true (by kernel_rfl))).get 13 rfl
      have hmk := fun (x : Value) (W : World) => SlotG.mk (x := x) (w := W) 14 rfl hGN
      clear hGN ha hdep
      obtain ⟨g, d18, hr18⟩ := D18
      have hconv := HC1.out w' g hr18
      go_simp
      exact ⟨_, rfl, Below.refl _ _, hmk _ _ rfl⟩
    · intro a' w' hb ha hdep
      have d14 : a'.tmps.getD 14 undef = .string (A0 ++ W1 ++ F0) := (hdep 14 (of_decide_eq_true (by kernel_rfl))).is 9 rfl
      have d19 : a'.tmps.getD 19 undef = .string B0 := (hdep 19 (of_decide_eq_true (by kernel_rfl))).is 14 rfl
      have hmk := fun (x : Value) (W : World) => SlotG.mk (x := x) (w := W) 15 rfl hGN
      clear hGN ha hdep
      have hs : ¬ 9223372036854775807 < A0.size + W1.size + F0.size + B0.size := by omega
      go_simp
      exact ⟨_, rfl, Below.refl _ _, hmk _ _ rfl⟩
    · intro a' w' hb ha hdep
      have d1 : a'.tmps.getD 1 undef = .int .i64 sum := ha.at 1 (by kernel_rfl)
      have hmk := fun (x : Value) (W : World) => SlotG.mk (x := x) (w := W) 16 rfl hGN
      clear hGN ha hdep
      go_simp
      exact ⟨_, rfl, Below.refl _ _, hmk _ _ rfl⟩
    · intro a' w' hb ha hdep
      have d21 : a'.tmps.getD 21 undef = .int .i64 sum := (hdep 21 (of_decide_eq_true (by kernel_rfl))).is 16 rfl
      have hmk := fun (x : Value) (W : World) => SlotG.mk (x := x) (w := W) 17 rfl hGN
      clear hGN ha hdep
      go_simp
      refine (HW2.out _).mono ?_
      rintro e w2 ⟨rfl, hb2⟩
      exact ⟨_, rfl, hb2, hmk _ _ rfl⟩
    · intro a' w' hb ha hdep
      have d20 : a'.tmps.getD 20 undef = .string (A0 ++ W1 ++ F0 ++ B0) := (hdep 20 (of_decide_eq_true (by kernel_rfl))).is 15 rfl
      have d22 : a'.tmps.getD 22 undef = .string W2 := (hdep 22 (of_decide_eq_true (by kernel_rfl))).is 17 rfl
      have hmk := fun (x : Value) (W : World) => SlotG.mk (x := x) (w := W) 18 rfl hGN
      clear hGN ha hdep
      have hs : ¬ 9223372036854775807 < A0.size + W1.size + F0.size + B0.size + W2.size := by omega
      go_simp
      exact ⟨_, rfl, Below.refl _ _, hmk _ _ rfl⟩
    · intro a' w' hb ha hdep
      have d2 : a'.tmps.getD 2 undef = .pointer (some ⟨w.heap.size, 0, none⟩) := ha.at 2 (by kernel_rfl)
      have hmk := fun (x : Value) (W : World) => SlotG.mk (x := x) (w := W) 19 rfl hGN
      clear hGN ha hdep
      go_simp
      exact ⟨_, rfl, Below.refl _ _, hmk _ _ rfl⟩
    · intro a' w' hb ha hdep
      have d24 : a'.tmps.getD 24 undef = .pointer (some ⟨w.heap.size, 0, none⟩) := (hdep 24 (of_decide_eq_true (by kernel_rfl))).is 19 rfl
      have hmk := fun (x : Value) (W : World) => SlotG.mk (x := x) (w := W) 20 rfl hGN
      clear hGN ha hdep
      have c0 : w'.cell? ⟨w.heap.size, 0, none⟩ = some (.int .i64 s) := (HR.out.below hb HR.out.lt).cell 0
      go_simp
      exact ⟨_, rfl, Below.refl _ _, hmk _ _ rfl⟩
    · intro a' w' hb ha hdep
      have d25 : a'.tmps.getD 25 undef = .int .i64 s := (hdep 25 (of_decide_eq_true (by kernel_rfl))).is 20 rfl
      have hmk := fun (x : Value) (W : World) => SlotG.mk (x := x) (w := W) 21 rfl hGN
      clear hGN ha hdep
      go_simp
      refine (HFS.out _).mono ?_
      rintro e w2 ⟨rfl, hb2⟩
      exact ⟨_, rfl, hb2, hmk _ _ rfl⟩
    · intro a' w' hb ha hdep
      have d23 : a'.tmps.getD 23 undef = .string (A0 ++ W1 ++ F0 ++ B0 ++ W2) := (hdep 23 (of_decide_eq_true (by kernel_rfl))).is 18 rfl
      have d26 : a'.tmps.getD 26 undef = .string FS := (hdep 26 (of_decide_eq_true (by kernel_rfl))).is 21 rfl
      have hmk := fun (x : Value) (W : World) => SlotG.mk (x := x) (w := W) 22 rfl hGN
      clear hGN ha hdep
      have hs : ¬ 9223372036854775807 < A0.size + W1.size + F0.size + B0.size + W2.size + FS.size := by omega
      go_simp
      exact ⟨_, rfl, Below.refl _ _, hmk _ _ rfl⟩
    · intro a' w' hb ha hdep
      have d2 : a'.tmps.getD 2 undef = .pointer (some ⟨w.heap.size, 0, none⟩) := ha.at 2 (by kernel_rfl)
      have hmk := fun (x : Value) (W : World) => SlotG.mk (x := x) (w := W) 23 rfl hGN
      clear hGN ha hdep
      go_simp
      exact ⟨_, rfl, Below.refl _ _, hmk _ _ rfl⟩
    · intro a' w' hb ha hdep
      have d28 : a'.tmps.getD 28 undef = .pointer (some ⟨w.heap.size, 1, none⟩) := (hdep 28 (of_decide_eq_true (by kernel_rfl))).is 23 rfl
      have hmk := fun (x : Value) (W : World) => SlotG.mk (x := x) (w := W) 24 rfl hGN
      clear hGN ha hdep
      have c1 : w'.cell? ⟨w.heap.size, 1, none⟩ = some (.int .i64 d) := (HR.out.below hb HR.out.lt).cell 1
      go_simp
      exact ⟨_, rfl, Below.refl _ _, hmk _ _ rfl⟩
    · intro a' w' hb ha hdep
      have d29 : a'.tmps.getD 29 undef = .int .i64 d := (hdep 29 (of_decide_eq_true (by kernel_rfl))).is 24 rfl
      have hmk := fun (x : Value) (W : World) => SlotG.mk (x := x) (w := W) 25 rfl hGN
      clear hGN ha hdep
      go_simp
      refine (HFD.out _).mono ?_
      rintro e w2 ⟨rfl, hb2⟩
      exact ⟨_, rfl, hb2, hmk _ _ rfl⟩
    · intro a' w' hb ha hdep
      have d27 : a'.tmps.getD 27 undef = .string (A0 ++ W1 ++ F0 ++ B0 ++ W2 ++ FS) := (hdep 27 (of_decide_eq_true (by kernel_rfl))).is 22 rfl
      have d30 : a'.tmps.getD 30 undef = .string FD := (hdep 30 (of_decide_eq_true (by kernel_rfl))).is 25 rfl
      have hmk := fun (x : Value) (W : World) => SlotG.mk (x := x) (w := W) 26 rfl hGN
      clear hGN ha hdep
      have hs : ¬ 9223372036854775807 < A0.size + W1.size + F0.size + B0.size + W2.size + FS.size + FD.size := by omega
      go_simp
      exact ⟨_, rfl, Below.refl _ _, hmk _ _ rfl⟩
    · intro a' w' hb ha hdep
      have d31 : a'.tmps.getD 31 undef = .string (A0 ++ W1 ++ F0 ++ B0 ++ W2 ++ FS ++ FD) := (hdep 31 (of_decide_eq_true (by kernel_rfl))).is 26 rfl
      have hmk := fun (x : Value) (W : World) => SlotG.mk (x := x) (w := W) 27 rfl hGN
      clear hGN ha hdep
      go_simp
      exact ⟨_, rfl, Below.refl _ _, hmk _ _ rfl⟩
  · intro a' w' hb ha hG
    clear hGN
    have d4 : a'.tmps.getD 4 undef = .string (A0 ++ W1 ++ F0 ++ B0 ++ W2 ++ FS ++ FD) := (hG _ (List.mem_of_getElem? (i := 27) rfl) 4 rfl).is 27 rfl
    simp only [List.drop_succ_cons, List.drop_zero]
    have hB := (new_below0 w (.cells #[.int .i64 s, .int .i64 d, .int .i64 sp, .int .i64 dp, .int .i64 ttl, .string t] 105)).trans (hb.mono (by simp))
    obtain ⟨T, D⟩ := a'
    obtain rfl : D = [] := ha.2.1
    clear hb hG ha
    go_wp2
    go_ret
    exact ⟨congrArg Ending.returned d4, hB⟩
end Go.Proofs.YtialedffpaoacaaGreatDoor
/- What stands behind a datagram's head, of the model. -/
namespace Go.Proofs.YtialedffpaoacaaGreatDoor
open Go.RowKit

def bodyTx (sp dp : Int) (t : ByteArray) (sum : Int) : ByteArray := ⟨(bodyL sp dp t.data.toList sum).toArray⟩
theorem bodyTx_size (sp dp : Int) (t : ByteArray) (sum : Int) : (bodyTx sp dp t sum).size = 8 + t.size := by
  show (bodyL sp dp t.data.toList sum).toArray.size = _
  rw [List.size_toArray, bodyL_length]
  simp
theorem bodyT_eq (sp dp : Int) (t : ByteArray) (sum : Int) : wordT sp ++ wordT dp ++ wordT (8 + (t.size : Int)) ++ wordT sum ++ t = bodyTx sp dp t sum := by
  apply ByteArray.ext
  apply Array.toList_inj.1
  have e : t.data.toList.length = t.size := by simp
  simp only [bodyTx, bodyL, e]
  simp [wordT, wordsL]
set_option maxRecDepth 100000 in
set_option maxHeartbeats 1000000 in
theorem specBody_any (s d sp dp ttl : Int) (t : ByteArray) (sum : Int) (w : World) (hs0 : 0 ≤ sp ∧ sp ≤ 65535) (hd0 : 0 ≤ dp ∧ dp ≤ 65535) (hn : t.size ≤ 300) (hm0 : 0 ≤ sum ∧ sum ≤ 65535) :
    Calls Tryz.prog 88 #[dgV s d sp dp ttl t, .int .i64 sum] w fun e w' => e = .returned (.string (bodyTx sp dp t sum)) ∧ Below w.heap.size w w' := by
  rw [← bodyT_eq sp dp t sum]
  unfold dgV
  have HW1 : Hid (∀ w, Calls Tryz.prog 84 #[.int .i64 sp] w fun e w' => e = .returned (.string (wordT sp)) ∧ Below w.heap.size w w') := fun w => specWord_any _ w (by omega) (by omega)
  have HW2 : Hid (∀ w, Calls Tryz.prog 84 #[.int .i64 dp] w fun e w' => e = .returned (.string (wordT dp)) ∧ Below w.heap.size w w') := fun w => specWord_any _ w (by omega) (by omega)
  have HW3 : Hid (∀ w, Calls Tryz.prog 84 #[.int .i64 (8 + (t.size : Int))] w fun e w' => e = .returned (.string (wordT (8 + (t.size : Int)))) ∧ Below w.heap.size w w') := fun w => specWord_any _ w (by omega) (by omega)
  have HW4 : Hid (∀ w, Calls Tryz.prog 84 #[.int .i64 sum] w fun e w' => e = .returned (.string (wordT sum)) ∧ Below w.heap.size w w') := fun w => specWord_any _ w (by omega) (by omega)
  have hw1 := wrap_i64_in (8 + (t.size : Int)) (by omega) (by omega)
  have z1 := wordT_size sp
  have z2 := wordT_size dp
  have z3 := wordT_size (8 + (t.size : Int))
  have z4 := wordT_size sum
  have HR : Hid (Row (w.alloc (.cells #[.int .i64 s, .int .i64 d, .int .i64 sp, .int .i64 dp, .int .i64 ttl, .string t] 105)) w.heap.size 105 [.int .i64 s, .int .i64 d, .int .i64 sp, .int .i64 dp, .int .i64 ttl, .string t]) := Row.new w _ _
  generalize wordT sp = W1 at *
  generalize wordT dp = W2 at *
  generalize wordT (8 + (t.size : Int)) = W3 at *
  generalize wordT sum = W4 at *
  go_enter Tryz.func88, Tryz.ntmps88
  go_wp2_with fail
  have hGN : (([(5, Is (.pointer (some ⟨w.heap.size, 2, none⟩))), (6, Is (.int .i64 sp)), (7, Is (.string W1)), (8, Is (.pointer (some ⟨w.heap.size, 3, none⟩))), (9, Is (.int .i64 dp)), (10, Is (.string W2)), (11, Is (.string (W1 ++ W2))), (12, Is (.pointer (some ⟨w.heap.size, 5, none⟩))), (13, Is (.string t)), (14, Is (.int .i64 (t.size : Int))), (15, Is (.int .i64 (8 + (t.size : Int)))), (16, Is (.string W3)), (17, Is (.string (W1 ++ W2 ++ W3))), (18, Is (.int .i64 sum)), (19, Is (.string W4)), (20, Is (.string (W1 ++ W2 ++ W3 ++ W4))), (21, Is (.pointer (some ⟨w.heap.size, 5, none⟩))), (22, Is (.string t)), (23, Is (.string (W1 ++ W2 ++ W3 ++ W4 ++ t))), (4, Is (.string (W1 ++ W2 ++ W3 ++ W4 ++ t)))] : List (Nat × (Value → World → Prop))).map (·.1)).Nodup := by simp
  refine wp_region_steady 20 (SlotG [(5, Is (.pointer (some ⟨w.heap.size, 2, none⟩))), (6, Is (.int .i64 sp)), (7, Is (.string W1)), (8, Is (.pointer (some ⟨w.heap.size, 3, none⟩))), (9, Is (.int .i64 dp)), (10, Is (.string W2)), (11, Is (.string (W1 ++ W2))), (12, Is (.pointer (some ⟨w.heap.size, 5, none⟩))), (13, Is (.string t)), (14, Is (.int .i64 (t.size : Int))), (15, Is (.int .i64 (8 + (t.size : Int)))), (16, Is (.string W3)), (17, Is (.string (W1 ++ W2 ++ W3))), (18, Is (.int .i64 sum)), (19, Is (.string W4)), (20, Is (.string (W1 ++ W2 ++ W3 ++ W4))), (21, Is (.pointer (some ⟨w.heap.size, 5, none⟩))), (22, Is (.string t)), (23, Is (.string (W1 ++ W2 ++ W3 ++ W4 ++ t))), (4, Is (.string (W1 ++ W2 ++ W3 ++ W4 ++ t)))]) (by kernel_rfl) (by kernel_rfl) (Stabs.all ⟨stab_is _, stab_is _, stab_is _, stab_is _, stab_is _, stab_is _, stab_is _, stab_is _, stab_is _, stab_is _, stab_is _, stab_is _, stab_is _, stab_is _, stab_is _, stab_is _, stab_is _, stab_is _, stab_is _, stab_is _, trivial⟩) ?_ ?_
  · intro o ho
    simp only [List.take_succ_cons, List.take_zero, List.mem_cons, List.not_mem_nil, or_false] at ho
    rcases ho with rfl | rfl | rfl | rfl | rfl | rfl | rfl | rfl | rfl | rfl | rfl | rfl | rfl | rfl | rfl | rfl | rfl | rfl | rfl | rfl
    · intro a' w' hb ha hdep
      have d2 : a'.tmps.getD 2 undef = .pointer (some ⟨w.heap.size, 0, none⟩) := ha.at 2 (by kernel_rfl)
      have hmk := fun (x : Value) (W : World) => SlotG.mk (x := x) (w := W) 0 rfl hGN
      clear hGN ha hdep
      go_simp
      exact ⟨_, rfl, Below.refl _ _, hmk _ _ rfl⟩
    · intro a' w' hb ha hdep
      have d5 : a'.tmps.getD 5 undef = .pointer (some ⟨w.heap.size, 2, none⟩) := (hdep 5 (of_decide_eq_true (by kernel_rfl))).is 0 rfl
      have hmk := fun (x : Value) (W : World) => SlotG.mk (x := x) (w := W) 1 rfl hGN
      clear hGN ha hdep
      have c2 : w'.cell? ⟨w.heap.size, 2, none⟩ = some (.int .i64 sp) := (HR.out.below hb HR.out.lt).cell 2
      go_simp
      exact ⟨_, rfl, Below.refl _ _, hmk _ _ rfl⟩
    · intro a' w' hb ha hdep
      have d6 : a'.tmps.getD 6 undef = .int .i64 sp := (hdep 6 (of_decide_eq_true (by kernel_rfl))).is 1 rfl
      have hmk := fun (x : Value) (W : World) => SlotG.mk (x := x) (w := W) 2 rfl hGN
      clear hGN ha hdep
      go_simp
      refine (HW1.out _).mono ?_
      rintro e w2 ⟨rfl, hb2⟩
      exact ⟨_, rfl, hb2, hmk _ _ rfl⟩
    · intro a' w' hb ha hdep
      have d2 : a'.tmps.getD 2 undef = .pointer (some ⟨w.heap.size, 0, none⟩) := ha.at 2 (by kernel_rfl)
      have hmk := fun (x : Value) (W : World) => SlotG.mk (x := x) (w := W) 3 rfl hGN
      clear hGN ha hdep
      go_simp
      exact ⟨_, rfl, Below.refl _ _, hmk _ _ rfl⟩
    · intro a' w' hb ha hdep
      have d8 : a'.tmps.getD 8 undef = .pointer (some ⟨w.heap.size, 3, none⟩) := (hdep 8 (of_decide_eq_true (by kernel_rfl))).is 3 rfl
      have hmk := fun (x : Value) (W : World) => SlotG.mk (x := x) (w := W) 4 rfl hGN
      clear hGN ha hdep
      have c3 : w'.cell? ⟨w.heap.size, 3, none⟩ = some (.int .i64 dp) := (HR.out.below hb HR.out.lt).cell 3
      go_simp
      exact ⟨_, rfl, Below.refl _ _, hmk _ _ rfl⟩
    · intro a' w' hb ha hdep
      have d9 : a'.tmps.getD 9 undef = .int .i64 dp := (hdep 9 (of_decide_eq_true (by kernel_rfl))).is 4 rfl
      have hmk := fun (x : Value) (W : World) => SlotG.mk (x := x) (w := W) 5 rfl hGN
      clear hGN ha hdep
      go_simp
      refine (HW2.out _).mono ?_
      rintro e w2 ⟨rfl, hb2⟩
      exact ⟨_, rfl, hb2, hmk _ _ rfl⟩
    · intro a' w' hb ha hdep
      have d7 : a'.tmps.getD 7 undef = .string W1 := (hdep 7 (of_decide_eq_true (by kernel_rfl))).is 2 rfl
      have d10 : a'.tmps.getD 10 undef = .string W2 := (hdep 10 (of_decide_eq_true (by kernel_rfl))).is 5 rfl
      have hmk := fun (x : Value) (W : World) => SlotG.mk (x := x) (w := W) 6 rfl hGN
      clear hGN ha hdep
      have hs : ¬ 9223372036854775807 < W1.size + W2.size := by omega
      go_simp
      exact ⟨_, rfl, Below.refl _ _, hmk _ _ rfl⟩
    · intro a' w' hb ha hdep
      have d2 : a'.tmps.getD 2 undef = .pointer (some ⟨w.heap.size, 0, none⟩) := ha.at 2 (by kernel_rfl)
      have hmk := fun (x : Value) (W : World) => SlotG.mk (x := x) (w := W) 7 rfl hGN
      clear hGN ha hdep
      go_simp
      exact ⟨_, rfl, Below.refl _ _, hmk _ _ rfl⟩
    · intro a' w' hb ha hdep
      have d12 : a'.tmps.getD 12 undef = .pointer (some ⟨w.heap.size, 5, none⟩) := (hdep 12 (of_decide_eq_true (by kernel_rfl))).is 7 rfl
      have hmk := fun (x : Value) (W : World) => SlotG.mk (x := x) (w := W) 8 rfl hGN
      clear hGN ha hdep
      have c5 : w'.cell? ⟨w.heap.size, 5, none⟩ = some (.string t) := (HR.out.below hb HR.out.lt).cell 5
      go_simp
      exact ⟨_, rfl, Below.refl _ _, hmk _ _ rfl⟩
    · intro a' w' hb ha hdep
      have d13 : a'.tmps.getD 13 undef = .string t := (hdep 13 (of_decide_eq_true (by kernel_rfl))).is 8 rfl
      have hmk := fun (x : Value) (W : World) => SlotG.mk (x := x) (w := W) 9 rfl hGN
      clear hGN ha hdep
      go_simp
      exact ⟨_, rfl, Below.refl _ _, hmk _ _ rfl⟩
    · intro a' w' hb ha hdep
      have d14 : a'.tmps.getD 14 undef = .int .i64 (t.size : Int) := (hdep 14 (of_decide_eq_true (by kernel_rfl))).is 9 rfl
      have hmk := fun (x : Value) (W : World) => SlotG.mk (x := x) (w := W) 10 rfl hGN
      clear hGN ha hdep
      go_simp
      exact ⟨_, rfl, Below.refl _ _, hmk _ _ rfl⟩
    · intro a' w' hb ha hdep
      have d15 : a'.tmps.getD 15 undef = .int .i64 (8 + (t.size : Int)) := (hdep 15 (of_decide_eq_true (by kernel_rfl))).is 10 rfl
      have hmk := fun (x : Value) (W : World) => SlotG.mk (x := x) (w := W) 11 rfl hGN
      clear hGN ha hdep
      go_simp
      refine (HW3.out _).mono ?_
      rintro e w2 ⟨rfl, hb2⟩
      exact ⟨_, rfl, hb2, hmk _ _ rfl⟩
    · intro a' w' hb ha hdep
      have d11 : a'.tmps.getD 11 undef = .string (W1 ++ W2) := (hdep 11 (of_decide_eq_true (by kernel_rfl))).is 6 rfl
      have d16 : a'.tmps.getD 16 undef = .string W3 := (hdep 16 (of_decide_eq_true (by kernel_rfl))).is 11 rfl
      have hmk := fun (x : Value) (W : World) => SlotG.mk (x := x) (w := W) 12 rfl hGN
      clear hGN ha hdep
      have hs : ¬ 9223372036854775807 < W1.size + W2.size + W3.size := by omega
      go_simp
      exact ⟨_, rfl, Below.refl _ _, hmk _ _ rfl⟩
    · intro a' w' hb ha hdep
      have d1 : a'.tmps.getD 1 undef = .int .i64 sum := ha.at 1 (by kernel_rfl)
      have hmk := fun (x : Value) (W : World) => SlotG.mk (x := x) (w := W) 13 rfl hGN
      clear hGN ha hdep
      go_simp
      exact ⟨_, rfl, Below.refl _ _, hmk _ _ rfl⟩
    · intro a' w' hb ha hdep
      have d18 : a'.tmps.getD 18 undef = .int .i64 sum := (hdep 18 (of_decide_eq_true (by kernel_rfl))).is 13 rfl
      have hmk := fun (x : Value) (W : World) => SlotG.mk (x := x) (w := W) 14 rfl hGN
      clear hGN ha hdep
      go_simp
      refine (HW4.out _).mono ?_
      rintro e w2 ⟨rfl, hb2⟩
      exact ⟨_, rfl, hb2, hmk _ _ rfl⟩
    · intro a' w' hb ha hdep
      have d17 : a'.tmps.getD 17 undef = .string (W1 ++ W2 ++ W3) := (hdep 17 (of_decide_eq_true (by kernel_rfl))).is 12 rfl
      have d19 : a'.tmps.getD 19 undef = .string W4 := (hdep 19 (of_decide_eq_true (by kernel_rfl))).is 14 rfl
      have hmk := fun (x : Value) (W : World) => SlotG.mk (x := x) (w := W) 15 rfl hGN
      clear hGN ha hdep
      have hs : ¬ 9223372036854775807 < W1.size + W2.size + W3.size + W4.size := by omega
      go_simp
      exact ⟨_, rfl, Below.refl _ _, hmk _ _ rfl⟩
    · intro a' w' hb ha hdep
      have d2 : a'.tmps.getD 2 undef = .pointer (some ⟨w.heap.size, 0, none⟩) := ha.at 2 (by kernel_rfl)
      have hmk := fun (x : Value) (W : World) => SlotG.mk (x := x) (w := W) 16 rfl hGN
      clear hGN ha hdep
      go_simp
      exact ⟨_, rfl, Below.refl _ _, hmk _ _ rfl⟩
    · intro a' w' hb ha hdep
      have d21 : a'.tmps.getD 21 undef = .pointer (some ⟨w.heap.size, 5, none⟩) := (hdep 21 (of_decide_eq_true (by kernel_rfl))).is 16 rfl
      have hmk := fun (x : Value) (W : World) => SlotG.mk (x := x) (w := W) 17 rfl hGN
      clear hGN ha hdep
      have c5 : w'.cell? ⟨w.heap.size, 5, none⟩ = some (.string t) := (HR.out.below hb HR.out.lt).cell 5
      go_simp
      exact ⟨_, rfl, Below.refl _ _, hmk _ _ rfl⟩
    · intro a' w' hb ha hdep
      have d20 : a'.tmps.getD 20 undef = .string (W1 ++ W2 ++ W3 ++ W4) := (hdep 20 (of_decide_eq_true (by kernel_rfl))).is 15 rfl
      have d22 : a'.tmps.getD 22 undef = .string t := (hdep 22 (of_decide_eq_true (by kernel_rfl))).is 17 rfl
      have hmk := fun (x : Value) (W : World) => SlotG.mk (x := x) (w := W) 18 rfl hGN
      clear hGN ha hdep
      have hs : ¬ 9223372036854775807 < 8 + t.size := by omega
      go_simp
      exact ⟨_, rfl, Below.refl _ _, hmk _ _ rfl⟩
    · intro a' w' hb ha hdep
      have d23 : a'.tmps.getD 23 undef = .string (W1 ++ W2 ++ W3 ++ W4 ++ t) := (hdep 23 (of_decide_eq_true (by kernel_rfl))).is 18 rfl
      have hmk := fun (x : Value) (W : World) => SlotG.mk (x := x) (w := W) 19 rfl hGN
      clear hGN ha hdep
      go_simp
      exact ⟨_, rfl, Below.refl _ _, hmk _ _ rfl⟩
  · intro a' w' hb ha hG
    clear hGN
    have d4 : a'.tmps.getD 4 undef = .string (W1 ++ W2 ++ W3 ++ W4 ++ t) := (hG _ (List.mem_of_getElem? (i := 19) rfl) 4 rfl).is 19 rfl
    simp only [List.drop_succ_cons, List.drop_zero]
    have hB := (new_below0 w (.cells #[.int .i64 s, .int .i64 d, .int .i64 sp, .int .i64 dp, .int .i64 ttl, .string t] 105)).trans (hb.mono (by simp))
    obtain ⟨T, D⟩ := a'
    obtain rfl : D = [] := ha.2.1
    clear hb hG ha
    go_wp2
    go_ret
    exact ⟨congrArg Ending.returned d4, hB⟩
end Go.Proofs.YtialedffpaoacaaGreatDoor
/- A datagram's bytes, of the model. -/
namespace Go.Proofs.YtialedffpaoacaaGreatDoor
open Go.RowKit

def dgT (s d sp dp ttl : Int) (t : ByteArray) : ByteArray := ⟨(dgL s d sp dp ttl t.data.toList).toArray⟩
theorem dgT_size (s d sp dp ttl : Int) (t : ByteArray) : (dgT s d sp dp ttl t).size = 28 + t.size := by
  show (dgL s d sp dp ttl t.data.toList).toArray.size = _
  rw [List.size_toArray, dgL_length]
  simp
theorem dgT_eq (s d sp dp ttl : Int) (t : ByteArray) : headT s d ttl t.size (sumN (headL s d ttl t.size 0)) ++ bodyTx sp dp t (bsumN s d sp dp t.data.toList) = dgT s d sp dp ttl t := by
  apply ByteArray.ext
  apply Array.toList_inj.1
  have e : t.data.toList.length = t.size := by simp
  simp only [dgT, dgL, e]
  simp [headT, bodyTx]
theorem ahead_eq (s d sp dp : Int) (t : ByteArray) : (fourQ s ++ fourQ d ++ wordT 17 ++ wordT (8 + (t.size : Int)) ++ bodyTx sp dp t 0).data.toList = aheadL s d t.size ++ bodyL sp dp t.data.toList 0 := by
  simp [fourQ, fourQL, wordT, bodyTx, aheadL, wordsL]
set_option maxRecDepth 100000 in
set_option maxHeartbeats 1000000 in
theorem specDgram_any (s d sp dp ttl : Int) (t : ByteArray) (w : World) (hR : dgB s d sp dp ttl t.size = true) :
    Calls Tryz.prog 47 #[dgV s d sp dp ttl t] w fun e w' => e = .returned (.string (dgT s d sp dp ttl t)) ∧ Below w.heap.size w w' := by
  obtain ⟨hs, hd, hsp, hdp, htt, hn⟩ := dgB_spec hR
  rw [← dgT_eq]
  have hts : t.data.toList.length = t.size := by simp
  have hsl := sumN_le (headL s d ttl t.size 0)
  have hbl := bsumN_le s d sp dp t.data.toList
  have HFS : Hid (∀ w, Calls Tryz.prog 85 #[.int .i64 s] w fun e w' => e = .returned (.string (fourQ s)) ∧ Below w.heap.size w w') := fun w => spec4_any _ w (by omega) (by omega)
  have HFD : Hid (∀ w, Calls Tryz.prog 85 #[.int .i64 d] w fun e w' => e = .returned (.string (fourQ d)) ∧ Below w.heap.size w w') := fun w => spec4_any _ w (by omega) (by omega)
  have HW17 : Hid (∀ w, Calls Tryz.prog 84 #[.int .i64 17] w fun e w' => e = .returned (.string (wordT 17)) ∧ Below w.heap.size w w') := fun w => specWord_any _ w (by omega) (by omega)
  have HW8 : Hid (∀ w, Calls Tryz.prog 84 #[.int .i64 (8 + (t.size : Int))] w fun e w' => e = .returned (.string (wordT (8 + (t.size : Int)))) ∧ Below w.heap.size w w') := fun w => specWord_any _ w (by omega) (by omega)
  have HBD : Hid (∀ w, Calls Tryz.prog 88 #[dgV s d sp dp ttl t, .int .i64 0] w fun e w' => e = .returned (.string (bodyTx sp dp t 0)) ∧ Below w.heap.size w w') := fun w => specBody_any s d sp dp ttl t 0 w hsp hdp hn (by omega)
  have HH0 : Hid (∀ w, Calls Tryz.prog 89 #[dgV s d sp dp ttl t, .int .i64 0] w fun e w' => e = .returned (.string (headT s d ttl t.size 0)) ∧ Below w.heap.size w w') := fun w => specHead_any s d sp dp ttl t 0 w hs hd htt hn (by omega)
  have HSH : Hid (∀ w, Calls Tryz.prog 87 #[.string (headT s d ttl t.size 0)] w fun e w' => e = .returned (.int .i64 ((sumN (headL s d ttl t.size 0) : Nat) : Int)) ∧ w = w') := fun w => by
    have := specSum_any (headT s d ttl t.size 0) w (by rw [headT_size]; omega)
    exact this
  have HH1 : Hid (∀ w, Calls Tryz.prog 89 #[dgV s d sp dp ttl t, .int .i64 ((sumN (headL s d ttl t.size 0) : Nat) : Int)] w fun e w' => e = .returned (.string (headT s d ttl t.size ((sumN (headL s d ttl t.size 0) : Nat) : Int))) ∧ Below w.heap.size w w') := fun w => specHead_any s d sp dp ttl t _ w hs hd htt hn (by omega)
  have HBY : Hid (∀ w, Calls Tryz.prog 88 #[dgV s d sp dp ttl t, .int .i64 ((bsumN s d sp dp t.data.toList : Nat) : Int)] w fun e w' => e = .returned (.string (bodyTx sp dp t ((bsumN s d sp dp t.data.toList : Nat) : Int))) ∧ Below w.heap.size w w') := fun w => specBody_any s d sp dp ttl t _ w hsp hdp hn (by omega)
  have HSX : Hid (∀ w, Calls Tryz.prog 87 #[.string (fourQ s ++ fourQ d ++ wordT 17 ++ wordT (8 + (t.size : Int)) ++ bodyTx sp dp t 0)] w fun e w' => e = .returned (.int .i64 ((sumN (aheadL s d t.size ++ bodyL sp dp t.data.toList 0) : Nat) : Int)) ∧ w = w') := fun w => by
    have := specSum_any (fourQ s ++ fourQ d ++ wordT 17 ++ wordT (8 + (t.size : Int)) ++ bodyTx sp dp t 0) w (by simp only [ByteArray.size_append, fourQ_size, wordT_size, bodyTx_size]; omega)
    rw [ahead_eq] at this
    exact this
  have HY0 : Hid (sumN (aheadL s d t.size ++ bodyL sp dp t.data.toList 0) = 0 → ((bsumN s d sp dp t.data.toList : Nat) : Int) = 65535) := by
    intro h; unfold bsumN; rw [hts, if_pos h]; rfl
  have HY1 : Hid (sumN (aheadL s d t.size ++ bodyL sp dp t.data.toList 0) ≠ 0 → ((bsumN s d sp dp t.data.toList : Nat) : Int) = ((sumN (aheadL s d t.size ++ bodyL sp dp t.data.toList 0) : Nat) : Int)) := by
    intro h; unfold bsumN; rw [hts, if_neg h]
  have z1 := fourQ_size s
  have z2 := fourQ_size d
  have z3 := wordT_size 17
  have z4 := wordT_size (8 + (t.size : Int))
  have z5 := bodyTx_size sp dp t 0
  have z6 := headT_size s d ttl t.size ((sumN (headL s d ttl t.size 0) : Nat) : Int)
  have z7 := bodyTx_size sp dp t ((bsumN s d sp dp t.data.toList : Nat) : Int)
  have hw8 := wrap_i64_in (8 + (t.size : Int)) (by omega) (by omega)
  unfold dgV at *
  have HR : Hid (Row (w.alloc (.cells #[.int .i64 s, .int .i64 d, .int .i64 sp, .int .i64 dp, .int .i64 ttl, .string t] 105)) w.heap.size 105 [.int .i64 s, .int .i64 d, .int .i64 sp, .int .i64 dp, .int .i64 ttl, .string t]) := Row.new w _ _
  generalize headT s d ttl t.size ((sumN (headL s d ttl t.size 0) : Nat) : Int) = HD at *
  generalize bodyTx sp dp t ((bsumN s d sp dp t.data.toList : Nat) : Int) = BY at *
  generalize sumN (headL s d ttl t.size 0) = HS at *
  generalize sumN (aheadL s d t.size ++ bodyL sp dp t.data.toList 0) = X at *
  generalize ((bsumN s d sp dp t.data.toList : Nat) : Int) = Y at *
  generalize headT s d ttl t.size 0 = H0 at *
  generalize bodyTx sp dp t 0 = BD at *
  generalize fourQ s = FS at *
  generalize fourQ d = FD at *
  generalize wordT 17 = W17 at *
  generalize wordT (8 + (t.size : Int)) = W8 at *
  clear hR hs hd hsp hdp htt hsl hbl hts
  go_enter Tryz.func47, Tryz.ntmps47
  go_wp2_with fail
  have hGN : (([(4, Is (.pointer (some ⟨w.heap.size, 0, none⟩))), (5, Is (.int .i64 s)), (6, Is (.string FS)), (7, Is (.pointer (some ⟨w.heap.size, 1, none⟩))), (8, Is (.int .i64 d)), (9, Is (.string FD)), (10, Is (.string (FS ++ FD))), (11, Is (.string W17)), (12, Is (.string (FS ++ FD ++ W17))), (13, Is (.pointer (some ⟨w.heap.size, 5, none⟩))), (14, Is (.string t)), (15, Is (.int .i64 (t.size : Int))), (16, Is (.int .i64 (8 + (t.size : Int)))), (17, Is (.string W8)), (18, Is (.string (FS ++ FD ++ W17 ++ W8))), (19, Is (.agg #[.int .i64 s, .int .i64 d, .int .i64 sp, .int .i64 dp, .int .i64 ttl, .string t])), (20, Is (.string BD)), (21, Is (.string (FS ++ FD ++ W17 ++ W8 ++ BD))), (22, Is (.int .i64 (X : Int))), (3, Is (.int .i64 (X : Int)))] : List (Nat × (Value → World → Prop))).map (·.1)).Nodup := by simp
  refine wp_region_steady 20 (SlotG [(4, Is (.pointer (some ⟨w.heap.size, 0, none⟩))), (5, Is (.int .i64 s)), (6, Is (.string FS)), (7, Is (.pointer (some ⟨w.heap.size, 1, none⟩))), (8, Is (.int .i64 d)), (9, Is (.string FD)), (10, Is (.string (FS ++ FD))), (11, Is (.string W17)), (12, Is (.string (FS ++ FD ++ W17))), (13, Is (.pointer (some ⟨w.heap.size, 5, none⟩))), (14, Is (.string t)), (15, Is (.int .i64 (t.size : Int))), (16, Is (.int .i64 (8 + (t.size : Int)))), (17, Is (.string W8)), (18, Is (.string (FS ++ FD ++ W17 ++ W8))), (19, Is (.agg #[.int .i64 s, .int .i64 d, .int .i64 sp, .int .i64 dp, .int .i64 ttl, .string t])), (20, Is (.string BD)), (21, Is (.string (FS ++ FD ++ W17 ++ W8 ++ BD))), (22, Is (.int .i64 (X : Int))), (3, Is (.int .i64 (X : Int)))]) (by kernel_rfl) (by kernel_rfl) (Stabs.all ⟨stab_is _, stab_is _, stab_is _, stab_is _, stab_is _, stab_is _, stab_is _, stab_is _, stab_is _, stab_is _, stab_is _, stab_is _, stab_is _, stab_is _, stab_is _, stab_is _, stab_is _, stab_is _, stab_is _, stab_is _, trivial⟩) ?_ ?_
  · intro o ho
    simp only [List.take_succ_cons, List.take_zero, List.mem_cons, List.not_mem_nil, or_false] at ho
    rcases ho with rfl | rfl | rfl | rfl | rfl | rfl | rfl | rfl | rfl | rfl | rfl | rfl | rfl | rfl | rfl | rfl | rfl | rfl | rfl | rfl
    · intro a' w' hb ha hdep
      have d1 : a'.tmps.getD 1 undef = .pointer (some ⟨w.heap.size, 0, none⟩) := ha.at 1 (by kernel_rfl)
      have hmk := fun (x : Value) (W : World) => SlotG.mk (x := x) (w := W) 0 rfl hGN
      clear hGN ha hdep
      go_simp
      exact ⟨_, rfl, Below.refl _ _, hmk _ _ rfl⟩
    · intro a' w' hb ha hdep
      have d4 : a'.tmps.getD 4 undef = .pointer (some ⟨w.heap.size, 0, none⟩) := (hdep 4 (of_decide_eq_true (by kernel_rfl))).is 0 rfl
      have hmk := fun (x : Value) (W : World) => SlotG.mk (x := x) (w := W) 1 rfl hGN
      clear hGN ha hdep
      have c0 : w'.cell? ⟨w.heap.size, 0, none⟩ = some (.int .i64 s) := (HR.out.below hb HR.out.lt).cell 0
      go_simp
      exact ⟨_, rfl, Below.refl _ _, hmk _ _ rfl⟩
    · intro a' w' hb ha hdep
      have d5 : a'.tmps.getD 5 undef = .int .i64 s := (hdep 5 (of_decide_eq_true (by kernel_rfl))).is 1 rfl
      have hmk := fun (x : Value) (W : World) => SlotG.mk (x := x) (w := W) 2 rfl hGN
      clear hGN ha hdep
      go_simp
      refine (HFS.out _).mono ?_
      rintro e w2 ⟨rfl, hb2⟩
      exact ⟨_, rfl, hb2, hmk _ _ rfl⟩
    · intro a' w' hb ha hdep
      have d1 : a'.tmps.getD 1 undef = .pointer (some ⟨w.heap.size, 0, none⟩) := ha.at 1 (by kernel_rfl)
      have hmk := fun (x : Value) (W : World) => SlotG.mk (x := x) (w := W) 3 rfl hGN
      clear hGN ha hdep
      go_simp
      exact ⟨_, rfl, Below.refl _ _, hmk _ _ rfl⟩
    · intro a' w' hb ha hdep
      have d7 : a'.tmps.getD 7 undef = .pointer (some ⟨w.heap.size, 1, none⟩) := (hdep 7 (of_decide_eq_true (by kernel_rfl))).is 3 rfl
      have hmk := fun (x : Value) (W : World) => SlotG.mk (x := x) (w := W) 4 rfl hGN
      clear hGN ha hdep
      have c1 : w'.cell? ⟨w.heap.size, 1, none⟩ = some (.int .i64 d) := (HR.out.below hb HR.out.lt).cell 1
      go_simp
      exact ⟨_, rfl, Below.refl _ _, hmk _ _ rfl⟩
    · intro a' w' hb ha hdep
      have d8 : a'.tmps.getD 8 undef = .int .i64 d := (hdep 8 (of_decide_eq_true (by kernel_rfl))).is 4 rfl
      have hmk := fun (x : Value) (W : World) => SlotG.mk (x := x) (w := W) 5 rfl hGN
      clear hGN ha hdep
      go_simp
      refine (HFD.out _).mono ?_
      rintro e w2 ⟨rfl, hb2⟩
      exact ⟨_, rfl, hb2, hmk _ _ rfl⟩
    · intro a' w' hb ha hdep
      have d6 : a'.tmps.getD 6 undef = .string FS := (hdep 6 (of_decide_eq_true (by kernel_rfl))).is 2 rfl
      have d9 : a'.tmps.getD 9 undef = .string FD := (hdep 9 (of_decide_eq_true (by kernel_rfl))).is 5 rfl
      have hmk := fun (x : Value) (W : World) => SlotG.mk (x := x) (w := W) 6 rfl hGN
      clear hGN ha hdep
      have hs : ¬ 9223372036854775807 < FS.size + FD.size := by omega
      go_simp
      exact ⟨_, rfl, Below.refl _ _, hmk _ _ rfl⟩
    · intro a' w' hb ha hdep
      have hmk := fun (x : Value) (W : World) => SlotG.mk (x := x) (w := W) 7 rfl hGN
      clear hGN ha hdep
      go_simp
      refine (HW17.out _).mono ?_
      rintro e w2 ⟨rfl, hb2⟩
      exact ⟨_, rfl, hb2, hmk _ _ rfl⟩
    · intro a' w' hb ha hdep
      have d10 : a'.tmps.getD 10 undef = .string (FS ++ FD) := (hdep 10 (of_decide_eq_true (by kernel_rfl))).is 6 rfl
      have d11 : a'.tmps.getD 11 undef = .string W17 := (hdep 11 (of_decide_eq_true (by kernel_rfl))).is 7 rfl
      have hmk := fun (x : Value) (W : World) => SlotG.mk (x := x) (w := W) 8 rfl hGN
      clear hGN ha hdep
      have hs : ¬ 9223372036854775807 < FS.size + FD.size + W17.size := by omega
      go_simp
      exact ⟨_, rfl, Below.refl _ _, hmk _ _ rfl⟩
    · intro a' w' hb ha hdep
      have d1 : a'.tmps.getD 1 undef = .pointer (some ⟨w.heap.size, 0, none⟩) := ha.at 1 (by kernel_rfl)
      have hmk := fun (x : Value) (W : World) => SlotG.mk (x := x) (w := W) 9 rfl hGN
      clear hGN ha hdep
      go_simp
      exact ⟨_, rfl, Below.refl _ _, hmk _ _ rfl⟩
    · intro a' w' hb ha hdep
      have d13 : a'.tmps.getD 13 undef = .pointer (some ⟨w.heap.size, 5, none⟩) := (hdep 13 (of_decide_eq_true (by kernel_rfl))).is 9 rfl
      have hmk := fun (x : Value) (W : World) => SlotG.mk (x := x) (w := W) 10 rfl hGN
      clear hGN ha hdep
      have c5 : w'.cell? ⟨w.heap.size, 5, none⟩ = some (.string t) := (HR.out.below hb HR.out.lt).cell 5
      go_simp
      exact ⟨_, rfl, Below.refl _ _, hmk _ _ rfl⟩
    · intro a' w' hb ha hdep
      have d14 : a'.tmps.getD 14 undef = .string t := (hdep 14 (of_decide_eq_true (by kernel_rfl))).is 10 rfl
      have hmk := fun (x : Value) (W : World) => SlotG.mk (x := x) (w := W) 11 rfl hGN
      clear hGN ha hdep
      go_simp
      exact ⟨_, rfl, Below.refl _ _, hmk _ _ rfl⟩
    · intro a' w' hb ha hdep
      have d15 : a'.tmps.getD 15 undef = .int .i64 (t.size : Int) := (hdep 15 (of_decide_eq_true (by kernel_rfl))).is 11 rfl
      have hmk := fun (x : Value) (W : World) => SlotG.mk (x := x) (w := W) 12 rfl hGN
      clear hGN ha hdep
      go_simp
      exact ⟨_, rfl, Below.refl _ _, hmk _ _ rfl⟩
    · intro a' w' hb ha hdep
      have d16 : a'.tmps.getD 16 undef = .int .i64 (8 + (t.size : Int)) := (hdep 16 (of_decide_eq_true (by kernel_rfl))).is 12 rfl
      have hmk := fun (x : Value) (W : World) => SlotG.mk (x := x) (w := W) 13 rfl hGN
      clear hGN ha hdep
      go_simp
      refine (HW8.out _).mono ?_
      rintro e w2 ⟨rfl, hb2⟩
      exact ⟨_, rfl, hb2, hmk _ _ rfl⟩
    · intro a' w' hb ha hdep
      have d12 : a'.tmps.getD 12 undef = .string (FS ++ FD ++ W17) := (hdep 12 (of_decide_eq_true (by kernel_rfl))).is 8 rfl
      have d17 : a'.tmps.getD 17 undef = .string W8 := (hdep 17 (of_decide_eq_true (by kernel_rfl))).is 13 rfl
      have hmk := fun (x : Value) (W : World) => SlotG.mk (x := x) (w := W) 14 rfl hGN
      clear hGN ha hdep
      have hs : ¬ 9223372036854775807 < FS.size + FD.size + W17.size + W8.size := by omega
      go_simp
      exact ⟨_, rfl, Below.refl _ _, hmk _ _ rfl⟩
    · intro a' w' hb ha hdep
      have d1 : a'.tmps.getD 1 undef = .pointer (some ⟨w.heap.size, 0, none⟩) := ha.at 1 (by kernel_rfl)
      have hmk := fun (x : Value) (W : World) => SlotG.mk (x := x) (w := W) 15 rfl hGN
      clear hGN ha hdep
      have c0 : w'.cell? ⟨w.heap.size, 0, none⟩ = some (.int .i64 s) := (HR.out.below hb HR.out.lt).cell 0
      have c1 : w'.cell? ⟨w.heap.size, 1, none⟩ = some (.int .i64 d) := (HR.out.below hb HR.out.lt).cell 1
      have c2 : w'.cell? ⟨w.heap.size, 2, none⟩ = some (.int .i64 sp) := (HR.out.below hb HR.out.lt).cell 2
      have c3 : w'.cell? ⟨w.heap.size, 3, none⟩ = some (.int .i64 dp) := (HR.out.below hb HR.out.lt).cell 3
      have c4 : w'.cell? ⟨w.heap.size, 4, none⟩ = some (.int .i64 ttl) := (HR.out.below hb HR.out.lt).cell 4
      have c5 : w'.cell? ⟨w.heap.size, 5, none⟩ = some (.string t) := (HR.out.below hb HR.out.lt).cell 5
      go_simp
      exact ⟨_, rfl, Below.refl _ _, hmk _ _ rfl⟩
    · intro a' w' hb ha hdep
      have d19 : a'.tmps.getD 19 undef = .agg #[.int .i64 s, .int .i64 d, .int .i64 sp, .int .i64 dp, .int .i64 ttl, .string t] := (hdep 19 (of_decide_eq_true (by kernel_rfl))).is 15 rfl
      have hmk := fun (x : Value) (W : World) => SlotG.mk (x := x) (w := W) 16 rfl hGN
      clear hGN ha hdep
      go_simp
      refine (HBD.out _).mono ?_
      rintro e w2 ⟨rfl, hb2⟩
      exact ⟨_, rfl, hb2, hmk _ _ rfl⟩
    · intro a' w' hb ha hdep
      have d18 : a'.tmps.getD 18 undef = .string (FS ++ FD ++ W17 ++ W8) := (hdep 18 (of_decide_eq_true (by kernel_rfl))).is 14 rfl
      have d20 : a'.tmps.getD 20 undef = .string BD := (hdep 20 (of_decide_eq_true (by kernel_rfl))).is 16 rfl
      have hmk := fun (x : Value) (W : World) => SlotG.mk (x := x) (w := W) 17 rfl hGN
      clear hGN ha hdep
      have hs : ¬ 9223372036854775807 < 12 + (8 + t.size) := by omega
      go_simp
      exact ⟨_, rfl, Below.refl _ _, hmk _ _ rfl⟩
    · intro a' w' hb ha hdep
      have d21 : a'.tmps.getD 21 undef = .string (FS ++ FD ++ W17 ++ W8 ++ BD) := (hdep 21 (of_decide_eq_true (by kernel_rfl))).is 17 rfl
      have hmk := fun (x : Value) (W : World) => SlotG.mk (x := x) (w := W) 18 rfl hGN
      clear hGN ha hdep
      go_simp
      refine (HSX.out _).mono ?_
      rintro e w2 ⟨rfl, rfl⟩
      exact ⟨_, rfl, Below.refl _ _, hmk _ _ rfl⟩
    · intro a' w' hb ha hdep
      have d22 : a'.tmps.getD 22 undef = .int .i64 (X : Int) := (hdep 22 (of_decide_eq_true (by kernel_rfl))).is 18 rfl
      have hmk := fun (x : Value) (W : World) => SlotG.mk (x := x) (w := W) 19 rfl hGN
      clear hGN ha hdep
      go_simp
      exact ⟨_, rfl, Below.refl _ _, hmk _ _ rfl⟩
  · intro a' w' hb ha hG
    clear hGN
    have d3 : a'.tmps.getD 3 undef = .int .i64 (X : Int) := (hG _ (List.mem_of_getElem? (i := 19) rfl) 3 rfl).is 19 rfl
    have d1 : a'.tmps.getD 1 undef = .pointer (some ⟨w.heap.size, 0, none⟩) := ha.at 1 (by kernel_rfl)
    have e2 : a' = ⟨#[a'.tmps.getD 0 undef, a'.tmps.getD 1 undef, a'.tmps.getD 2 undef, a'.tmps.getD 3 undef, a'.tmps.getD 4 undef, a'.tmps.getD 5 undef, a'.tmps.getD 6 undef, a'.tmps.getD 7 undef, a'.tmps.getD 8 undef, a'.tmps.getD 9 undef, a'.tmps.getD 10 undef, a'.tmps.getD 11 undef, a'.tmps.getD 12 undef, a'.tmps.getD 13 undef, a'.tmps.getD 14 undef, a'.tmps.getD 15 undef, a'.tmps.getD 16 undef, a'.tmps.getD 17 undef, a'.tmps.getD 18 undef, a'.tmps.getD 19 undef, a'.tmps.getD 20 undef, a'.tmps.getD 21 undef, a'.tmps.getD 22 undef, a'.tmps.getD 23 undef, a'.tmps.getD 24 undef, a'.tmps.getD 25 undef, a'.tmps.getD 26 undef, a'.tmps.getD 27 undef, a'.tmps.getD 28 undef, a'.tmps.getD 29 undef, a'.tmps.getD 30 undef, a'.tmps.getD 31 undef, a'.tmps.getD 32 undef, a'.tmps.getD 33 undef], []⟩ := by rw [← (show a'.defers = [] from ha.2.1)]; exact act_eq a' 34 ha.1
    rw [d3, d1] at e2
    clear hG ha d3 d1
    generalize a'.tmps.getD 0 undef = x0 at *
    generalize a'.tmps.getD 2 undef = x2 at *
    generalize a'.tmps.getD 4 undef = x4 at *
    generalize a'.tmps.getD 5 undef = x5 at *
    generalize a'.tmps.getD 6 undef = x6 at *
    generalize a'.tmps.getD 7 undef = x7 at *
    generalize a'.tmps.getD 8 undef = x8 at *
    generalize a'.tmps.getD 9 undef = x9 at *
    generalize a'.tmps.getD 10 undef = x10 at *
    generalize a'.tmps.getD 11 undef = x11 at *
    generalize a'.tmps.getD 12 undef = x12 at *
    generalize a'.tmps.getD 13 undef = x13 at *
    generalize a'.tmps.getD 14 undef = x14 at *
    generalize a'.tmps.getD 15 undef = x15 at *
    generalize a'.tmps.getD 16 undef = x16 at *
    generalize a'.tmps.getD 17 undef = x17 at *
    generalize a'.tmps.getD 18 undef = x18 at *
    generalize a'.tmps.getD 19 undef = x19 at *
    generalize a'.tmps.getD 20 undef = x20 at *
    generalize a'.tmps.getD 21 undef = x21 at *
    generalize a'.tmps.getD 22 undef = x22 at *
    generalize a'.tmps.getD 23 undef = x23 at *
    generalize a'.tmps.getD 24 undef = x24 at *
    generalize a'.tmps.getD 25 undef = x25 at *
    generalize a'.tmps.getD 26 undef = x26 at *
    generalize a'.tmps.getD 27 undef = x27 at *
    generalize a'.tmps.getD 28 undef = x28 at *
    generalize a'.tmps.getD 29 undef = x29 at *
    generalize a'.tmps.getD 30 undef = x30 at *
    generalize a'.tmps.getD 31 undef = x31 at *
    generalize a'.tmps.getD 32 undef = x32 at *
    generalize a'.tmps.getD 33 undef = x33 at *
    subst e2
    simp only [List.drop_succ_cons, List.drop_zero]
    have hB1 := (new_below0 w (.cells #[.int .i64 s, .int .i64 d, .int .i64 sp, .int .i64 dp, .int .i64 ttl, .string t] 105)).trans (hb.mono (by simp))
    have HR2 : Hid _ := HR.out.below hb HR.out.lt
    clear HR hb
    have HR : Hid (Row w' w.heap.size 105 [.int .i64 s, .int .i64 d, .int .i64 sp, .int .i64 dp, .int .i64 ttl, .string t]) := HR2
    clear HR2 HFS HFD HW17 HW8 HBD HSX
    generalize w' = w1 at *
    by_cases hX : X = 0
    · subst hX
      rw [HY0.out rfl] at HBY
      go_wp2_with fail
      have hGN : (([(25, Is (.agg #[.int .i64 s, .int .i64 d, .int .i64 sp, .int .i64 dp, .int .i64 ttl, .string t])), (26, Is (.agg #[.int .i64 s, .int .i64 d, .int .i64 sp, .int .i64 dp, .int .i64 ttl, .string t])), (27, Is (.string H0)), (28, Is (.int .i64 (HS : Int))), (29, Is (.string HD)), (30, Is (.agg #[.int .i64 s, .int .i64 d, .int .i64 sp, .int .i64 dp, .int .i64 ttl, .string t])), (31, Is (.int .i64 65535)), (32, Is (.string BY)), (33, Is (.string (HD ++ BY))), (2, Is (.string (HD ++ BY)))] : List (Nat × (Value → World → Prop))).map (·.1)).Nodup := by simp
      refine wp_region_steady 10 (SlotG [(25, Is (.agg #[.int .i64 s, .int .i64 d, .int .i64 sp, .int .i64 dp, .int .i64 ttl, .string t])), (26, Is (.agg #[.int .i64 s, .int .i64 d, .int .i64 sp, .int .i64 dp, .int .i64 ttl, .string t])), (27, Is (.string H0)), (28, Is (.int .i64 (HS : Int))), (29, Is (.string HD)), (30, Is (.agg #[.int .i64 s, .int .i64 d, .int .i64 sp, .int .i64 dp, .int .i64 ttl, .string t])), (31, Is (.int .i64 65535)), (32, Is (.string BY)), (33, Is (.string (HD ++ BY))), (2, Is (.string (HD ++ BY)))]) (by kernel_rfl) (by kernel_rfl) (Stabs.all ⟨stab_is _, stab_is _, stab_is _, stab_is _, stab_is _, stab_is _, stab_is _, stab_is _, stab_is _, stab_is _, trivial⟩) ?_ ?_
      · intro o ho
        simp only [List.take_succ_cons, List.take_zero, List.mem_cons, List.not_mem_nil, or_false] at ho
        rcases ho with rfl | rfl | rfl | rfl | rfl | rfl | rfl | rfl | rfl | rfl
        · intro a' w' hb ha hdep
          have d1 : a'.tmps.getD 1 undef = .pointer (some ⟨w.heap.size, 0, none⟩) := ha.at 1 (by kernel_rfl)
          have hmk := fun (x : Value) (W : World) => SlotG.mk (x := x) (w := W) 0 rfl hGN
          clear hGN ha hdep
          have c0 : w'.cell? ⟨w.heap.size, 0, none⟩ = some (.int .i64 s) := (HR.out.below hb HR.out.lt).cell 0
          have c1 : w'.cell? ⟨w.heap.size, 1, none⟩ = some (.int .i64 d) := (HR.out.below hb HR.out.lt).cell 1
          have c2 : w'.cell? ⟨w.heap.size, 2, none⟩ = some (.int .i64 sp) := (HR.out.below hb HR.out.lt).cell 2
          have c3 : w'.cell? ⟨w.heap.size, 3, none⟩ = some (.int .i64 dp) := (HR.out.below hb HR.out.lt).cell 3
          have c4 : w'.cell? ⟨w.heap.size, 4, none⟩ = some (.int .i64 ttl) := (HR.out.below hb HR.out.lt).cell 4
          have c5 : w'.cell? ⟨w.heap.size, 5, none⟩ = some (.string t) := (HR.out.below hb HR.out.lt).cell 5
          go_simp
          exact ⟨_, rfl, Below.refl _ _, hmk _ _ rfl⟩
        · intro a' w' hb ha hdep
          have d1 : a'.tmps.getD 1 undef = .pointer (some ⟨w.heap.size, 0, none⟩) := ha.at 1 (by kernel_rfl)
          have hmk := fun (x : Value) (W : World) => SlotG.mk (x := x) (w := W) 1 rfl hGN
          clear hGN ha hdep
          have c0 : w'.cell? ⟨w.heap.size, 0, none⟩ = some (.int .i64 s) := (HR.out.below hb HR.out.lt).cell 0
          have c1 : w'.cell? ⟨w.heap.size, 1, none⟩ = some (.int .i64 d) := (HR.out.below hb HR.out.lt).cell 1
          have c2 : w'.cell? ⟨w.heap.size, 2, none⟩ = some (.int .i64 sp) := (HR.out.below hb HR.out.lt).cell 2
          have c3 : w'.cell? ⟨w.heap.size, 3, none⟩ = some (.int .i64 dp) := (HR.out.below hb HR.out.lt).cell 3
          have c4 : w'.cell? ⟨w.heap.size, 4, none⟩ = some (.int .i64 ttl) := (HR.out.below hb HR.out.lt).cell 4
          have c5 : w'.cell? ⟨w.heap.size, 5, none⟩ = some (.string t) := (HR.out.below hb HR.out.lt).cell 5
          go_simp
          exact ⟨_, rfl, Below.refl _ _, hmk _ _ rfl⟩
        · intro a' w' hb ha hdep
          have d26 : a'.tmps.getD 26 undef = .agg #[.int .i64 s, .int .i64 d, .int .i64 sp, .int .i64 dp, .int .i64 ttl, .string t] := (hdep 26 (of_decide_eq_true (by kernel_rfl))).is 1 rfl
          have hmk := fun (x : Value) (W : World) => SlotG.mk (x := x) (w := W) 2 rfl hGN
          clear hGN ha hdep
          go_simp
          refine (HH0.out _).mono ?_
          rintro e w2 ⟨rfl, hb2⟩
          exact ⟨_, rfl, hb2, hmk _ _ rfl⟩
        · intro a' w' hb ha hdep
          have d27 : a'.tmps.getD 27 undef = .string H0 := (hdep 27 (of_decide_eq_true (by kernel_rfl))).is 2 rfl
          have hmk := fun (x : Value) (W : World) => SlotG.mk (x := x) (w := W) 3 rfl hGN
          clear hGN ha hdep
          go_simp
          refine (HSH.out _).mono ?_
          rintro e w2 ⟨rfl, rfl⟩
          exact ⟨_, rfl, Below.refl _ _, hmk _ _ rfl⟩
        · intro a' w' hb ha hdep
          have d25 : a'.tmps.getD 25 undef = .agg #[.int .i64 s, .int .i64 d, .int .i64 sp, .int .i64 dp, .int .i64 ttl, .string t] := (hdep 25 (of_decide_eq_true (by kernel_rfl))).is 0 rfl
          have d28 : a'.tmps.getD 28 undef = .int .i64 (HS : Int) := (hdep 28 (of_decide_eq_true (by kernel_rfl))).is 3 rfl
          have hmk := fun (x : Value) (W : World) => SlotG.mk (x := x) (w := W) 4 rfl hGN
          clear hGN ha hdep
          go_simp
          refine (HH1.out _).mono ?_
          rintro e w2 ⟨rfl, hb2⟩
          exact ⟨_, rfl, hb2, hmk _ _ rfl⟩
        · intro a' w' hb ha hdep
          have d1 : a'.tmps.getD 1 undef = .pointer (some ⟨w.heap.size, 0, none⟩) := ha.at 1 (by kernel_rfl)
          have hmk := fun (x : Value) (W : World) => SlotG.mk (x := x) (w := W) 5 rfl hGN
          clear hGN ha hdep
          have c0 : w'.cell? ⟨w.heap.size, 0, none⟩ = some (.int .i64 s) := (HR.out.below hb HR.out.lt).cell 0
          have c1 : w'.cell? ⟨w.heap.size, 1, none⟩ = some (.int .i64 d) := (HR.out.below hb HR.out.lt).cell 1
          have c2 : w'.cell? ⟨w.heap.size, 2, none⟩ = some (.int .i64 sp) := (HR.out.below hb HR.out.lt).cell 2
          have c3 : w'.cell? ⟨w.heap.size, 3, none⟩ = some (.int .i64 dp) := (HR.out.below hb HR.out.lt).cell 3
          have c4 : w'.cell? ⟨w.heap.size, 4, none⟩ = some (.int .i64 ttl) := (HR.out.below hb HR.out.lt).cell 4
          have c5 : w'.cell? ⟨w.heap.size, 5, none⟩ = some (.string t) := (HR.out.below hb HR.out.lt).cell 5
          go_simp
          exact ⟨_, rfl, Below.refl _ _, hmk _ _ rfl⟩
        · intro a' w' hb ha hdep
          have d3 : a'.tmps.getD 3 undef = .int .i64 65535 := ha.at 3 (by kernel_rfl)
          have hmk := fun (x : Value) (W : World) => SlotG.mk (x := x) (w := W) 6 rfl hGN
          clear hGN ha hdep
          go_simp
          exact ⟨_, rfl, Below.refl _ _, hmk _ _ rfl⟩
        · intro a' w' hb ha hdep
          have d30 : a'.tmps.getD 30 undef = .agg #[.int .i64 s, .int .i64 d, .int .i64 sp, .int .i64 dp, .int .i64 ttl, .string t] := (hdep 30 (of_decide_eq_true (by kernel_rfl))).is 5 rfl
          have d31 : a'.tmps.getD 31 undef = .int .i64 65535 := (hdep 31 (of_decide_eq_true (by kernel_rfl))).is 6 rfl
          have hmk := fun (x : Value) (W : World) => SlotG.mk (x := x) (w := W) 7 rfl hGN
          clear hGN ha hdep
          go_simp
          refine (HBY.out _).mono ?_
          rintro e w2 ⟨rfl, hb2⟩
          exact ⟨_, rfl, hb2, hmk _ _ rfl⟩
        · intro a' w' hb ha hdep
          have d29 : a'.tmps.getD 29 undef = .string HD := (hdep 29 (of_decide_eq_true (by kernel_rfl))).is 4 rfl
          have d32 : a'.tmps.getD 32 undef = .string BY := (hdep 32 (of_decide_eq_true (by kernel_rfl))).is 7 rfl
          have hmk := fun (x : Value) (W : World) => SlotG.mk (x := x) (w := W) 8 rfl hGN
          clear hGN ha hdep
          have hs : ¬ 9223372036854775807 < 20 + (8 + t.size) := by omega
          go_simp
          exact ⟨_, rfl, Below.refl _ _, hmk _ _ rfl⟩
        · intro a' w' hb ha hdep
          have d33 : a'.tmps.getD 33 undef = .string (HD ++ BY) := (hdep 33 (of_decide_eq_true (by kernel_rfl))).is 8 rfl
          have hmk := fun (x : Value) (W : World) => SlotG.mk (x := x) (w := W) 9 rfl hGN
          clear hGN ha hdep
          go_simp
          exact ⟨_, rfl, Below.refl _ _, hmk _ _ rfl⟩
      · intro a' w' hb ha hG
        clear hGN
        have d2 : a'.tmps.getD 2 undef = .string (HD ++ BY) := (hG _ (List.mem_of_getElem? (i := 9) rfl) 2 rfl).is 9 rfl
        simp only [List.drop_succ_cons, List.drop_zero]
        have hB := hB1.trans (hb.mono hB1.size)
        obtain ⟨T, D⟩ := a'
        obtain rfl : D = [] := ha.2.1
        clear hb hG ha
        go_wp2
        go_ret
        exact ⟨congrArg Ending.returned d2, hB⟩
    · have hXb : ((X : Int) == 0) = false := by simp; omega
      rw [HY1.out hX] at HBY
      go_wp2_with fail
      have hGN : (([(25, Is (.agg #[.int .i64 s, .int .i64 d, .int .i64 sp, .int .i64 dp, .int .i64 ttl, .string t])), (26, Is (.agg #[.int .i64 s, .int .i64 d, .int .i64 sp, .int .i64 dp, .int .i64 ttl, .string t])), (27, Is (.string H0)), (28, Is (.int .i64 (HS : Int))), (29, Is (.string HD)), (30, Is (.agg #[.int .i64 s, .int .i64 d, .int .i64 sp, .int .i64 dp, .int .i64 ttl, .string t])), (31, Is (.int .i64 (X : Int))), (32, Is (.string BY)), (33, Is (.string (HD ++ BY))), (2, Is (.string (HD ++ BY)))] : List (Nat × (Value → World → Prop))).map (·.1)).Nodup := by simp
      refine wp_region_steady 10 (SlotG [(25, Is (.agg #[.int .i64 s, .int .i64 d, .int .i64 sp, .int .i64 dp, .int .i64 ttl, .string t])), (26, Is (.agg #[.int .i64 s, .int .i64 d, .int .i64 sp, .int .i64 dp, .int .i64 ttl, .string t])), (27, Is (.string H0)), (28, Is (.int .i64 (HS : Int))), (29, Is (.string HD)), (30, Is (.agg #[.int .i64 s, .int .i64 d, .int .i64 sp, .int .i64 dp, .int .i64 ttl, .string t])), (31, Is (.int .i64 (X : Int))), (32, Is (.string BY)), (33, Is (.string (HD ++ BY))), (2, Is (.string (HD ++ BY)))]) (by kernel_rfl) (by kernel_rfl) (Stabs.all ⟨stab_is _, stab_is _, stab_is _, stab_is _, stab_is _, stab_is _, stab_is _, stab_is _, stab_is _, stab_is _, trivial⟩) ?_ ?_
      · intro o ho
        simp only [List.take_succ_cons, List.take_zero, List.mem_cons, List.not_mem_nil, or_false] at ho
        rcases ho with rfl | rfl | rfl | rfl | rfl | rfl | rfl | rfl | rfl | rfl
        · intro a' w' hb ha hdep
          have d1 : a'.tmps.getD 1 undef = .pointer (some ⟨w.heap.size, 0, none⟩) := ha.at 1 (by kernel_rfl)
          have hmk := fun (x : Value) (W : World) => SlotG.mk (x := x) (w := W) 0 rfl hGN
          clear hGN ha hdep
          have c0 : w'.cell? ⟨w.heap.size, 0, none⟩ = some (.int .i64 s) := (HR.out.below hb HR.out.lt).cell 0
          have c1 : w'.cell? ⟨w.heap.size, 1, none⟩ = some (.int .i64 d) := (HR.out.below hb HR.out.lt).cell 1
          have c2 : w'.cell? ⟨w.heap.size, 2, none⟩ = some (.int .i64 sp) := (HR.out.below hb HR.out.lt).cell 2
          have c3 : w'.cell? ⟨w.heap.size, 3, none⟩ = some (.int .i64 dp) := (HR.out.below hb HR.out.lt).cell 3
          have c4 : w'.cell? ⟨w.heap.size, 4, none⟩ = some (.int .i64 ttl) := (HR.out.below hb HR.out.lt).cell 4
          have c5 : w'.cell? ⟨w.heap.size, 5, none⟩ = some (.string t) := (HR.out.below hb HR.out.lt).cell 5
          go_simp
          exact ⟨_, rfl, Below.refl _ _, hmk _ _ rfl⟩
        · intro a' w' hb ha hdep
          have d1 : a'.tmps.getD 1 undef = .pointer (some ⟨w.heap.size, 0, none⟩) := ha.at 1 (by kernel_rfl)
          have hmk := fun (x : Value) (W : World) => SlotG.mk (x := x) (w := W) 1 rfl hGN
          clear hGN ha hdep
          have c0 : w'.cell? ⟨w.heap.size, 0, none⟩ = some (.int .i64 s) := (HR.out.below hb HR.out.lt).cell 0
          have c1 : w'.cell? ⟨w.heap.size, 1, none⟩ = some (.int .i64 d) := (HR.out.below hb HR.out.lt).cell 1
          have c2 : w'.cell? ⟨w.heap.size, 2, none⟩ = some (.int .i64 sp) := (HR.out.below hb HR.out.lt).cell 2
          have c3 : w'.cell? ⟨w.heap.size, 3, none⟩ = some (.int .i64 dp) := (HR.out.below hb HR.out.lt).cell 3
          have c4 : w'.cell? ⟨w.heap.size, 4, none⟩ = some (.int .i64 ttl) := (HR.out.below hb HR.out.lt).cell 4
          have c5 : w'.cell? ⟨w.heap.size, 5, none⟩ = some (.string t) := (HR.out.below hb HR.out.lt).cell 5
          go_simp
          exact ⟨_, rfl, Below.refl _ _, hmk _ _ rfl⟩
        · intro a' w' hb ha hdep
          have d26 : a'.tmps.getD 26 undef = .agg #[.int .i64 s, .int .i64 d, .int .i64 sp, .int .i64 dp, .int .i64 ttl, .string t] := (hdep 26 (of_decide_eq_true (by kernel_rfl))).is 1 rfl
          have hmk := fun (x : Value) (W : World) => SlotG.mk (x := x) (w := W) 2 rfl hGN
          clear hGN ha hdep
          go_simp
          refine (HH0.out _).mono ?_
          rintro e w2 ⟨rfl, hb2⟩
          exact ⟨_, rfl, hb2, hmk _ _ rfl⟩
        · intro a' w' hb ha hdep
          have d27 : a'.tmps.getD 27 undef = .string H0 := (hdep 27 (of_decide_eq_true (by kernel_rfl))).is 2 rfl
          have hmk := fun (x : Value) (W : World) => SlotG.mk (x := x) (w := W) 3 rfl hGN
          clear hGN ha hdep
          go_simp
          refine (HSH.out _).mono ?_
          rintro e w2 ⟨rfl, rfl⟩
          exact ⟨_, rfl, Below.refl _ _, hmk _ _ rfl⟩
        · intro a' w' hb ha hdep
          have d25 : a'.tmps.getD 25 undef = .agg #[.int .i64 s, .int .i64 d, .int .i64 sp, .int .i64 dp, .int .i64 ttl, .string t] := (hdep 25 (of_decide_eq_true (by kernel_rfl))).is 0 rfl
          have d28 : a'.tmps.getD 28 undef = .int .i64 (HS : Int) := (hdep 28 (of_decide_eq_true (by kernel_rfl))).is 3 rfl
          have hmk := fun (x : Value) (W : World) => SlotG.mk (x := x) (w := W) 4 rfl hGN
          clear hGN ha hdep
          go_simp
          refine (HH1.out _).mono ?_
          rintro e w2 ⟨rfl, hb2⟩
          exact ⟨_, rfl, hb2, hmk _ _ rfl⟩
        · intro a' w' hb ha hdep
          have d1 : a'.tmps.getD 1 undef = .pointer (some ⟨w.heap.size, 0, none⟩) := ha.at 1 (by kernel_rfl)
          have hmk := fun (x : Value) (W : World) => SlotG.mk (x := x) (w := W) 5 rfl hGN
          clear hGN ha hdep
          have c0 : w'.cell? ⟨w.heap.size, 0, none⟩ = some (.int .i64 s) := (HR.out.below hb HR.out.lt).cell 0
          have c1 : w'.cell? ⟨w.heap.size, 1, none⟩ = some (.int .i64 d) := (HR.out.below hb HR.out.lt).cell 1
          have c2 : w'.cell? ⟨w.heap.size, 2, none⟩ = some (.int .i64 sp) := (HR.out.below hb HR.out.lt).cell 2
          have c3 : w'.cell? ⟨w.heap.size, 3, none⟩ = some (.int .i64 dp) := (HR.out.below hb HR.out.lt).cell 3
          have c4 : w'.cell? ⟨w.heap.size, 4, none⟩ = some (.int .i64 ttl) := (HR.out.below hb HR.out.lt).cell 4
          have c5 : w'.cell? ⟨w.heap.size, 5, none⟩ = some (.string t) := (HR.out.below hb HR.out.lt).cell 5
          go_simp
          exact ⟨_, rfl, Below.refl _ _, hmk _ _ rfl⟩
        · intro a' w' hb ha hdep
          have d3 : a'.tmps.getD 3 undef = .int .i64 (X : Int) := ha.at 3 (by kernel_rfl)
          have hmk := fun (x : Value) (W : World) => SlotG.mk (x := x) (w := W) 6 rfl hGN
          clear hGN ha hdep
          go_simp
          exact ⟨_, rfl, Below.refl _ _, hmk _ _ rfl⟩
        · intro a' w' hb ha hdep
          have d30 : a'.tmps.getD 30 undef = .agg #[.int .i64 s, .int .i64 d, .int .i64 sp, .int .i64 dp, .int .i64 ttl, .string t] := (hdep 30 (of_decide_eq_true (by kernel_rfl))).is 5 rfl
          have d31 : a'.tmps.getD 31 undef = .int .i64 (X : Int) := (hdep 31 (of_decide_eq_true (by kernel_rfl))).is 6 rfl
          have hmk := fun (x : Value) (W : World) => SlotG.mk (x := x) (w := W) 7 rfl hGN
          clear hGN ha hdep
          go_simp
          refine (HBY.out _).mono ?_
          rintro e w2 ⟨rfl, hb2⟩
          exact ⟨_, rfl, hb2, hmk _ _ rfl⟩
        · intro a' w' hb ha hdep
          have d29 : a'.tmps.getD 29 undef = .string HD := (hdep 29 (of_decide_eq_true (by kernel_rfl))).is 4 rfl
          have d32 : a'.tmps.getD 32 undef = .string BY := (hdep 32 (of_decide_eq_true (by kernel_rfl))).is 7 rfl
          have hmk := fun (x : Value) (W : World) => SlotG.mk (x := x) (w := W) 8 rfl hGN
          clear hGN ha hdep
          have hs : ¬ 9223372036854775807 < 20 + (8 + t.size) := by omega
          go_simp
          exact ⟨_, rfl, Below.refl _ _, hmk _ _ rfl⟩
        · intro a' w' hb ha hdep
          have d33 : a'.tmps.getD 33 undef = .string (HD ++ BY) := (hdep 33 (of_decide_eq_true (by kernel_rfl))).is 8 rfl
          have hmk := fun (x : Value) (W : World) => SlotG.mk (x := x) (w := W) 9 rfl hGN
          clear hGN ha hdep
          go_simp
          exact ⟨_, rfl, Below.refl _ _, hmk _ _ rfl⟩
      · intro a' w' hb ha hG
        clear hGN
        have d2 : a'.tmps.getD 2 undef = .string (HD ++ BY) := (hG _ (List.mem_of_getElem? (i := 9) rfl) 2 rfl).is 9 rfl
        simp only [List.drop_succ_cons, List.drop_zero]
        have hB := hB1.trans (hb.mono hB1.size)
        obtain ⟨T, D⟩ := a'
        obtain rfl : D = [] := ha.2.1
        clear hb hG ha
        go_wp2
        go_ret
        exact ⟨congrArg Ending.returned d2, hB⟩
def dgO (s d sp dp ttl : Int) (t : ByteArray) : ByteArray := if dgB s d sp dp ttl t.size then dgT s d sp dp ttl t else ByteArray.empty
theorem dgO_in (s d sp dp ttl : Int) (t : ByteArray) (h : dgB s d sp dp ttl t.size = true) : dgO s d sp dp ttl t = dgT s d sp dp ttl t := if_pos h
theorem dgO_out (s d sp dp ttl : Int) (t : ByteArray) (h : ¬ dgB s d sp dp ttl t.size = true) : dgO s d sp dp ttl t = ByteArray.empty := if_neg h
end Go.Proofs.YtialedffpaoacaaGreatDoor
/- A frame's bytes, of the model. -/
namespace Go.Proofs.YtialedffpaoacaaGreatDoor
open Go.RowKit

def zerosT (n : Nat) : ByteArray := ⟨(List.replicate n 0).toArray⟩
theorem zerosT_size (n : Nat) : (zerosT n).size = n := by simp [zerosT, ByteArray.size]
theorem make_bytes_run (w : World) (n : Nat) (hn : n ≤ 100000) :
    ∃ w', (Instr.makeSlice 150 (.int .i64 (n : Int)) (.int .i64 (n : Int))).run Tryz.prog w = .ok (.slice (some ⟨w.heap.size, 0, none⟩) n n) w' ∧ RowB w' w.heap.size 5 (List.replicate n 0) ∧ Below w.heap.size w w' := by
  obtain ⟨i0, hi0, hz0, hz1, hz2⟩ := info_parts Tryz.infoB
  obtain ⟨w', hrun, hown, hgrow⟩ := run_make_full (P := Tryz.prog) w w.heap.size 150 5 i0 (.int .u8 0) 1 Tryz.underlying150 hi0 hz0 hz1 .i64 .i64 n (by rw [hz2]; omega) (by unfold maxLen; omega) (Nat.le_refl _)
  refine ⟨w', hrun, ?_, (Below.refl _ _).grown hgrow (Nat.le_refl _) (by intro k hk; cases hk)⟩
  rcases hown.2 with ⟨h', _⟩ | ⟨g, cap, cur, h', hbg, hg, hnc, hcm, hcs, htake⟩
  · simp at h'
  · simp only [Value.slice.injEq, Option.some.injEq, Addr.mk.injEq, and_true, true_and] at h'
    obtain ⟨rfl, rfl⟩ := h'
    unfold RowB
    rw [hg]
    have e1 : cur.toList = (madeCells (Value.int IntKind.u8 0).cells (n * 1)).toList := by
      rw [← htake, List.take_of_length_le (by simp [hcs])]
    have e2 : (madeCells (Value.int IntKind.u8 0).cells (n * 1)).toList = cellsB (List.replicate n 0) := by
      simp [cellsB, madeCells, Value.cells]
      rw [List.eq_replicate_iff]
      simp [Nat.mod_one]
    rw [e2] at e1
    rw [← e1]
set_option maxRecDepth 100000 in
theorem specFrame_any (v : Int) (t : ByteArray) (w : World) (h0 : 1 ≤ v) (h1 : v ≤ 4094) (ht : t.size ≤ 1000) :
    Calls Tryz.prog 46 #[.agg #[.int .i64 v, .string t]] w fun e w' => e = .returned (.string (zerosT 12 ++ wordT 33024 ++ wordT v ++ wordT 2048 ++ t)) ∧ Below w.heap.size w w' := by
  have HW : Hid ((w.alloc (.cells #[.int .i64 v, .string t] 108)).cell? ⟨w.heap.size, 0, none⟩ = some (.int .i64 v) ∧ (w.alloc (.cells #[.int .i64 v, .string t] 108)).cell? ⟨w.heap.size, 1, none⟩ = some (.string t)) := TwoAt.new w _ _ _
  go_enter Tryz.func46, Tryz.ntmps46
  go_wp2_with fail
  have hGN : (([(2, Is (.string (zerosT 12 ++ wordT 33024 ++ wordT v ++ wordT 2048 ++ t))), (3, fun x W => ∃ g, x = .slice (some ⟨g, 0, none⟩) 12 12 ∧ RowB W g 5 (List.replicate 12 0)), (4, Is (.string (zerosT 12))), (5, Is (.string (wordT 33024))), (6, Is (.string (zerosT 12 ++ wordT 33024))), (7, Is (.pointer (some ⟨w.heap.size, 0, none⟩))), (8, Is (.int .i64 v)), (9, Is (.string (wordT v))), (10, Is (.string (zerosT 12 ++ wordT 33024 ++ wordT v))), (11, Is (.string (wordT 2048))), (12, Is (.string (zerosT 12 ++ wordT 33024 ++ wordT v ++ wordT 2048))), (13, Is (.pointer (some ⟨w.heap.size, 1, none⟩))), (14, Is (.string t)), (15, Is (.string (zerosT 12 ++ wordT 33024 ++ wordT v ++ wordT 2048 ++ t)))] : List (Nat × (Value → World → Prop))).map (·.1)).Nodup := by simp
  refine wp_region_steady 14 (SlotG [(2, Is (.string (zerosT 12 ++ wordT 33024 ++ wordT v ++ wordT 2048 ++ t))), (3, fun x W => ∃ g, x = .slice (some ⟨g, 0, none⟩) 12 12 ∧ RowB W g 5 (List.replicate 12 0)), (4, Is (.string (zerosT 12))), (5, Is (.string (wordT 33024))), (6, Is (.string (zerosT 12 ++ wordT 33024))), (7, Is (.pointer (some ⟨w.heap.size, 0, none⟩))), (8, Is (.int .i64 v)), (9, Is (.string (wordT v))), (10, Is (.string (zerosT 12 ++ wordT 33024 ++ wordT v))), (11, Is (.string (wordT 2048))), (12, Is (.string (zerosT 12 ++ wordT 33024 ++ wordT v ++ wordT 2048))), (13, Is (.pointer (some ⟨w.heap.size, 1, none⟩))), (14, Is (.string t)), (15, Is (.string (zerosT 12 ++ wordT 33024 ++ wordT v ++ wordT 2048 ++ t)))]) (by kernel_rfl) (by kernel_rfl) (Stabs.all ⟨stab_is _, stab_rowB 12 (List.replicate 12 0), stab_is _, stab_is _, stab_is _, stab_is _, stab_is _, stab_is _, stab_is _, stab_is _, stab_is _, stab_is _, stab_is _, stab_is _, trivial⟩) ?_ ?_
  · intro o ho
    simp only [List.take_succ_cons, List.take_zero, List.mem_cons, List.not_mem_nil, or_false] at ho
    rcases ho with rfl | rfl | rfl | rfl | rfl | rfl | rfl | rfl | rfl | rfl | rfl | rfl | rfl | rfl
    · intro a' w' hb ha hdep
      have hmk := fun (x : Value) (W : World) => SlotG.mk (x := x) (w := W) 1 rfl hGN
      clear hGN ha hdep
      obtain ⟨w2, hrun, hr2, hb2⟩ := make_bytes_run w' 12 (by omega)
      rw [show ((12 : Nat) : Int) = 12 from rfl] at hrun
      go_simp
      exact ⟨_, rfl, hmk _ _ ⟨w'.heap.size, rfl, hr2⟩⟩
    · intro a' w' hb ha hdep
      have D3 := (hdep 3 (of_decide_eq_true (by kernel_rfl))).get 1 rfl
      have hmk := fun (x : Value) (W : World) => SlotG.mk (x := x) (w := W) 2 rfl hGN
      clear hGN ha hdep
      obtain ⟨g, d3, hr3⟩ := D3
      have hconv := hr3.conv (zerosT 12) (by simp [zerosT]) (n := 12) rfl (by omega)
      go_simp
      exact ⟨_, rfl, Below.refl _ _, hmk _ _ rfl⟩
    · intro a' w' hb ha hdep
      have hmk := fun (x : Value) (W : World) => SlotG.mk (x := x) (w := W) 3 rfl hGN
      clear hGN ha hdep
      go_simp
      refine (specWord_any 33024 _ (by omega) (by omega)).mono ?_
      rintro e w2 ⟨rfl, hb2⟩
      exact ⟨_, rfl, hb2, hmk _ _ rfl⟩
    · intro a' w' hb ha hdep
      have d4 : a'.tmps.getD 4 undef = .string (zerosT 12) := (hdep 4 (of_decide_eq_true (by kernel_rfl))).is 2 rfl
      have d5 : a'.tmps.getD 5 undef = .string (wordT 33024) := (hdep 5 (of_decide_eq_true (by kernel_rfl))).is 3 rfl
      have hmk := fun (x : Value) (W : World) => SlotG.mk (x := x) (w := W) 4 rfl hGN
      clear hGN ha hdep
      have hs : ¬ 9223372036854775807 < (zerosT 12).size + (wordT 33024).size := by simp only [wordT_size, zerosT_size]; omega
      go_simp
      exact ⟨_, rfl, Below.refl _ _, hmk _ _ rfl⟩
    · intro a' w' hb ha hdep
      have d1 : a'.tmps.getD 1 undef = .pointer (some ⟨w.heap.size, 0, none⟩) := ha.at 1 (by kernel_rfl)
      have hmk := fun (x : Value) (W : World) => SlotG.mk (x := x) (w := W) 5 rfl hGN
      clear hGN ha hdep
      go_simp
      exact ⟨_, rfl, Below.refl _ _, hmk _ _ rfl⟩
    · intro a' w' hb ha hdep
      have d7 : a'.tmps.getD 7 undef = .pointer (some ⟨w.heap.size, 0, none⟩) := (hdep 7 (of_decide_eq_true (by kernel_rfl))).is 5 rfl
      have hmk := fun (x : Value) (W : World) => SlotG.mk (x := x) (w := W) 6 rfl hGN
      clear hGN ha hdep
      have c : w'.cell? ⟨w.heap.size, 0, none⟩ = some (.int .i64 v) := by rw [hb.cell (p := ⟨w.heap.size, 0, none⟩) (by simp)]; exact HW.out.1
      go_simp
      exact ⟨_, rfl, Below.refl _ _, hmk _ _ rfl⟩
    · intro a' w' hb ha hdep
      have d8 : a'.tmps.getD 8 undef = .int .i64 v := (hdep 8 (of_decide_eq_true (by kernel_rfl))).is 6 rfl
      have hmk := fun (x : Value) (W : World) => SlotG.mk (x := x) (w := W) 7 rfl hGN
      clear hGN ha hdep
      go_simp
      refine (specWord_any v _ (by omega) (by omega)).mono ?_
      rintro e w2 ⟨rfl, hb2⟩
      exact ⟨_, rfl, hb2, hmk _ _ rfl⟩
    · intro a' w' hb ha hdep
      have d6 : a'.tmps.getD 6 undef = .string (zerosT 12 ++ wordT 33024) := (hdep 6 (of_decide_eq_true (by kernel_rfl))).is 4 rfl
      have d9 : a'.tmps.getD 9 undef = .string (wordT v) := (hdep 9 (of_decide_eq_true (by kernel_rfl))).is 7 rfl
      have hmk := fun (x : Value) (W : World) => SlotG.mk (x := x) (w := W) 8 rfl hGN
      clear hGN ha hdep
      have hs : ¬ 9223372036854775807 < (zerosT 12).size + (wordT 33024).size + (wordT v).size := by simp only [wordT_size, zerosT_size]; omega
      go_simp
      exact ⟨_, rfl, Below.refl _ _, hmk _ _ rfl⟩
    · intro a' w' hb ha hdep
      have hmk := fun (x : Value) (W : World) => SlotG.mk (x := x) (w := W) 9 rfl hGN
      clear hGN ha hdep
      go_simp
      refine (specWord_any 2048 _ (by omega) (by omega)).mono ?_
      rintro e w2 ⟨rfl, hb2⟩
      exact ⟨_, rfl, hb2, hmk _ _ rfl⟩
    · intro a' w' hb ha hdep
      have d10 : a'.tmps.getD 10 undef = .string (zerosT 12 ++ wordT 33024 ++ wordT v) := (hdep 10 (of_decide_eq_true (by kernel_rfl))).is 8 rfl
      have d11 : a'.tmps.getD 11 undef = .string (wordT 2048) := (hdep 11 (of_decide_eq_true (by kernel_rfl))).is 9 rfl
      have hmk := fun (x : Value) (W : World) => SlotG.mk (x := x) (w := W) 10 rfl hGN
      clear hGN ha hdep
      have hs : ¬ 9223372036854775807 < (zerosT 12).size + (wordT 33024).size + (wordT v).size + (wordT 2048).size := by simp only [wordT_size, zerosT_size]; omega
      go_simp
      exact ⟨_, rfl, Below.refl _ _, hmk _ _ rfl⟩
    · intro a' w' hb ha hdep
      have d1 : a'.tmps.getD 1 undef = .pointer (some ⟨w.heap.size, 0, none⟩) := ha.at 1 (by kernel_rfl)
      have hmk := fun (x : Value) (W : World) => SlotG.mk (x := x) (w := W) 11 rfl hGN
      clear hGN ha hdep
      go_simp
      exact ⟨_, rfl, Below.refl _ _, hmk _ _ rfl⟩
    · intro a' w' hb ha hdep
      have d13 : a'.tmps.getD 13 undef = .pointer (some ⟨w.heap.size, 1, none⟩) := (hdep 13 (of_decide_eq_true (by kernel_rfl))).is 11 rfl
      have hmk := fun (x : Value) (W : World) => SlotG.mk (x := x) (w := W) 12 rfl hGN
      clear hGN ha hdep
      have c : w'.cell? ⟨w.heap.size, 1, none⟩ = some (.string t) := by rw [hb.cell (p := ⟨w.heap.size, 1, none⟩) (by simp)]; exact HW.out.2
      go_simp
      exact ⟨_, rfl, Below.refl _ _, hmk _ _ rfl⟩
    · intro a' w' hb ha hdep
      have d12 : a'.tmps.getD 12 undef = .string (zerosT 12 ++ wordT 33024 ++ wordT v ++ wordT 2048) := (hdep 12 (of_decide_eq_true (by kernel_rfl))).is 10 rfl
      have d14 : a'.tmps.getD 14 undef = .string t := (hdep 14 (of_decide_eq_true (by kernel_rfl))).is 12 rfl
      have hmk := fun (x : Value) (W : World) => SlotG.mk (x := x) (w := W) 13 rfl hGN
      clear hGN ha hdep
      have hs : ¬ 9223372036854775807 < (zerosT 12).size + (wordT 33024).size + (wordT v).size + (wordT 2048).size + (t).size := by simp only [wordT_size, zerosT_size]; omega
      go_simp
      exact ⟨_, rfl, Below.refl _ _, hmk _ _ rfl⟩
    · intro a' w' hb ha hdep
      have d15 : a'.tmps.getD 15 undef = .string (zerosT 12 ++ wordT 33024 ++ wordT v ++ wordT 2048 ++ t) := (hdep 15 (of_decide_eq_true (by kernel_rfl))).is 13 rfl
      have hmk := fun (x : Value) (W : World) => SlotG.mk (x := x) (w := W) 0 rfl hGN
      clear hGN ha hdep
      go_simp
      exact ⟨_, rfl, Below.refl _ _, hmk _ _ rfl⟩
  · intro a' w' hb ha hG
    clear hGN
    have d2 : a'.tmps.getD 2 undef = .string (zerosT 12 ++ wordT 33024 ++ wordT v ++ wordT 2048 ++ t) := (hG _ (List.mem_of_getElem? (i := 13) rfl) 2 rfl).is 0 rfl
    simp only [List.drop_succ_cons, List.drop_zero]
    have hB := (new_below w (.cells #[.int .i64 v, .string t] 108)).trans (hb.mono (by simp))
    obtain ⟨T, D⟩ := a'
    obtain rfl : D = [] := ha.2.1
    clear hb hG ha
    go_wp2
    go_ret
    exact ⟨congrArg Ending.returned d2, hB⟩
/-- FrameBytes. -/
def frT (v : Int) (t : ByteArray) : ByteArray := ⟨(frL v t.data.toList).toArray⟩
theorem frT_eq (v : Int) (t : ByteArray) : zerosT 12 ++ wordT 33024 ++ wordT v ++ wordT 2048 ++ t = frT v t := by
  apply ByteArray.ext
  apply Array.toList_inj.1
  have e0 : wordL 0 = [0, 0] := rfl
  simp [zerosT, wordT, frT, frL, wordsL, e0, List.replicate]
def frO (v : Int) (t : ByteArray) : ByteArray := if frB v t.size then frT v t else ByteArray.empty
theorem frO_in (v : Int) (t : ByteArray) (h : frB v t.size = true) : frO v t = frT v t := if_pos h
theorem frO_out (v : Int) (t : ByteArray) (h : ¬ frB v t.size = true) : frO v t = ByteArray.empty := if_neg h
theorem frB_spec {v : Int} {n : Nat} (h : frB v n = true) : 1 ≤ v ∧ v ≤ 4094 ∧ n ≤ 1000 := of_decide_eq_true h
end Go.Proofs.YtialedffpaoacaaGreatDoor
/- The sum of words, of the program. -/
namespace Go.Proofs.YtialedffpaoacaaGreatDoor
open Go.RowKit

set_option maxRecDepth 100000 in
theorem sumOf_any (l : List UInt8) (g o cap : Nat) (w : World) (hl : l.length ≤ 1000000) (hB : BytesIn w g o l) :
    Calls Tryz.prog 152 #[.slice (some ⟨g, o, none⟩) l.length cap] w fun e w' => e = .returned (.int .i64 (sumN l : Int)) ∧ w = w' := by
  have hR := ra_le true l
  have HR : Hid (ra true l ≤ 65280 * l.length) := hR
  have HS : Hid (sumN l = 65535 - foldN (ra true l)) := rfl
  have H0 : Hid (ra true (l.drop 0) = ra true l) := rfl
  have HE : Hid (∀ b, ra b (l.drop l.length) = 0) := fun b => by show _ = _; rw [List.drop_length, ra_nil]
  have HN : Hid (∀ i, (h : i < l.length) → ∀ b : Bool, ra b (l.drop i) = (if b then 256 * l[i].toNat else l[i].toNat) + ra (!b) (l.drop (i + 1))) := ra_at l
  clear hR
  generalize sumN l = S at *
  generalize ra true l = R at *
  generalize hf : (fun b k => ra b (l.drop k)) = f
  have e : ∀ b k, ra b (l.drop k) = f b k := fun b k => by rw [← hf]
  simp only [e] at H0 HE HN
  clear e hf
  go_enter Tryz.func152, Tryz.ntmps152
  go_wp2_with fail
  go_loop [3, 8] (fun v i => ∃ k n : Nat, k ≤ l.length ∧ i = .int .i64 (k : Int) ∧ v = .int .i64 (n : Int) ∧ Hid (n + f (k % 2 == 0) k = R)) (fun _ i => l.length - (intOf i).toNat)
  case atStart => exact ⟨0, 0, by omega, rfl, rfl, by show _ = _; rw [Nat.zero_add]; exact H0.out⟩
  case round =>
    obtain ⟨k, n, hk, rfl, rfl, hn⟩ := hrel
    by_cases hlt : k < l.length
    · have hc1 := hB k hlt
      have hb := l[k].toNat_lt
      have hnR : n ≤ R := by have := hn.out; omega
      have hRl := HR.out
      have hw1 := wrap_i64_in ((n : Int) + (l[k].toNat : Int) * 256) (by omega) (by omega)
      have hw2 := wrap_i64_in ((n : Int) + (l[k].toNat : Int)) (by omega) (by omega)
      have hNx : Hid (∀ b : Bool, f b k = (if b then 256 * l[k].toNat else l[k].toNat) + f (!b) (k + 1)) := HN.out k hlt
      generalize l[k].toNat = c at *
      by_cases hev : k % 2 = 0
      · have e1 : ((k : Int).tmod 2 == 0) = true := by rw [Int.tmod_eq_emod_of_nonneg (by omega)]; simp; omega
        have hst : Hid (n + 256 * c + f false (k + 1) = R) := by
          have h1 := hn.out
          have h2 := hNx.out true
          rw [show (k % 2 == 0) = true by simpa using hev, h2] at h1
          simp at h1
          show _ = _
          omega
        clear hNx hn
        go_wp2
        go_round
        case rel => exact ⟨k + 1, n + 256 * c, by omega, by go_num, by go_num, by rw [show ((k + 1) % 2 == 0) = false by simp; omega]; exact hst⟩
        case measure => simp [intOf]; omega
      · have e1 : ((k : Int).tmod 2 == 0) = false := by rw [Int.tmod_eq_emod_of_nonneg (by omega)]; simp; omega
        have hst : Hid (n + c + f true (k + 1) = R) := by
          have h1 := hn.out
          have h2 := hNx.out false
          rw [show (k % 2 == 0) = false by simpa using hev, h2] at h1
          simp at h1
          show _ = _
          omega
        clear hNx hn
        go_wp2
        go_round
        case rel => exact ⟨k + 1, n + c, by omega, by go_num, by go_num, by rw [show ((k + 1) % 2 == 0) = true by simp; omega]; exact hst⟩
        case measure => simp [intOf]; omega
    · obtain rfl : k = l.length := by omega
      have hnR : n = R := by have := hn.out; rw [HE.out] at this; omega
      subst hnR
      have hRl := HR.out
      clear hn HN H0 HE HR hB
      generalize hD : foldN n = D at *
      have HD : Hid (foldN n = D) := hD
      clear hD
      go_wp2_with fail
      go_loop [3] (fun v => ∃ m : Nat, m ≤ n ∧ v = .int .i64 (m : Int) ∧ Hid (foldN m = D)) (fun v => (intOf v).toNat)
      case atStart => exact ⟨n, Nat.le_refl _, rfl, HD⟩
      case round =>
        obtain ⟨m, hm, rfl, hD⟩ := hrel
        by_cases hbig : 65535 < m
        · have hst : Hid (foldN (m / 65536 + m % 65536) = D) := by show _ = _; rw [foldN_step m hbig]; exact hD.out
          have HA : Hid _ := and_word m (by omega)
          have hA := and_word m (by omega)
          have hw1 := wrap_i64_in ((m : Int) / 65536 + ((m % 65536 : Nat) : Int)) (by omega) (by omega)
          clear hD
          go_wp2
          go_round
          case rel => exact ⟨m / 65536 + m % 65536, by omega, by go_num, hst⟩
          case measure => simp [intOf]; omega
        · have hmD : m = D := by have := hD.out; rw [foldN_small m (by omega)] at this; exact this
          subst hmD
          have hS : ((S : Nat) : Int) = 65535 - (m : Int) := by have := HS.out; omega
          have HF : Hid _ := hS
          clear hS
          go_wp2
          go_ret
          exact ⟨ret_i64 HF.out.symm, rfl⟩
end Go.Proofs.YtialedffpaoacaaGreatDoor
