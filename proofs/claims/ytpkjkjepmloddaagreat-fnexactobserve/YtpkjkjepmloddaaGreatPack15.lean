/- Texts that stand on each other, in one file: PutA, RPutI, ObsI. -/
import Derived.Test.YtpkjkjepmloddaaGreatPack7
import Derived.Test.YtpkjkjepmloddaaGreatPack12
import Derived.Test.YtpkjkjepmloddaaGreatPack6
import Derived.Test.YtpkjkjepmloddaaGreatPack13
import Derived.Deep.RegionWith
/- The bytes of numbers in a row, of the program: putAll. -/
namespace Go.Proofs.YtpkjkjepmloddaaGreat
open Go.RowKit

def allL (ns : List Int) : List UInt8 := ns.flatMap putNumB
def allT (ns : List Int) : ByteArray := ⟨(allL ns).toArray⟩
def rowN64 (ns : List Int) : List Value := ns.map (fun n => .int .i64 n)
theorem allL_snoc {ns : List Int} {k : Nat} (h : k < ns.length) : allL (ns.take (k + 1)) = allL (ns.take k) ++ putNumB ns[k] := by
  unfold allL
  rw [List.take_succ_eq_append_getElem h, List.flatMap_append, List.flatMap_singleton]
theorem allL_size : ∀ ns : List Int, (allL ns).length ≤ 10 * ns.length
  | [] => by simp [allL]
  | n :: ns => by
    have h := allL_size ns
    have h1 := numT_size n
    unfold numT at h1
    simp only [List.size_toArray, ByteArray.size] at h1
    simp only [allL, List.flatMap_cons, List.length_append, List.length_cons] at h ⊢
    omega
theorem allL_ne {ns : List Int} (h : ns ≠ []) : allL ns ≠ [] := by
  cases ns with
  | nil => exact absurd rfl h
  | cons n ns =>
    have h1 := (putNumB_size n).2
    simp only [List.size_toArray, ByteArray.size] at h1
    intro e
    simp only [allL, List.flatMap_cons, List.append_eq_nil_iff] at e
    rw [e.1] at h1
    simp at h1
theorem toL_append (a b : ByteArray) : (a ++ b).data.toList = a.data.toList ++ b.data.toList := by
  rw [ByteArray.data_append, Array.toList_append]
/-- A Builder that a call made in the world W, its bytes l. -/
def Bat (W wr : World) (l : List UInt8) : Prop := Bld wr W.heap.size W.heap.size l ∧ Below W.heap.size W wr
theorem Bat.new (W : World) : Bat W (W.alloc (.cells #[.pointer none, .slice none 0 0] 86)) [] := ⟨Bld.new W, ent_new0 W _⟩
theorem Bat.call {W wr wr' : World} {l : List UInt8} (h : Bat W wr l) (hb : Below wr.heap.size wr wr') : Bat W wr' l := ⟨h.1.below hb, h.2.trans (hb.mono h.2.size)⟩
theorem Bat.alloc {W wr : World} {l : List UInt8} (h : Bat W wr l) (o : Obj) : Bat W (wr.alloc o) l := h.call (ent_new0 wr o)
theorem Bat.put {W wr wr' : World} {l l' : List UInt8} (h : Bat W wr l) (h1 : Bld wr' W.heap.size W.heap.size l') (hb : Below W.heap.size wr wr') : Bat W wr' l' := ⟨h1, h.2.trans hb⟩
theorem Bat.write {W wr : World} {l : List UInt8} (h : Bat W wr l) (t : ByteArray) (hlen : l.length + t.size ≤ 100000000) :
    Calls Tryz.prog 41 #[.pointer (some ⟨W.heap.size, 0, none⟩), .string t] wr fun e w' => (∃ v, e = .returned v) ∧ Bat W w' (l ++ t.data.toList) := by
  refine (writeString_any W.heap.size W.heap.size l t wr h.1 hlen h.2.size).mono ?_
  rintro e w' ⟨h1, h2, h3⟩
  exact ⟨h1, h.put h2 h3⟩
set_option maxRecDepth 100000 in
set_option maxHeartbeats 4000000 in
theorem putAll_any (g : Nat) (ns : List Int) (cap : Nat) (w : World) (h : Row w g 2 (rowN64 ns)) (hi : ∀ n ∈ ns, In64 n) (h0 : ns ≠ []) (hl : ns.length ≤ 100) :
    Calls Tryz.prog 42 #[.slice (some ⟨g, 0, none⟩) ns.length cap] w fun e w' => e = .returned (.string (allT ns)) ∧ Below w.heap.size w w' := by
  have hgl := h.lt
  have HG : Hid _ := And.intro h hgl
  have HI : Hid (∀ n, In64 n → ∀ w, Calls Tryz.prog 63 #[.int .i64 n] w fun e w' => e = .returned (.string (numT n)) ∧ Below w.heap.size w w') := fun n hn w => implPutNum_any n w hn.1 hn.2
  have HB : Hid (Bat w (w.alloc (.cells #[.pointer none, .slice none 0 0] 86)) []) := Bat.new w
  have HE : Hid (∀ n ∈ ns, In64 n) := hi
  clear h hi
  go_enter Tryz.func42, Tryz.ntmps42
  go_wp2_with fail
  go_loopw [8] (fun i wr => ∃ k : Nat, k ≤ ns.length ∧ i = .int .i64 k ∧ Bat w wr (allL (ns.take k))) (fun i _ => ns.length - (intOf i).toNat)
  case atStart => exact ⟨0, Nat.zero_le _, rfl, HB.out⟩
  case round =>
    clear HB
    obtain ⟨k, hk, rfl, hB⟩ := hrel
    by_cases hlt : k < ns.length
    · have dk : decide ((k : Int) < (ns.length : Int)) = true := by simpa using hlt
      have c0 : wr.cell? ⟨g, k, none⟩ = some (.int .i64 ns[k]) := by
        rw [(HG.out.1.below hB.2 HG.out.2).cell k]
        simp [rowN64, hlt]
      have HN : Hid (allL (ns.take (k + 1)) = allL (ns.take k) ++ putNumB ns[k]) := allL_snoc hlt
      have hs := allL_size (ns.take k)
      have hs2 := numT_size ns[k]
      rw [List.length_take] at hs
      have HP := HI.out ns[k] (HE.out _ (List.getElem_mem hlt))
      have HPN : Hid (∀ w, Calls Tryz.prog 63 #[.int .i64 ns[k]] w fun e w' => e = .returned (.string (numT ns[k])) ∧ Below w.heap.size w w') := HP
      have HK : Hid (Bat w wr (allL (ns.take k))) := hB
      clear HP hB
      generalize hnk : ns[k] = nk at *
      clear hnk
      go_wp2_with fail
      refine (HPN.out _).mono ?_
      rintro e w1 ⟨rfl, hb1⟩
      have hW := (HK.out.call hb1).write (numT nk) (by omega)
      have HW : Hid (Calls Tryz.prog 41 #[.pointer (some ⟨w.heap.size, 0, none⟩), .string (numT nk)] w1 fun e w' => (∃ v, e = .returned v) ∧ Bat w w' (allL (ns.take k) ++ (numT nk).data.toList)) := hW
      clear hW hb1 HK HPN c0
      go_wp2_with fail
      refine HW.out.mono ?_
      rintro e w2 ⟨⟨v, rfl⟩, hB⟩
      have HK : Hid (Bat w w2 (allL (ns.take k) ++ (numT nk).data.toList)) := hB
      clear hB HW
      go_wp2_with fail
      go_roundw
      case rel => exact ⟨k + 1, hlt, by go_num, by rw [HN.out]; exact HK.out⟩
      case measure => simp [intOf]; omega
    · have dk : decide ((k : Int) < (ns.length : Int)) = false := by simpa using hlt
      obtain rfl : k = ns.length := by omega
      rw [List.take_length] at hB
      have HS : Hid (Calls Tryz.prog 45 #[.pointer (some ⟨w.heap.size, 0, none⟩)] wr fun e w' => e = .returned (.string ⟨(allL ns).toArray⟩) ∧ Below w.heap.size wr w') := bldString_any w.heap.size w.heap.size (allL ns) wr hB.1 (allL_ne h0)
      have HB2 : Hid (Below w.heap.size w wr) := hB.2
      clear hB
      go_wp2_with fail
      refine HS.out.mono ?_
      rintro e w1 ⟨rfl, hb1⟩
      have HF : Hid (Below w.heap.size w w1) := HB2.out.trans hb1
      clear HS HB2 hb1
      go_wp2
      go_ret
      exact ⟨rfl, HF.out⟩
end Go.Proofs.YtpkjkjepmloddaaGreat
/- The bytes of a Route, of the program. -/
namespace Go.Proofs.YtpkjkjepmloddaaGreat
open Go.RowKit Go.Sort

set_option maxRecDepth 100000 in
set_option maxHeartbeats 8000000 in
theorem implRt_any (r : Rt) (w : World) (hI : RtI r) : Calls Tryz.prog 43 #[rtV r] w fun e w' => e = .returned (.string (rtT r)) ∧ Below w.heap.size w w' := by
  obtain ⟨a, l, m, n0, i, t, u, b, c⟩ := r
  unfold rtV rtA
  unfold RtI at hI
  simp only at hI ⊢
  cases c
  · have HR : Hid (allT [a, l, m, n0, i, t, u, b, 0] = rtT ⟨a, l, m, n0, i, t, u, b, false⟩) := by
      show allT _ = rtT _
      refine ByteArray.ext (Array.ext' ?_)
      simp [allT, allL, rtT, numT, chgI]
    have hP := putAll_any (w.alloc (.cells #[.int .i64 a, .int .i64 l, .int .i64 m, .int .i64 n0, .int .i64 i, .int .i64 t, .int .i64 u, .int .i64 b, .bool false] 77)).heap.size [a, l, m, n0, i, t, u, b, 0] 9 ((w.alloc (.cells #[.int .i64 a, .int .i64 l, .int .i64 m, .int .i64 n0, .int .i64 i, .int .i64 t, .int .i64 u, .int .i64 b, .bool false] 77)).alloc (.cells #[.int .i64 a, .int .i64 l, .int .i64 m, .int .i64 n0, .int .i64 i, .int .i64 t, .int .i64 u, .int .i64 b, .int .i64 0] 2)) (Row.new (w.alloc (.cells #[.int .i64 a, .int .i64 l, .int .i64 m, .int .i64 n0, .int .i64 i, .int .i64 t, .int .i64 u, .int .i64 b, .bool false] 77)) 2 (rowN64 [a, l, m, n0, i, t, u, b, 0])) (by
        obtain ⟨h0, h1, h2, h3, h4, h5, h6, h7⟩ := hI
        intro n hn
        simp only [List.mem_cons, List.not_mem_nil, or_false] at hn
        rcases hn with rfl | rfl | rfl | rfl | rfl | rfl | rfl | rfl | rfl
        · exact h0
        · exact h1
        · exact h2
        · exact h3
        · exact h4
        · exact h5
        · exact h6
        · exact h7
        · unfold In64; omega) (by simp) (by simp)
    have hz : (w.alloc (.cells #[.int .i64 a, .int .i64 l, .int .i64 m, .int .i64 n0, .int .i64 i, .int .i64 t, .int .i64 u, .int .i64 b, .bool false] 77)).heap.size = w.heap.size + 1 := by simp
    rw [hz] at hP
    have HP : Hid (Calls Tryz.prog 42 #[.slice (some ⟨w.heap.size + 1, 0, none⟩) 9 9] ((w.alloc (.cells #[.int .i64 a, .int .i64 l, .int .i64 m, .int .i64 n0, .int .i64 i, .int .i64 t, .int .i64 u, .int .i64 b, .bool false] 77)).alloc (.cells #[.int .i64 a, .int .i64 l, .int .i64 m, .int .i64 n0, .int .i64 i, .int .i64 t, .int .i64 u, .int .i64 b, .int .i64 0] 2)) fun e w' => e = .returned (.string (allT [a, l, m, n0, i, t, u, b, 0])) ∧ Below ((w.alloc (.cells #[.int .i64 a, .int .i64 l, .int .i64 m, .int .i64 n0, .int .i64 i, .int .i64 t, .int .i64 u, .int .i64 b, .bool false] 77)).alloc (.cells #[.int .i64 a, .int .i64 l, .int .i64 m, .int .i64 n0, .int .i64 i, .int .i64 t, .int .i64 u, .int .i64 b, .int .i64 0] 2)).heap.size ((w.alloc (.cells #[.int .i64 a, .int .i64 l, .int .i64 m, .int .i64 n0, .int .i64 i, .int .i64 t, .int .i64 u, .int .i64 b, .bool false] 77)).alloc (.cells #[.int .i64 a, .int .i64 l, .int .i64 m, .int .i64 n0, .int .i64 i, .int .i64 t, .int .i64 u, .int .i64 b, .int .i64 0] 2)) w') := hP
    have HB : Hid (Below w.heap.size w ((w.alloc (.cells #[.int .i64 a, .int .i64 l, .int .i64 m, .int .i64 n0, .int .i64 i, .int .i64 t, .int .i64 u, .int .i64 b, .bool false] 77)).alloc (.cells #[.int .i64 a, .int .i64 l, .int .i64 m, .int .i64 n0, .int .i64 i, .int .i64 t, .int .i64 u, .int .i64 b, .int .i64 0] 2))) := (ent_new0 w _).alloc (by simp) _
    clear hI hP hz
    go_enter Tryz.func43, Tryz.ntmps43
    go_wp2_with fail
    refine HP.out.mono ?_
    rintro e w1 ⟨rfl, hb1⟩
    have HF : Hid (Below w.heap.size w w1) := HB.out.trans (hb1.mono HB.out.size)
    rw [HR.out]
    clear HP hb1 HB HR
    go_wp2
    go_ret
    exact ⟨rfl, HF.out⟩
  · have HR : Hid (allT [a, l, m, n0, i, t, u, b, 1] = rtT ⟨a, l, m, n0, i, t, u, b, true⟩) := by
      show allT _ = rtT _
      refine ByteArray.ext (Array.ext' ?_)
      simp [allT, allL, rtT, numT, chgI]
    have hP := putAll_any (w.alloc (.cells #[.int .i64 a, .int .i64 l, .int .i64 m, .int .i64 n0, .int .i64 i, .int .i64 t, .int .i64 u, .int .i64 b, .bool true] 77)).heap.size [a, l, m, n0, i, t, u, b, 1] 9 ((w.alloc (.cells #[.int .i64 a, .int .i64 l, .int .i64 m, .int .i64 n0, .int .i64 i, .int .i64 t, .int .i64 u, .int .i64 b, .bool true] 77)).alloc (.cells #[.int .i64 a, .int .i64 l, .int .i64 m, .int .i64 n0, .int .i64 i, .int .i64 t, .int .i64 u, .int .i64 b, .int .i64 1] 2)) (Row.new (w.alloc (.cells #[.int .i64 a, .int .i64 l, .int .i64 m, .int .i64 n0, .int .i64 i, .int .i64 t, .int .i64 u, .int .i64 b, .bool true] 77)) 2 (rowN64 [a, l, m, n0, i, t, u, b, 1])) (by
        obtain ⟨h0, h1, h2, h3, h4, h5, h6, h7⟩ := hI
        intro n hn
        simp only [List.mem_cons, List.not_mem_nil, or_false] at hn
        rcases hn with rfl | rfl | rfl | rfl | rfl | rfl | rfl | rfl | rfl
        · exact h0
        · exact h1
        · exact h2
        · exact h3
        · exact h4
        · exact h5
        · exact h6
        · exact h7
        · unfold In64; omega) (by simp) (by simp)
    have hz : (w.alloc (.cells #[.int .i64 a, .int .i64 l, .int .i64 m, .int .i64 n0, .int .i64 i, .int .i64 t, .int .i64 u, .int .i64 b, .bool true] 77)).heap.size = w.heap.size + 1 := by simp
    rw [hz] at hP
    have HP : Hid (Calls Tryz.prog 42 #[.slice (some ⟨w.heap.size + 1, 0, none⟩) 9 9] ((w.alloc (.cells #[.int .i64 a, .int .i64 l, .int .i64 m, .int .i64 n0, .int .i64 i, .int .i64 t, .int .i64 u, .int .i64 b, .bool true] 77)).alloc (.cells #[.int .i64 a, .int .i64 l, .int .i64 m, .int .i64 n0, .int .i64 i, .int .i64 t, .int .i64 u, .int .i64 b, .int .i64 1] 2)) fun e w' => e = .returned (.string (allT [a, l, m, n0, i, t, u, b, 1])) ∧ Below ((w.alloc (.cells #[.int .i64 a, .int .i64 l, .int .i64 m, .int .i64 n0, .int .i64 i, .int .i64 t, .int .i64 u, .int .i64 b, .bool true] 77)).alloc (.cells #[.int .i64 a, .int .i64 l, .int .i64 m, .int .i64 n0, .int .i64 i, .int .i64 t, .int .i64 u, .int .i64 b, .int .i64 1] 2)).heap.size ((w.alloc (.cells #[.int .i64 a, .int .i64 l, .int .i64 m, .int .i64 n0, .int .i64 i, .int .i64 t, .int .i64 u, .int .i64 b, .bool true] 77)).alloc (.cells #[.int .i64 a, .int .i64 l, .int .i64 m, .int .i64 n0, .int .i64 i, .int .i64 t, .int .i64 u, .int .i64 b, .int .i64 1] 2)) w') := hP
    have HB : Hid (Below w.heap.size w ((w.alloc (.cells #[.int .i64 a, .int .i64 l, .int .i64 m, .int .i64 n0, .int .i64 i, .int .i64 t, .int .i64 u, .int .i64 b, .bool true] 77)).alloc (.cells #[.int .i64 a, .int .i64 l, .int .i64 m, .int .i64 n0, .int .i64 i, .int .i64 t, .int .i64 u, .int .i64 b, .int .i64 1] 2))) := (ent_new0 w _).alloc (by simp) _
    clear hI hP hz
    go_enter Tryz.func43, Tryz.ntmps43
    go_wp2_with fail
    refine HP.out.mono ?_
    rintro e w1 ⟨rfl, hb1⟩
    have HF : Hid (Below w.heap.size w w1) := HB.out.trans (hb1.mono HB.out.size)
    rw [HR.out]
    clear HP hb1 HB HR
    go_wp2
    go_ret
    exact ⟨rfl, HF.out⟩
end Go.Proofs.YtpkjkjepmloddaaGreat
/- Observe of the program. (Written by gen_obsi.py.) -/
namespace Go.Proofs.YtpkjkjepmloddaaGreat
open Go.RowKit Go.Sort

/-- A Builder that a call made in the world W, its text t. -/
def BatT (W wr : World) (t : ByteArray) : Prop := Bat W wr t.data.toList
theorem BatT.call {W wr wr' : World} {l : ByteArray} (h : BatT W wr l) (hb : Below wr.heap.size wr wr') : BatT W wr' l := Bat.call h hb
theorem BatT.alloc {W wr : World} {l : ByteArray} (h : BatT W wr l) (o : Obj) : BatT W (wr.alloc o) l := Bat.alloc h o
theorem BatT.low {W wr : World} {l : ByteArray} (h : BatT W wr l) : Below W.heap.size W wr := h.2
theorem BatT.write {W : World} {b : Nat} (hb : W.heap.size = b) (wr : World) (l t : ByteArray) (h : BatT W wr l) (hlen : l.size + t.size ≤ 100000000) :
    Calls Tryz.prog 41 #[.pointer (some ⟨b, 0, none⟩), .string t] wr fun e w' => (∃ v, e = .returned v) ∧ BatT W w' (l ++ t) := by
  subst hb
  refine (Bat.write h t (by simpa using hlen)).mono ?_
  rintro e w' ⟨h1, h2⟩
  refine ⟨h1, ?_⟩
  unfold BatT
  rw [toL_append]
  exact h2
theorem BatT.string {W : World} {b : Nat} (hb : W.heap.size = b) (wr : World) (l : ByteArray) (h : BatT W wr l) (h0 : 0 < l.size) :
    Calls Tryz.prog 45 #[.pointer (some ⟨b, 0, none⟩)] wr fun e w' => e = .returned (.string l) ∧ Below W.heap.size W w' := by
  subst hb
  refine (bldString_any W.heap.size W.heap.size l.data.toList wr h.1 ?_).mono ?_
  · intro e
    have : l.size = l.data.toList.length := by simp
    rw [e, List.length_nil] at this
    omega
  · rintro e w' ⟨rfl, h2⟩
    exact ⟨by simp, h.2.trans h2⟩
/-- And a Sent in a variable. -/
def SnB (W w' : World) (b : Nat) (fc : Int) (tx t : ByteArray) : Prop := BatT W w' t ∧ Row w' b 79 [.int .i64 fc, .string tx]
theorem SnB.call {W wr wr' : World} {b : Nat} {fc : Int} {tx l : ByteArray} (h : SnB W wr b fc tx l) (hb : Below wr.heap.size wr wr') : SnB W wr' b fc tx l := ⟨h.1.call hb, h.2.below hb h.2.lt⟩
theorem SnB.alloc {W wr : World} {b : Nat} {fc : Int} {tx l : ByteArray} (h : SnB W wr b fc tx l) (o : Obj) : SnB W (wr.alloc o) b fc tx l := h.call (ent_new0 wr o)
theorem SnB.drew {W wr : World} {b : Nat} {fc : Int} {tx l : ByteArray} (h : SnB W wr b fc tx l) : SnB W wr.drew b fc tx l := h.call (Below.drew (Below.refl _ wr))
theorem Row.newAt (w : World) (t : TypeId) (l : List Value) (g : Nat) (hg : g = w.heap.size) : Row (w.alloc (.cells l.toArray t (0, 0))) g t l := by
  subst hg
  exact Row.new w t l
theorem obsR_low (h : ByteArray) (rs : List Rt) : h.size ≤ (obsR h rs).size := by
  induction rs generalizing h with
  | nil => simp [obsR]
  | cons r rs ih =>
    have := ih (h ++ rtT r)
    rw [ByteArray.size_append] at this
    simp only [obsR, List.foldl_cons] at this ⊢
    omega
theorem obsS_low (h : ByteArray) (ss : List Sn) : h.size ≤ (obsS h ss).size := by
  induction ss generalizing h with
  | nil => simp [obsS]
  | cons s ss ih =>
    have := ih (h ++ numT s.fc ++ putTextB s.tx)
    rw [ByteArray.size_append, ByteArray.size_append] at this
    simp only [obsS, List.foldl_cons] at this ⊢
    omega
set_option maxRecDepth 100000 in
set_option maxHeartbeats 16000000 in
theorem implObs_any (p : Option Addr) (cap : Nat) (ps : List TnP) (pb : Option Addr) (cb : Nat) (l : List Bd) (pl : Option Addr) (cl : Nat) (ls : List Lk) (lost : Int) (n : Int) (w : World) (h : TensIn w p ps) (hb0 : BdsIn w pb l) (hk0 : LksIn w pl ls) (hn : ps.length ≤ 100000000) (hm : ∀ e ∈ ps, TnM e.2 ∧ TpC e.1 e.2) (hl : l.length ≤ 100000000) (hk : ls.length ≤ 100000000) :
    Calls Tryz.prog 15 #[.agg #[.slice p ps.length cap, .slice pb l.length cb, .slice pl ls.length cl, .int .i64 lost], .int .i64 n] w fun e w' => e = .returned (.string (obsO (ps.map (·.2)) l ls lost n)) ∧ Below w.heap.size w w' := by
  have HBX : Hid (∀ w, TensIn w p ps → BdsIn w pb l → LksIn w pl ls → Calls Tryz.prog 9 #[.agg #[.slice p ps.length cap, .slice pb l.length cb, .slice pl ls.length cl, .int .i64 lost]] w fun e w' => e = .returned (.bool (boxB (ps.map (·.2)) l ls lost)) ∧ Below w.heap.size w w') := fun w a b c => implBox_any p cap ps pb cb l pl cl ls lost w a b c hn hm hl hk
  have HTH : Hid (∀ w, Calls Tryz.prog 40 #[.agg #[.int .i64 n], .agg #[.slice p ps.length cap, .slice pb l.length cb, .slice pl ls.length cl, .int .i64 lost]] w fun e w' => e = .returned (.bool (inTn (ps.map (·.2)) n)) ∧ Below w.heap.size w w') := fun w => by
    unfold inTn
    rw [List.length_map]
    exact fitsT_any n p ps.length cap pb l.length cb pl ls.length cl lost w hn
  have HPA : Hid (∀ (g : Nat) (ns : List Int) (k cap : Nat) (w : World), k = ns.length → Row w g 2 (rowN64 ns) → (∀ n ∈ ns, In64 n) → ns ≠ [] → ns.length ≤ 100 → Calls Tryz.prog 42 #[.slice (some ⟨g, 0, none⟩) k cap] w fun e w' => e = .returned (.string (allT ns)) ∧ Below w.heap.size w w') := fun g ns k cap w hk h h1 h2 h3 => by
    subst hk
    exact putAll_any g ns cap w h h1 h2 h3
  have HRT : Hid (∀ r w, RtI r → Calls Tryz.prog 43 #[rtV r] w fun e w' => e = .returned (.string (rtT r)) ∧ Below w.heap.size w w') := implRt_any
  have HPT : Hid (∀ t : ByteArray, t.size ≤ 1000 → ∀ w, Calls Tryz.prog 44 #[.string t] w fun e w' => e = .returned (.string (putTextB t)) ∧ Below w.heap.size w w') := fun t h w => implPutText_any t w (by omega)
  have HX : Hid (TensIn w p ps ∧ BdsIn w pb l ∧ LksIn w pl ls) := ⟨h, hb0, hk0⟩
  have HR : Hid (obsO (ps.map (·.2)) l ls lost n = if (boxB (ps.map (·.2)) l ls lost && inTn (ps.map (·.2)) n) = true then obsT (ps.map (fun x : TnP => x.2))[n.toNat]! else ByteArray.empty) := rfl
  clear h hb0 hk0 hl hk
  have r0 := (Row.new w 33 [.slice p ps.length cap, .slice pb l.length cb, .slice pl ls.length cl, .int .i64 lost]).alloc (.cells #[.int .i64 n] 82)
  have rz := Row.new (w.alloc (.cells #[.slice p ps.length cap, .slice pb l.length cb, .slice pl ls.length cl, .int .i64 lost] 33)) 82 [.int .i64 n]
  rw [show (w.alloc (.cells #[.slice p ps.length cap, .slice pb l.length cb, .slice pl ls.length cl, .int .i64 lost] 33)).heap.size = w.heap.size + 1 by simp] at rz
  have hB : Below w.heap.size w ((w.alloc (.cells #[.slice p ps.length cap, .slice pb l.length cb, .slice pl ls.length cl, .int .i64 lost] 33)).alloc (.cells #[.int .i64 n] 82)) := (ent_new0 w _).alloc (by simp) _
  have HQ : Hid _ := And.intro r0 (And.intro rz hB)
  clear r0 rz hB
  go_enter Tryz.func15, Tryz.ntmps15
  go_wp2_with fail
  obtain ⟨r0, rz, hB⟩ := HQ.out
  clear HQ
  refine (HBX.out _ (HX.out.1.below hB) (HX.out.2.1.below hB) (HX.out.2.2.below hB)).mono ?_
  rintro e w1 ⟨rfl, hb1⟩
  replace r0 := r0.below hb1 r0.lt
  replace rz := rz.below hb1 rz.lt
  replace hB := hB.trans (hb1.mono hB.size)
  clear hb1
  clear HBX
  have hR := HR.out
  clear HR
  cases hBX : boxB (ps.map (·.2)) l ls lost
  · rw [hBX] at hR
    simp only [Bool.false_and, Bool.false_eq_true, if_false] at hR
    clear hBX HX HTH HPA HRT HPT hm r0 rz
    go_wp2
    go_ret
    exact ⟨by first | rfl | (rw [hR]; rfl), hB⟩
  rw [hBX, Bool.true_and] at hR
  have HBXt : Hid _ := hBX
  clear hBX
  have s0 : w1.cell? ⟨w.heap.size, 0, none⟩ = some (.slice p ps.length cap) := r0.cell 0
  have s1 : w1.cell? ⟨w.heap.size, 1, none⟩ = some (.slice pb l.length cb) := r0.cell 1
  have s2 : w1.cell? ⟨w.heap.size, 2, none⟩ = some (.slice pl ls.length cl) := r0.cell 2
  have s3 : w1.cell? ⟨w.heap.size, 3, none⟩ = some (.int .i64 lost) := r0.cell 3
  have y0 : w1.cell? ⟨w.heap.size + 1, 0, none⟩ = some (.int .i64 n) := rz.cell 0
  go_wp2_with fail
  clear s0 s1 s2 s3 y0
  refine (HTH.out _).mono ?_
  rintro e w2 ⟨rfl, hb2⟩
  replace r0 := r0.below hb2 r0.lt
  replace rz := rz.below hb2 rz.lt
  replace hB := hB.trans (hb2.mono hB.size)
  clear hb2
  clear HTH
  cases hi : inTn (ps.map (·.2)) n
  · rw [hi] at hR
    simp only [Bool.false_eq_true, if_false] at hR
    clear HX HPA HRT HPT hm HBXt hi r0 rz
    go_wp2
    go_ret
    exact ⟨by first | rfl | (rw [hR]; rfl), hB⟩
  rw [hi] at hR
  have hn0 : 0 ≤ n ∧ n < (ps.length : Int) := by
    unfold inTn at hi
    rw [List.length_map, ← Bool.decide_and] at hi
    exact of_decide_eq_true hi
  obtain ⟨m, rfl⟩ : ∃ m : Nat, n = (m : Int) := ⟨n.toNat, by omega⟩
  have hm2 : m < ps.length := by omega
  simp only [if_true, Int.toNat_natCast] at hR
  have HKK : Hid _ := And.intro r0 hB
  obtain ⟨g, a, t, rfl, hg, hek, hI, c0, c1, c2, c3, c4, c5, c6, c7⟩ := (HX.out.1.below hB).at m hm2
  obtain ⟨r0, hB⟩ := HKK.out
  clear HKK rz
  rw [tn_at hm2 hek] at hR
  have hTI := tnI_box HBXt.out (k := m) (by simpa using hm2)
  rw [tn_at' hm2 hek] at hTI
  obtain ⟨is, rs, now, key, qu, ss, es, dr⟩ := t
  simp only at c0 c1 c2 c3 c4 c5 c6 c7
  obtain ⟨hnow, hdr, hr8, hrI, hs6, hsI⟩ := hTI
  simp only at hnow hdr hr8 hrI hs6 hsI
  have HRS : Hid (RtsIn w2 a.y rs ∧ SnsIn w2 a.p ss) := ⟨hI.2.1, hI.2.2.1⟩
  have HRI : Hid ((∀ r ∈ rs, RtI r) ∧ ∀ s ∈ ss, 0 ≤ s.fc ∧ s.fc ≤ 2 ∧ s.tx.size ≤ 1000) := ⟨hrI, hsI⟩
  have HO : Hid (obsO (ps.map (·.2)) l ls lost (m : Int) = obsS (obsR (numT now ++ numT dr ++ numT (rs.length : Int)) rs ++ numT (ss.length : Int)) ss) := hR
  clear hI hek hrI hsI hR HBXt hm hi HX hn0
  generalize a.x = ax at *
  generalize a.y = ay at *
  generalize a.p = ap at *
  generalize a.q = aq at *
  generalize a.c1 = ac1 at *
  generalize a.c2 = ac2 at *
  generalize a.c3 = ac3 at *
  generalize a.c4 = ac4 at *
  generalize is.length = tn1 at *
  generalize es.length = tn4 at *
  have s0 : w2.cell? ⟨w.heap.size, 0, none⟩ = some (.slice (some ⟨g, 0, none⟩) ps.length cap) := r0.cell 0
  have HBW : Hid (Below w.heap.size w (w2.alloc (.cells #[.slice ax tn1 ac1, .slice ay rs.length ac2, .int .i64 now, .string key, .int .i64 qu, .slice ap ss.length ac3, .slice aq tn4 ac4, .int .i64 dr] 59))) := hB.alloc hB.size (.cells #[.slice ax tn1 ac1, .slice ay rs.length ac2, .int .i64 now, .string key, .int .i64 qu, .slice ap ss.length ac3, .slice aq tn4 ac4, .int .i64 dr] 59)
  have rt := Row.new w2 59 [.slice ax tn1 ac1, .slice ay rs.length ac2, .int .i64 now, .string key, .int .i64 qu, .slice ap ss.length ac3, .slice aq tn4 ac4, .int .i64 dr]
  have hlt2 := rt.lt
  have HT : Hid (Row (w2.alloc (.cells #[.slice ax tn1 ac1, .slice ay rs.length ac2, .int .i64 now, .string key, .int .i64 qu, .slice ap ss.length ac3, .slice aq tn4 ac4, .int .i64 dr] 59)) w2.heap.size 59 [.slice ax tn1 ac1, .slice ay rs.length ac2, .int .i64 now, .string key, .int .i64 qu, .slice ap ss.length ac3, .slice aq tn4 ac4, .int .i64 dr] ∧ w2.heap.size < (w2.alloc (.cells #[.slice ax tn1 ac1, .slice ay rs.length ac2, .int .i64 now, .string key, .int .i64 qu, .slice ap ss.length ac3, .slice aq tn4 ac4, .int .i64 dr] 59)).heap.size) := ⟨rt, hlt2⟩
  have HRW : Hid (RtsIn (w2.alloc (.cells #[.slice ax tn1 ac1, .slice ay rs.length ac2, .int .i64 now, .string key, .int .i64 qu, .slice ap ss.length ac3, .slice aq tn4 ac4, .int .i64 dr] 59)) ay rs ∧ SnsIn (w2.alloc (.cells #[.slice ax tn1 ac1, .slice ay rs.length ac2, .int .i64 now, .string key, .int .i64 qu, .slice ap ss.length ac3, .slice aq tn4 ac4, .int .i64 dr] 59)) ap ss) := ⟨HRS.out.1.alloc (.cells #[.slice ax tn1 ac1, .slice ay rs.length ac2, .int .i64 now, .string key, .int .i64 qu, .slice ap ss.length ac3, .slice aq tn4 ac4, .int .i64 dr] 59), HRS.out.2.alloc (.cells #[.slice ax tn1 ac1, .slice ay rs.length ac2, .int .i64 now, .string key, .int .i64 qu, .slice ap ss.length ac3, .slice aq tn4 ac4, .int .i64 dr] 59)⟩
  have hz : (w2.alloc (.cells #[.slice ax tn1 ac1, .slice ay rs.length ac2, .int .i64 now, .string key, .int .i64 qu, .slice ap ss.length ac3, .slice aq tn4 ac4, .int .i64 dr] 59)).heap.size = w2.heap.size + 1 := by simp
  have HWR : Hid (∀ wr (l t : ByteArray), BatT (w2.alloc (.cells #[.slice ax tn1 ac1, .slice ay rs.length ac2, .int .i64 now, .string key, .int .i64 qu, .slice ap ss.length ac3, .slice aq tn4 ac4, .int .i64 dr] 59)) wr l → l.size + t.size ≤ 100000000 → Calls Tryz.prog 41 #[.pointer (some ⟨w2.heap.size + 1, 0, none⟩), .string t] wr fun e w' => (∃ v, e = .returned v) ∧ BatT (w2.alloc (.cells #[.slice ax tn1 ac1, .slice ay rs.length ac2, .int .i64 now, .string key, .int .i64 qu, .slice ap ss.length ac3, .slice aq tn4 ac4, .int .i64 dr] 59)) w' (l ++ t)) := fun wr l t => BatT.write hz wr l t
  have HST : Hid (∀ wr (l : ByteArray), BatT (w2.alloc (.cells #[.slice ax tn1 ac1, .slice ay rs.length ac2, .int .i64 now, .string key, .int .i64 qu, .slice ap ss.length ac3, .slice aq tn4 ac4, .int .i64 dr] 59)) wr l → 0 < l.size → Calls Tryz.prog 45 #[.pointer (some ⟨w2.heap.size + 1, 0, none⟩)] wr fun e w' => e = .returned (.string l) ∧ Below (w2.alloc (.cells #[.slice ax tn1 ac1, .slice ay rs.length ac2, .int .i64 now, .string key, .int .i64 qu, .slice ap ss.length ac3, .slice aq tn4 ac4, .int .i64 dr] 59)).heap.size (w2.alloc (.cells #[.slice ax tn1 ac1, .slice ay rs.length ac2, .int .i64 now, .string key, .int .i64 qu, .slice ap ss.length ac3, .slice aq tn4 ac4, .int .i64 dr] 59)) w') := fun wr l => BatT.string hz wr l
  have HN : Hid (BatT (w2.alloc (.cells #[.slice ax tn1 ac1, .slice ay rs.length ac2, .int .i64 now, .string key, .int .i64 qu, .slice ap ss.length ac3, .slice aq tn4 ac4, .int .i64 dr] 59)) (((w2.alloc (.cells #[.slice ax tn1 ac1, .slice ay rs.length ac2, .int .i64 now, .string key, .int .i64 qu, .slice ap ss.length ac3, .slice aq tn4 ac4, .int .i64 dr] 59)).alloc (.cells #[.pointer none, .slice none 0 0] 86)).alloc (.cells #[.int .i64 now, .int .i64 dr, .int .i64 (rs.length : Int)] 2)) ByteArray.empty) := (Bat.new _).alloc _
  clear rt hB HRS r0 hz hlt2
  have dmm : decide ((m : Int) < (ps.length : Int)) = true := by simpa using hm2
  go_wp2_with fail
  refine (HPA.out _ [now, dr, (rs.length : Int)] 3 3 _ rfl (Row.newAt _ _ (rowN64 [now, dr, (rs.length : Int)]) _ (by simp)) (by intro x hx; simp only [List.mem_cons, List.not_mem_nil, or_false] at hx; unfold In64; rcases hx with rfl | rfl | rfl <;> omega) (by simp) (by simp)).mono ?_
  rintro e w4 ⟨rfl, hb4⟩
  have HN4 : Hid (BatT _ w4 ByteArray.empty) := HN.out.call hb4
  clear HN hb4 s0 c0 c1 c2 c3 c4 c5 c6 c7
  generalize hbx : w2.heap.size = bx at *
  generalize w2.alloc (.cells #[.slice ax tn1 ac1, .slice ay rs.length ac2, .int .i64 now, .string key, .int .i64 qu, .slice ap ss.length ac3, .slice aq tn4 ac4, .int .i64 dr] 59) = W at *
  clear hbx hg
  have hH : allT [now, dr, (rs.length : Int)] = numT now ++ numT dr ++ numT (rs.length : Int) := by
    refine ByteArray.ext (Array.ext' ?_)
    simp [allT, allL, numT]
  rw [hH]
  have k0 := numT_size now
  have k1 := numT_size dr
  have k2 := numT_size (rs.length : Int)
  have hHs : (numT now ++ numT dr ++ numT (rs.length : Int)).size ≤ 30 := by simp only [ByteArray.size_append]; omega
  have k3 := (putNumB_size now).2
  have hHp : 0 < (numT now ++ numT dr ++ numT (rs.length : Int)).size := by
    have : 1 ≤ (numT now).size := k3
    simp only [ByteArray.size_append]
    omega
  clear hH k0 k1 k2 k3
  generalize numT now ++ numT dr ++ numT (rs.length : Int) = H0 at *
  have hW := HWR.out w4 _ H0 HN4.out (by simp; omega)
  rw [ByteArray.empty_append] at hW
  have HW : Hid (Calls Tryz.prog 41 #[.pointer (some ⟨bx + 1, 0, none⟩), .string H0] w4 fun e w' => (∃ v, e = .returned v) ∧ BatT W w' H0) := hW
  clear hW HN4
  go_wp2_with fail
  refine HW.out.mono ?_
  rintro e w5 ⟨⟨v, rfl⟩, hB⟩
  have HK : Hid (BatT W w5 H0) := hB
  clear HW hB
  have t0 : w5.cell? ⟨bx, 0, none⟩ = some (.slice ax tn1 ac1) := (HT.out.1.below HK.out.low HT.out.2).cell 0
  have t1 : w5.cell? ⟨bx, 1, none⟩ = some (.slice ay rs.length ac2) := (HT.out.1.below HK.out.low HT.out.2).cell 1
  have t2 : w5.cell? ⟨bx, 2, none⟩ = some (.int .i64 now) := (HT.out.1.below HK.out.low HT.out.2).cell 2
  have t3 : w5.cell? ⟨bx, 3, none⟩ = some (.string key) := (HT.out.1.below HK.out.low HT.out.2).cell 3
  have t4 : w5.cell? ⟨bx, 4, none⟩ = some (.int .i64 qu) := (HT.out.1.below HK.out.low HT.out.2).cell 4
  have t5 : w5.cell? ⟨bx, 5, none⟩ = some (.slice ap ss.length ac3) := (HT.out.1.below HK.out.low HT.out.2).cell 5
  have t6 : w5.cell? ⟨bx, 6, none⟩ = some (.slice aq tn4 ac4) := (HT.out.1.below HK.out.low HT.out.2).cell 6
  have t7 : w5.cell? ⟨bx, 7, none⟩ = some (.int .i64 dr) := (HT.out.1.below HK.out.low HT.out.2).cell 7
  go_wp2_with fail
  clear t0 t1 t2 t3 t4 t5 t6 t7
  go_loopw [46] (fun i wr => ∃ k : Nat, k ≤ rs.length ∧ i = .int .i64 k ∧ BatT W wr (obsR H0 (rs.take k))) (fun i _ => rs.length - (intOf i).toNat)
  case atStart => exact ⟨0, Nat.zero_le _, rfl, HK.out⟩
  case round =>
    clear HK
    obtain ⟨k, hk, rfl, hB⟩ := hrel
    have HK : Hid (BatT W wr (obsR H0 (rs.take k))) := hB
    clear hB
    have hsz := obsR_size H0 (rs.take k)
    rw [List.length_take] at hsz
    by_cases hlt : k < rs.length
    · have dk : decide ((k : Int) < (rs.length : Int)) = true := by simpa using hlt
      obtain ⟨g2, z0, z1, z2, z3, z4, z5, z6, z7, z8, rfl, hg2, hek, c0, c1, c2, c3, c4, c5, c6, c7, c8⟩ := (HRW.out.1.below HK.out.low).at k hlt
      have hI := HRI.out.1 rs[k] (List.getElem_mem hlt)
      have hnx : obsR H0 (rs.take (k + 1)) = obsR H0 (rs.take k) ++ rtT rs[k] := by rw [List.take_succ_eq_append_getElem hlt, obsR_snoc]
      have hsz2 := rtT_size rs[k]
      rw [hek] at hI hnx hsz2
      have HC : Hid (∀ w, Calls Tryz.prog 43 #[.agg #[.int .i64 z0, .int .i64 z1, .int .i64 z2, .int .i64 z3, .int .i64 z4, .int .i64 z5, .int .i64 z6, .int .i64 z7, .bool z8]] w fun e w' => e = .returned (.string (rtT ⟨z0, z1, z2, z3, z4, z5, z6, z7, z8⟩)) ∧ Below w.heap.size w w') := fun w => HRT.out _ w hI
      have HNX : Hid _ := hnx
      clear hek hI hnx
      generalize obsR H0 (rs.take k) = T1 at *
      generalize rtT ⟨z0, z1, z2, z3, z4, z5, z6, z7, z8⟩ = T2 at *
      have HLN : Hid (T1.size + T2.size ≤ 100000000) := (by show _ ≤ _; omega)
      clear hsz hsz2
      go_wp2_with fail
      refine (HC.out _).mono ?_
      rintro e w6 ⟨rfl, hb6⟩
      have HK6 : Hid (BatT W w6 T1) := (HK.out.alloc _).call hb6
      clear HK HC hb6 c0 c1 c2 c3 c4 c5 c6 c7 c8
      go_wp2_with fail
      refine (HWR.out w6 T1 T2 HK6.out HLN.out).mono ?_
      rintro e w7 ⟨⟨v, rfl⟩, hB⟩
      have HK7 : Hid (BatT W w7 (T1 ++ T2)) := hB
      clear HK6 hB
      go_wp2_with fail
      go_roundw
      case rel => exact ⟨k + 1, hlt, by go_num, by rw [HNX.out]; exact HK7.out⟩
      case measure => simp [intOf]; omega
    · have dk : decide ((k : Int) < (rs.length : Int)) = false := by simpa using hlt
      obtain rfl : k = rs.length := by omega
      rw [List.take_length] at HK hsz
      have t0 : wr.cell? ⟨bx, 0, none⟩ = some (.slice ax tn1 ac1) := (HT.out.1.below HK.out.low HT.out.2).cell 0
      have t1 : wr.cell? ⟨bx, 1, none⟩ = some (.slice ay rs.length ac2) := (HT.out.1.below HK.out.low HT.out.2).cell 1
      have t2 : wr.cell? ⟨bx, 2, none⟩ = some (.int .i64 now) := (HT.out.1.below HK.out.low HT.out.2).cell 2
      have t3 : wr.cell? ⟨bx, 3, none⟩ = some (.string key) := (HT.out.1.below HK.out.low HT.out.2).cell 3
      have t4 : wr.cell? ⟨bx, 4, none⟩ = some (.int .i64 qu) := (HT.out.1.below HK.out.low HT.out.2).cell 4
      have t5 : wr.cell? ⟨bx, 5, none⟩ = some (.slice ap ss.length ac3) := (HT.out.1.below HK.out.low HT.out.2).cell 5
      have t6 : wr.cell? ⟨bx, 6, none⟩ = some (.slice aq tn4 ac4) := (HT.out.1.below HK.out.low HT.out.2).cell 6
      have t7 : wr.cell? ⟨bx, 7, none⟩ = some (.int .i64 dr) := (HT.out.1.below HK.out.low HT.out.2).cell 7
      have hmn : H0.size ≤ (obsR H0 rs).size := obsR_low H0 rs
      have HO2 : Hid _ := HO.out
      clear HO HRT hlt hk
      have HKs : Hid _ := HK
      have k3 := numT_size (ss.length : Int)
      generalize obsR H0 rs = T1 at *
      go_wp2_with fail
      refine (HPA.out _ [(ss.length : Int)] 1 1 _ rfl (Row.newAt _ _ (rowN64 [(ss.length : Int)]) _ (by simp)) (by intro x hx; simp only [List.mem_cons, List.not_mem_nil, or_false] at hx; unfold In64; subst hx; omega) (by simp) (by simp)).mono ?_
      rintro e w6 ⟨rfl, hb6⟩
      have HK6 : Hid (BatT W w6 T1) := (HK.out.alloc _).call hb6
      clear HK HKs hb6 t0 t1 t2 t3 t4 t5 t6 t7
      have hH : allT [(ss.length : Int)] = numT (ss.length : Int) := by
        refine ByteArray.ext (Array.ext' ?_)
        simp [allT, allL, numT]
      rw [hH]
      clear hH
      generalize numT (ss.length : Int) = N3 at *
      have hW := HWR.out w6 T1 N3 HK6.out (by omega)
      have HW : Hid (Calls Tryz.prog 41 #[.pointer (some ⟨bx + 1, 0, none⟩), .string N3] w6 fun e w' => (∃ v, e = .returned v) ∧ BatT W w' (T1 ++ N3)) := hW
      clear hW HK6
      have hT : (T1 ++ N3).size ≤ 1000 ∧ 0 < (T1 ++ N3).size := by rw [ByteArray.size_append]; omega
      clear hsz k3 hHs hHp hmn
      generalize T1 ++ N3 = H1 at *
      obtain ⟨hT, hTp⟩ := hT
      go_wp2_with fail
      refine HW.out.mono ?_
      rintro e w7 ⟨⟨v, rfl⟩, hB⟩
      have HK : Hid (BatT W w7 H1) := hB
      clear HW hB
      have t0 : w7.cell? ⟨bx, 0, none⟩ = some (.slice ax tn1 ac1) := (HT.out.1.below HK.out.low HT.out.2).cell 0
      have t1 : w7.cell? ⟨bx, 1, none⟩ = some (.slice ay rs.length ac2) := (HT.out.1.below HK.out.low HT.out.2).cell 1
      have t2 : w7.cell? ⟨bx, 2, none⟩ = some (.int .i64 now) := (HT.out.1.below HK.out.low HT.out.2).cell 2
      have t3 : w7.cell? ⟨bx, 3, none⟩ = some (.string key) := (HT.out.1.below HK.out.low HT.out.2).cell 3
      have t4 : w7.cell? ⟨bx, 4, none⟩ = some (.int .i64 qu) := (HT.out.1.below HK.out.low HT.out.2).cell 4
      have t5 : w7.cell? ⟨bx, 5, none⟩ = some (.slice ap ss.length ac3) := (HT.out.1.below HK.out.low HT.out.2).cell 5
      have t6 : w7.cell? ⟨bx, 6, none⟩ = some (.slice aq tn4 ac4) := (HT.out.1.below HK.out.low HT.out.2).cell 6
      have t7 : w7.cell? ⟨bx, 7, none⟩ = some (.int .i64 dr) := (HT.out.1.below HK.out.low HT.out.2).cell 7
      go_wp2_with fail
      clear t0 t1 t2 t3 t4 t5 t6 t7
      go_loopw [63] (fun i wr => ∃ k : Nat, k ≤ ss.length ∧ i = .int .i64 k ∧ BatT W wr (obsS H1 (ss.take k))) (fun i _ => ss.length - (intOf i).toNat)
      case atStart => exact ⟨0, Nat.zero_le _, rfl, HK.out⟩
      case round =>
        clear HK
        obtain ⟨k, hk, rfl, hB⟩ := hrel
        have HK : Hid (BatT W wr (obsS H1 (ss.take k))) := hB
        clear hB
        have hsz := obsS_size H1 (ss.take k)
        rw [List.length_take] at hsz
        by_cases hlt : k < ss.length
        · have dk : decide ((k : Int) < (ss.length : Int)) = true := by simpa using hlt
          obtain ⟨g2, fc, tx, rfl, hg2, hek, c0, c1⟩ := (HRW.out.2.below HK.out.low).at k hlt
          have hI := HRI.out.2 ss[k] (List.getElem_mem hlt)
          have hnx : obsS H1 (ss.take (k + 1)) = obsS H1 (ss.take k) ++ numT ss[k].fc ++ putTextB ss[k].tx := by rw [List.take_succ_eq_append_getElem hlt, obsS_snoc]
          rw [hek] at hI hnx
          simp only at hI hnx
          rw [ByteArray.append_assoc] at hnx
          have h1 := numT_size fc
          have h2 := putTextB_size tx
          have hH : allT [fc] = numT fc := by
            refine ByteArray.ext (Array.ext' ?_)
            simp [allT, allL, numT]
          have HP4 : Hid (∀ g w, Row w g 2 (rowN64 [fc]) → Calls Tryz.prog 42 #[.slice (some ⟨g, 0, none⟩) 1 1] w fun e w' => e = .returned (.string (numT fc)) ∧ Below w.heap.size w w') := fun g w hr => by
            have := HPA.out g [fc] 1 1 w rfl hr (by intro x hx; simp only [List.mem_cons, List.not_mem_nil, or_false] at hx; unfold In64; subst hx; omega) (by simp) (by simp)
            rw [hH] at this
            exact this
          have HP5 : Hid (∀ w, Calls Tryz.prog 44 #[.string tx] w fun e w' => e = .returned (.string (putTextB tx)) ∧ Below w.heap.size w w') := HPT.out tx (by omega)
          have HNX : Hid _ := hnx
          clear hek hI hnx hH
          generalize obsS H1 (ss.take k) = T1 at *
          generalize numT fc = T2 at *
          generalize putTextB tx = T3 at *
          have HLN : Hid (T1.size + (T2 ++ T3).size ≤ 100000000) := (by show _ ≤ _; rw [ByteArray.size_append]; omega)
          have hzz : ¬ 9223372036854775807 < T2.size + T3.size := by omega
          clear hsz h1 h2
          have HKA : Hid (SnB W (wr.alloc (.cells #[.int .i64 fc, .string tx] 79)).drew wr.heap.size fc tx T1) := SnB.drew ⟨HK.out.alloc _, Row.new wr 79 [.int .i64 fc, .string tx]⟩
          clear HK
          go_wp2_with fail
          have e0 : (wr.alloc (.cells #[.int .i64 fc, .string tx] 79)).drew.cell? ⟨wr.heap.size, 0, none⟩ = some (.int .i64 fc) := HKA.out.2.cell 0
          have e1 : (wr.alloc (.cells #[.int .i64 fc, .string tx] 79)).drew.cell? ⟨wr.heap.size, 1, none⟩ = some (.string tx) := HKA.out.2.cell 1
          go_region_with (first | (go_at_call 42; refine (HP4.out _ _ (by first | exact Row.newAt _ _ (rowN64 [fc]) _ (by first | rfl | simp) | exact (Row.newAt _ _ (rowN64 [fc]) _ (by first | rfl | simp)).below hbq (Row.newAt _ _ (rowN64 [fc]) _ (by first | rfl | simp)).lt)).mono ?_; rintro e wp ⟨rfl, hbp⟩; have K9 : SnB W wp wr.heap.size fc tx T1 := (by first | exact ((HKA.out.alloc _).call hbp) | exact ((HKA.out.call hbq).alloc _).call hbp | exact ((HKA.out.alloc _).call hbq).call hbp); have f0 : wp.cell? ⟨wr.heap.size, 0, none⟩ = some (.int .i64 fc) := K9.2.cell 0; have f1 : wp.cell? ⟨wr.heap.size, 1, none⟩ = some (.string tx) := K9.2.cell 1) | (go_at_call 44; refine (HP5.out _).mono ?_; rintro e wq ⟨rfl, hbq⟩; have K9 : SnB W wq wr.heap.size fc tx T1 := (by first | exact (HKA.out.call hbq) | exact ((HKA.out.alloc _).call hbp).call hbq | exact (HKA.out.alloc _).call hbq); have f0 : wq.cell? ⟨wr.heap.size, 0, none⟩ = some (.int .i64 fc) := K9.2.cell 0; have f1 : wq.cell? ⟨wr.heap.size, 1, none⟩ = some (.string tx) := K9.2.cell 1) | (go_at_call 41; refine (HWR.out _ T1 (T2 ++ T3) K9.1 HLN.out).mono ?_; rintro e w9 ⟨⟨v, rfl⟩, hB9⟩))
          all_goals (have HK9 : Hid (BatT W w9 (T1 ++ (T2 ++ T3))) := hB9)
          all_goals (clear hB9 K9 hbp hbq HKA HP4 HP5 c0 c1)
          all_goals go_wp2_with fail
          all_goals go_roundw
          all_goals first | (exact ⟨k + 1, hlt, by go_num, by rw [HNX.out]; exact HK9.out⟩) | (simp [intOf]; omega)
        · have dk : decide ((k : Int) < (ss.length : Int)) = false := by simpa using hlt
          obtain rfl : k = ss.length := by omega
          rw [List.take_length] at HK
          have HS := HST.out wr _ HK.out (by have := obsS_low H1 ss; omega)
          have HS2 : Hid (Calls Tryz.prog 45 #[.pointer (some ⟨bx + 1, 0, none⟩)] wr fun e w' => e = .returned (.string (obsS H1 ss)) ∧ Below W.heap.size W w') := HS
          clear HS HK
          go_wp2_with fail
          refine HS2.out.mono ?_
          rintro e w8 ⟨rfl, hb8⟩
          have HF : Hid (Below w.heap.size w w8) := HBW.out.trans (hb8.mono HBW.out.size)
          clear HS2 hb8
          go_wp2
          go_ret
          exact ⟨by rw [HO2.out]; rfl, HF.out⟩
end Go.Proofs.YtpkjkjepmloddaaGreat
