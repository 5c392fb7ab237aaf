/- Texts that stand on each other, in one file: AddrOf, AddrReadI. -/
import Derived.Test.YtialedffpaoacaaGreatDoorPack15
import Derived.Test.YtialedffpaoacaaGreatDoorPack6
import Derived.Test.YtialedffpaoacaaGreatDoorPack9
import Derived.Laws.ShiftsVarLaws
import Derived.Test.YtialedffpaoacaaGreatDoorPack13
/- addrOf and AddrRead of the program. -/
namespace Go.Proofs.YtialedffpaoacaaGreatDoor
open Go.RowKit Go.Sort

/-- The library's variable internal/bytealg.MaxLen holds some number. -/
def MaxI (w : World) : Prop := ∃ m, w.cell? ⟨1, 0, none⟩ = some (.int .i64 m)
theorem MaxI.below {w w' : World} (h : MaxI w) (hb : Below w.heap.size w w') : MaxI w' := by
  obtain ⟨m, hm⟩ := h
  exact ⟨m, by rw [hb.cell (p := ⟨1, 0, none⟩) (World.block_lt_of_cell? w _ hm)]; exact hm⟩
/-- Texts in memory, one after the other. -/
def TextsAt (w : World) (g : Nat) (ps : List (List UInt8)) : Prop := ∀ j p, ps[j]? = some p → w.cell? ⟨g, j, none⟩ = some (.string ⟨p.toArray⟩)
theorem TextsAt.below {w w' : World} {g : Nat} {ps : List (List UInt8)} (h : TextsAt w g ps) (hb : Below w.heap.size w w') : TextsAt w' g ps := by
  intro j p hj
  have := h j p hj
  rw [hb.cell (p := ⟨g, j, none⟩) (World.block_lt_of_cell? w _ this)]; exact this
theorem splitN_any (s : ByteArray) (w : World) (hM : MaxI w) (hs : s.size ≤ 1048576) :
    Calls Tryz.prog 187 #[.string s, .string ⟨#[46]⟩, .int .i64 5] w fun e w' => ∃ c, e = .returned (.slice (some ⟨w.heap.size, 0, none⟩) (Lib.splitK [46] 0 4 s.data.toList).length c) ∧ (Lib.splitK [46] 0 4 s.data.toList).length ≤ c ∧ c ≤ 5 ∧ TextsAt w' w.heap.size (Lib.splitK [46] 0 4 s.data.toList) ∧ Below w.heap.size w w' := by
  obtain ⟨m, hm⟩ := hM
  have hz : s.data.toList.length = s.size := by simp
  have hd := Lib.splitB_data ⟨#[46]⟩ 0 (min 5 (s.size + 1) - 1) s
  have ha := splitK_addr s.data.toList
  rw [hz] at ha
  have hd2 : (Lib.splitB ⟨#[46]⟩ 0 (min 5 (s.size + 1) - 1) s).map (·.data.toList) = Lib.splitK [46] 0 4 s.data.toList := hd.trans ha
  have hl : (Lib.splitB ⟨#[46]⟩ 0 (min 5 (s.size + 1) - 1) s).length = (Lib.splitK [46] 0 4 s.data.toList).length := by rw [← hd2]; simp
  have hll := Lib.splitB_length_le ⟨#[46]⟩ 0 (min 5 (s.size + 1) - 1) s
  refine (Any.strings_SplitN Tryz.lays147 (by kernel_rfl) s ⟨#[46]⟩ 5 m w (by omega) hm (by decide) (by omega) (by omega)).mono fun e w' ⟨he, hw⟩ => ⟨min 5 (s.size + 1), ?_, by omega, by omega, ?_, ?_⟩
  · rw [he, hl]
  · intro j p hj
    rw [hw, cell_of_row _ _ _ _ _ _ (heap_alloc_new w _)]
    rw [← hd2] at hj
    simp only [List.getElem?_map, Option.map_eq_some_iff] at hj
    obtain ⟨b, hb, rfl⟩ := hj
    have hjl : j < (Lib.splitB ⟨#[46]⟩ 0 (min 5 (s.size + 1) - 1) s).length := (List.getElem?_eq_some_iff.1 hb).1
    unfold Lib.cellsOf
    simp only [List.getElem?_toArray]
    rw [List.getElem?_append_left (by simpa using hjl), List.getElem?_map, hb, Lib.mk_data]
    rfl
  · rw [hw]; exact (Below.refl _ _).alloc (Nat.le_refl _) _
/-- Parts read on, each a byte. -/
def restR : List (List UInt8) → Nat → Option Nat
  | [], a => some a
  | p :: ps, a => (dR 255 p).bind fun n => restR ps (a * 256 + n)
theorem parts_rest (p0 p1 p2 p3 : List UInt8) : partsR [p0, p1, p2, p3] = restR [p0, p1, p2, p3] 0 := by
  simp only [partsR, restR]
  cases dR 255 p0 <;> simp
  cases dR 255 p1 <;> simp
  cases dR 255 p2 <;> simp
  cases dR 255 p3 <;> simp
theorem parts_four {ps : List (List UInt8)} (h : ps.length = 4) : partsR ps = restR ps 0 := by
  match ps, h with
  | [p0, p1, p2, p3], _ => exact parts_rest p0 p1 p2 p3
theorem parts_not {ps : List (List UInt8)} (h : ps.length ≠ 4) : partsR ps = none := by
  match ps, h with
  | [], _ => rfl
  | [_], _ => rfl
  | [_, _], _ => rfl
  | [_, _, _], _ => rfl
  | [_, _, _, _], h => exact absurd rfl h
  | _ :: _ :: _ :: _ :: _ :: _, _ => rfl
theorem rest_step {ps : List (List UInt8)} {k : Nat} (hk : k < ps.length) (a : Nat) : restR (ps.drop k) a = (dR 255 ps[k]).bind fun n => restR (ps.drop (k + 1)) (a * 256 + n) := by
  rw [List.drop_eq_getElem_cons hk]; rfl
def addrV (s : ByteArray) : Value := match addrR s.data.toList with | some a => .tuple #[.int .i64 (a : Int), .bool true] | none => .tuple #[.int .i64 0, .bool false]
theorem addrV_some {s : ByteArray} {a : Nat} (h : addrR s.data.toList = some a) : addrV s = .tuple #[.int .i64 (a : Int), .bool true] := by unfold addrV; rw [h]
theorem addrV_none {s : ByteArray} (h : addrR s.data.toList = none) : addrV s = .tuple #[.int .i64 0, .bool false] := by unfold addrV; rw [h]
theorem or_byte (a n : Nat) (ha : a < 16777216) (hn : n ≤ 255) : bits .or .i64 ((a : Int) * 256) (n : Int) = (a : Int) * 256 + (n : Int) := by
  have h := i64_or_nat (a * 256) n (by omega) (by omega)
  rw [nat_join 8 (a * 256) n (by omega) (by omega)] at h
  have e1 : ((a * 256 : Nat) : Int) = (a : Int) * 256 := by clear h; omega
  have e2 : ((a * 256 + n : Nat) : Int) = (a : Int) * 256 + (n : Int) := (Int.natCast_add (a * 256) n).trans (by rw [e1])
  rw [e1, e2] at h
  exact h
theorem pow256 (k : Nat) (h : k ≤ 3) : 256 ^ k ≤ 16777216 := by
  obtain rfl | rfl | rfl | rfl : k = 0 ∨ k = 1 ∨ k = 2 ∨ k = 3 := by omega
  all_goals decide
set_option maxRecDepth 100000 in
theorem addrOf_any (s : ByteArray) (w : World) (hM : MaxI w) (hs : s.size ≤ 1048576) :
    Calls Tryz.prog 161 #[.string s] w fun e w' => e = .returned (addrV s) ∧ Below w.heap.size w w' := by
  have HN : Hid (addrR s.data.toList = none → addrV s = .tuple #[.int .i64 0, .bool false]) := addrV_none
  have HY : Hid (∀ a : Nat, addrR s.data.toList = some a → addrV s = .tuple #[.int .i64 (a : Int), .bool true]) := fun a => addrV_some
  have HP : Hid (addrR s.data.toList = partsR (Lib.splitK [46] 0 4 s.data.toList)) := rfl
  have HS : Hid (∀ p ∈ Lib.splitK [46] 0 4 s.data.toList, p.length ≤ s.size) := fun p hp => by
    have := splitK_short 46 4 _ p hp
    rwa [show s.data.toList.length = s.size by simp] at this
  have HC : Hid _ := splitN_any s w hM hs
  clear hM
  generalize addrV s = V at *
  generalize addrR s.data.toList = R at *
  generalize Lib.splitK [46] 0 4 s.data.toList = ps at *
  go_enter Tryz.func161, Tryz.ntmps161
  go_wp2_with fail
  refine Calls.mono HC.out ?_
  rintro e w1 ⟨c, rfl, hlc, hc5, ht, hb1⟩
  by_cases h4 : ps.length = 4
  · have HR : Hid (R = restR ps 0) := HP.out.trans (parts_four h4)
    have HT : Hid (TextsAt w1 w.heap.size ps) := ht
    have HL : Hid (ps.length = 4) := h4
    clear ht
    rw [h4] at hlc ⊢
    clear h4
    go_wp2_with fail
    go_loopw [17, 5] (fun i v wr => ∃ k a : Nat, k ≤ 4 ∧ i = .int .i64 (k : Int) ∧ v = .int .i64 (a : Int) ∧ Hid (a < 256 ^ k ∧ restR (ps.drop k) a = R) ∧ Below w1.heap.size w1 wr) (fun i _ _ => 4 - (intOf i).toNat)
    case atStart => exact ⟨0, 0, by omega, rfl, rfl, ⟨by decide, HR.out.symm⟩, Below.refl _ _⟩
    case round =>
      obtain ⟨k, a, hk, rfl, rfl, HI, hb⟩ := hrel
      by_cases hlt : k < 4
      · have hkl : k < ps.length := by rw [HL.out]; exact hlt
        have ha : a < 16777216 := Nat.lt_of_lt_of_le HI.out.1 (pow256 k (by omega))
        have hstep : Hid _ := rest_step hkl a
        have hcell := (HT.out.below hb) k ps[k] (by simp [hkl])
        have hsz := HS.out ps[k] (List.getElem_mem hkl)
        have hd : Hid (∀ w, Calls Tryz.prog 188 #[.string ⟨ps[k].toArray⟩, .int .i64 255] w fun e w' => e = .returned (digV 255 ⟨ps[k].toArray⟩) ∧ Below w.heap.size w w') := fun w => digits_any ⟨ps[k].toArray⟩ 255 w (by omega) (by simp [ByteArray.size]; omega)
        have hdn : Hid (dR 255 ps[k] = none → digV 255 ⟨ps[k].toArray⟩ = .tuple #[.int .i64 0, .bool false]) := fun h => digV_none (by simpa using h)
        have hds : Hid (∀ n : Nat, dR 255 ps[k] = some n → n ≤ 255 ∧ digV 255 ⟨ps[k].toArray⟩ = .tuple #[.int .i64 (n : Int), .bool true]) := fun n h => ⟨((dR_iff _ _ _).1 h).1, digV_some (by simpa using h)⟩
        have hkl2 : Hid (k < ps.length) := hkl
        generalize (⟨ps[k].toArray⟩ : ByteArray) = P at *
        generalize dR 255 ps[k] = D at *
        clear hkl hsz
        cases D with
        | none =>
          have HV : Hid (V = .tuple #[.int .i64 0, .bool false]) := HN.out (HI.out.2.symm.trans hstep.out)
          have hdv := hdn.out rfl
          rw [hdv] at hd
          clear hdv
          go_wp2_with fail
          refine (hd.out _).mono ?_
          rintro e w2 ⟨rfl, hb2⟩
          have hB2 := hb.trans (hb2.mono hb.size)
          clear hcell hb2
          go_wp2
          go_ret2
          exact ⟨by rw [HV.out]; rfl, hb1.trans (hB2.mono hb1.size)⟩
        | some n =>
          obtain ⟨hn, hdv⟩ := hds.out n rfl
          rw [hdv] at hd
          have hor := or_byte a n ha hn
          have HNX : Hid (a * 256 + n < 256 ^ (k + 1) ∧ restR (ps.drop (k + 1)) (a * 256 + n) = R) := by
            refine ⟨?_, hstep.out.symm.trans HI.out.2⟩
            have := HI.out.1
            rw [Nat.pow_succ]; omega
          clear hdv
          go_wp2_with fail
          refine (hd.out _).mono ?_
          rintro e w2 ⟨rfl, hb2⟩
          have hB2 := hb.trans (hb2.mono hb.size)
          clear hcell hb2
          go_wp2
          go_roundw
          case rel => exact ⟨k + 1, a * 256 + n, by omega, by go_num, by go_num, HNX, hB2⟩
          case measure => simp [intOf]; omega
      · obtain rfl : k = 4 := by omega
        have HV : Hid (V = .tuple #[.int .i64 (a : Int), .bool true]) := HY.out a (HI.out.2.symm.trans (by rw [List.drop_of_length_le (by rw [HL.out]; omega)]; rfl))
        rw [show ((4 : Nat) : Int) = 4 from rfl]
        go_wp2
        go_ret2
        exact ⟨by rw [HV.out]; rfl, hb1.trans (hb.mono hb1.size)⟩
  · have HV : Hid (V = .tuple #[.int .i64 0, .bool false]) := HN.out (HP.out.trans (parts_not h4))
    have h4b : ((ps.length : Int) != 4) = true := by simp; omega
    generalize ps.length = L at *
    go_wp2
    go_ret2
    exact ⟨by rw [HV.out]; rfl, hb1⟩
end Go.Proofs.YtialedffpaoacaaGreatDoor
/- AddrRead of the program. -/
namespace Go.Proofs.YtialedffpaoacaaGreatDoor
open Go.RowKit Go.Sort

set_option maxRecDepth 100000 in
theorem implAddrRead_any (s : ByteArray) (w : World) (hM : MaxI w) (hs : s.size ≤ 1048576) :
    Calls Tryz.prog 115 #[.string s] w fun e w' => e = .returned (numO (readA s).1 0 (readA s).2) ∧ Below w.heap.size w w' := by
  by_cases hz : 8000 < s.size
  · rw [readA_big hz]
    unfold numO
    go_enter Tryz.func115, Tryz.ntmps115
    go_wp2
    refine bodyPost_ret (v := .agg #[.int .i64 0, .int .i64 0, .int .i64 2]) (by simp [results, Tryz.results115, go_sem]) rfl ⟨rfl, (Below.refl _ _).alloc (Nat.le_refl _) _⟩
  · have HC : Hid (∀ w, MaxI w → Calls Tryz.prog 161 #[.string s] w fun e w' => e = .returned (addrV s) ∧ Below w.heap.size w w') := fun w h => addrOf_any s w h hs
    have HM : Hid (MaxI w) := hM
    clear hM
    cases hr : addrR s.data.toList with
    | none =>
      rw [readA_none hz hr]
      rw [addrV_none hr] at HC
      unfold numO
      clear hr
      go_enter Tryz.func115, Tryz.ntmps115
      go_wp2_with fail
      refine (HC.out _ (HM.out.below ((Below.refl _ _).alloc (Nat.le_refl _) _))).mono ?_
      rintro e w1 ⟨rfl, hb1⟩
      obtain ⟨hc1, hf1⟩ := bcell hb1
      have hs1 : w.heap.size < w1.heap.size := by have := hb1.size; simp at this; omega
      have hB : Below w.heap.size w w1 := ((Below.refl _ _).alloc (Nat.le_refl _) _).trans (hb1.mono (by simp))
      go_wp2
      refine bodyPost_ret (v := .agg #[.int .i64 0, .int .i64 0, .int .i64 3]) (by simp [results, Tryz.results115, go_sem, hc1]) rfl ⟨rfl, ?_⟩
      exact ((hB.setCell (Nat.le_refl _) _).setCell (Nat.le_refl _) _).setCell (Nat.le_refl _) _
    | some a =>
      rw [readA_some hz hr]
      rw [addrV_some hr] at HC
      unfold numO
      clear hr
      go_enter Tryz.func115, Tryz.ntmps115
      go_wp2_with fail
      refine (HC.out _ (HM.out.below ((Below.refl _ _).alloc (Nat.le_refl _) _))).mono ?_
      rintro e w1 ⟨rfl, hb1⟩
      obtain ⟨hc1, hf1⟩ := bcell hb1
      have hs1 : w.heap.size < w1.heap.size := by have := hb1.size; simp at this; omega
      have hB : Below w.heap.size w w1 := ((Below.refl _ _).alloc (Nat.le_refl _) _).trans (hb1.mono (by simp))
      go_wp2
      refine bodyPost_ret (v := .agg #[.int .i64 a, .int .i64 0, .int .i64 0]) (by simp [results, Tryz.results115, go_sem, hc1]) rfl ⟨rfl, ?_⟩
      exact ((hB.setCell (Nat.le_refl _) _).setCell (Nat.le_refl _) _).setCell (Nat.le_refl _) _
end Go.Proofs.YtialedffpaoacaaGreatDoor
