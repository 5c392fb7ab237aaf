/- The digest of the model. -/
import Derived.Test.YtialedffpaoacaaGreatDoorSpecBlock
import Derived.Test.YtialedffpaoacaaGreatDoorOwnM
import Derived.Test.YtialedffpaoacaaGreatDoorPadded
namespace Go.Proofs.YtialedffpaoacaaGreatDoor
open Go.RowKit

/-- A text with its mark and as many noughts as the first loop has laid. -/
def growN (t : List UInt8) (k : Nat) : List UInt8 := t ++ (128 :: List.replicate k 0)
theorem growN_length (t : List UInt8) (k : Nat) : (growN t k).length = t.length + 1 + k := by simp [growN]; omega
theorem growN_next (t : List UInt8) (k : Nat) : growN t k ++ [0] = growN t (k + 1) := by simp [growN, List.replicate_succ']
theorem growN_count (t : List UInt8) : growN t (zerosN t.length) ++ (be8 (8 * t.length)).take 8 = padN t := by
  rw [List.take_of_length_le (by rw [be8_length]; omega)]; simp [growN, padN]
theorem be8_next (n k : Nat) (hk : k < 8) : (be8 n).take (k + 1) = (be8 n).take k ++ [UInt8.ofNat (n / 2 ^ (56 - 8 * k) % 256)] := by
  obtain rfl | rfl | rfl | rfl | rfl | rfl | rfl | rfl : k = 0 ∨ k = 1 ∨ k = 2 ∨ k = 3 ∨ k = 4 ∨ k = 5 ∨ k = 6 ∨ k = 7 := by omega
  all_goals simp [be8]
def lenV : Value → Nat
  | .slice _ n _ => n
  | _ => 0
theorem cellsB_new (w : World) (e : TypeId) (b : UInt8) (x : Int) (hx : x = (b.toNat : Int)) : ∀ j u, (cellsB [b])[j]? = some u → (w.alloc (.cells #[.int .u8 x] e)).cell? ⟨w.heap.size, j, none⟩ = some u := by
  intro j u hu
  have hr := (Row.new w e [.int .u8 x]).cell j
  rw [hx] at hr ⊢
  exact hr.trans hu
theorem Row.own {w : World} {g : Nat} {e : TypeId} {l : List Value} (h : Row w g e l) (base : Nat) (hb : base ≤ g) (hm : l.length ≤ maxLen) : Own w base e (.slice (some ⟨g, 0, none⟩) l.length l.length) l :=
  ⟨by simp, .inr ⟨g, l.length, l.toArray, rfl, hb, h, Nat.le_refl _, hm, by simp, by simp⟩⟩
theorem blk_conv {w : World} {gb : Nat} {p : List UInt8} {B : Nat} (h : ∀ i, i < p.length → w.cell? ⟨gb, i, none⟩ = some (.int .u8 ((p.getD i 0).toNat : Int))) (hp : p.length = 64 * B) (k : Nat) (hk : k < B) (c : Nat) :
    (convert 150 9 (.slice (some ⟨gb, 64 * k, none⟩) 64 c)).run Tryz.prog w = .ok (.string ⟨(blk p k).toArray⟩) w := by
  have hl := blk_length p k B hp hk
  have h1 := run_convert_bytes_back (P := Tryz.prog) w 150 9 5 ⟨gb, 64 * k, none⟩ c (blk p k) Tryz.underlying150 Tryz.underlying5 Tryz.underlying9 (by
    intro j hj
    have ea : (⟨gb, 64 * k, none⟩ : Addr).add j = ⟨gb, 64 * k + j, none⟩ := Addr.add_mid gb (64 * k) j
    rw [ea, h (64 * k + j) (by omega)]
    have := blk_get p k j (by omega)
    rw [← this]
    simp [hj])
  rw [hl] at h1
  exact h1
set_option maxRecDepth 100000 in
theorem slice_blk2 (g B capb k : Nat) (hlt : k < B) (hc : 64 * B ≤ capb) (wx : World) : (Instr.slice 150 (.slice (some ⟨g, 0, none⟩) (64 * B) capb) (some (.int .i64 (64 * (k : Int)))) (some (.int .i64 (64 * (k : Int) + 64))) none).run Tryz.prog wx = .ok (.slice (some ⟨g, 64 * k, none⟩) 64 (capb - 64 * k)) wx := by
  have hu : Tryz.prog.underlying 150 = some (.slice 5) := Tryz.underlying150
  have e1 : (64 * (k : Int) + 64).toNat - (64 * (k : Int)).toNat = 64 := by omega
  have e2 : (64 * (k : Int)).toNat = 64 * k := by omega
  have h := run_slice_lh (P := Tryz.prog) (w := wx) (t := 150) (a := some ⟨g, 0, none⟩) (len := 64 * B) (cap := capb) hu .i64 .i64 (64 * (k : Int)) (64 * (k : Int) + 64) (by omega) (by omega) (by omega)
  rw [h]
  have hsize : (sizeOf (Tryz.prog.elem 150)).run Tryz.prog wx = .ok 1 wx := by kernel_rfl
  rw [hsize]
  simp only [Result.andThen, sliced]
  rw [if_neg (by omega), e1, e2]
  simp [addr0_add]
set_option maxRecDepth 100000 in
set_option maxHeartbeats 2000000 in
theorem specDigest_in (t : ByteArray) (w : World) (hz : t.size ≤ 100000) :
    Calls Tryz.prog 127 #[.string t] w fun e w' => e = .returned (.string (digestT t)) ∧ Below w.heap.size w w' := by
  obtain ⟨v0, w0, hconv, hown0, hbel0, hsz0⟩ := bytes_made (P := Tryz.prog) w 9 150 5 t Tryz.underlying9 Tryz.underlying150 Tryz.underlying5 w.heap.size (Nat.le_refl _) (by unfold maxLen; omega)
  have hz1 : t.data.toList.length = t.size := by simp
  have HZ : Hid (∀ k, k ≤ zerosN t.size → (((t.size + 1 + k : Nat) : Int) % 64 = 56 ↔ k = zerosN t.size)) := by intro k hk; unfold zerosN at *; omega
  have hzl : zerosN t.size < 64 := by unfold zerosN; omega
  have HC : Hid (growN t.data.toList (zerosN t.size) ++ (be8 (8 * t.size)).take 8 = padN t.data.toList) := by have := growN_count t.data.toList; rwa [hz1] at this
  have HL : Hid (∀ k, (growN t.data.toList k).length = t.size + 1 + k) := by intro k; rw [growN_length, hz1]
  have HD : Hid (digestT t = ⟨(outN (overN (padN t.data.toList) (blocksN t.size)).list).toArray⟩) := by show _ = _; unfold digestT digestN; rw [hz1]
  have HPL : Hid ((padN t.data.toList).length = 64 * blocksN t.size) := by show _ = _; rw [padN_length, hz1, blocksN_eq]
  have hBn : blocksN t.size ≤ 2000 := by have := blocksN_eq t.size; unfold zerosN at this; omega
  generalize digestT t = D at *
  generalize zerosN t.size = z at *
  go_enter Tryz.func127, Tryz.ntmps127
  go_wp2_with (at_builtin; refine wpList_append_mark rfl _ _ 150 rfl w.heap.size 5 Tryz.underlying150 (.int .u8 0) rfl 1 (by omega) Tryz.infoB v0 (cellsB t.data.toList) (cellsB [128]) rfl (hown0.alloc _) w0.heap.size 1 rfl ?c1 ?c2 ?c3 ?_)
  case c1 => exact cellsB_new w0 _ 128 128 rfl
  case c2 => exact cellsB_one _
  case c3 => simp [cellsB_length]; omega
  intro v1 w1 hown1 hbel1 hs1
  rw [← cellsB_append] at hown1
  have hown2 : OwnM w1 w.heap.size 5 v1 (cellsB (growN t.data.toList 0)) := hown1
  have hbel2 : Below w.heap.size w w1 := (hbel0.alloc hbel0.size _).trans hbel1
  clear hown1 hbel1 hown0 hbel0 hconv hs1
  go_wp2_with fail
  go_loopw [3] (fun v wr => ∃ (k g cap L : Nat), k ≤ z ∧ Hid (L = t.size + 1 + k) ∧ v = .slice (some ⟨g, 0, none⟩) L cap ∧ OwnM wr w.heap.size 5 v (cellsB (growN t.data.toList k)) ∧ Below w.heap.size w wr) (fun v _ => t.size + 1 + z - lenV v)
  case atStart =>
    obtain ⟨g, cap, hv, _⟩ := hown2.form
    refine ⟨0, g, cap, t.size + 1 + 0, by omega, rfl, ?_, hown2, hbel2⟩
    rw [hv, cellsB_length, HL.out]
  case round =>
    clear hown2 hbel2
    obtain ⟨k, g, cap, L, hk, HLk, rfl, hown, hbel⟩ := hrel
    by_cases hkz : k = z
    · have hT : ((L : Int) % 64 != 56) = false := by
        have := (HZ.out k hk).2 hkz
        rw [← HLk.out] at this
        simp [this]
      go_wp2_with fail
      rw [hkz] at hown
      clear hkz hk HZ hT HLk
      go_loopw [3, 5] (fun v i wx => ∃ j : Nat, j ≤ 8 ∧ i = .int .i64 (56 - 8 * (j : Int)) ∧ OwnM wx w.heap.size 5 v (cellsB (growN t.data.toList z ++ (be8 (8 * t.size)).take j)) ∧ Below w.heap.size w wx) (fun _ i _ => (intOf i + 8).toNat)
      case atStart => exact ⟨0, by omega, rfl, by rw [List.take_zero, List.append_nil]; exact hown, hbel⟩
      case round =>
        clear hown hbel
        obtain ⟨j, hj, rfl, hown, hbel⟩ := hrel
        by_cases h8 : j < 8
        · -- <2
          have HB := be8_next (8 * t.size) j h8
          have HBY : Hid (((UInt8.ofNat (8 * t.size / 2 ^ (56 - 8 * j) % 256)).toNat : Int) = (8 * (t.size : Int)) / 2 ^ (56 - 8 * j) % 256) := by
            show _ = _
            rw [UInt8.toNat_ofNat', Nat.mod_mod]; simp
          have hol : (growN t.data.toList z ++ (be8 (8 * t.size)).take j).length ≤ 200000 := by rw [List.length_append, HL.out, List.length_take]; omega
          have hexp : (56 - 8 * (j : Int)).toNat = 56 - 8 * j := by omega
          generalize (be8 (8 * t.size)).take j = lj at *
          go_wp2_with (at_builtin; refine wpList_append_mark rfl _ _ 150 rfl w.heap.size 5 Tryz.underlying150 (.int .u8 0) rfl 1 (by omega) Tryz.infoB u3 (cellsB (growN t.data.toList z ++ lj)) (cellsB [UInt8.ofNat (8 * t.size / 2 ^ (56 - 8 * j) % 256)]) rfl (hown.alloc _) wr.heap.size 1 rfl ?c1 ?c2 ?c3 ?_)
          case c1 =>
            have hnew := cellsB_new wr 5 _ _ HBY.out.symm
            intro i u hu
            exact hnew i u hu
          case c2 => exact cellsB_one _
          case c3 => rw [cellsB_length, cellsB_length]; simp at hol ⊢; omega
          intro v2 w2 hown2 hbel2 hs2
          rw [← cellsB_append, List.append_assoc, ← HB] at hown2
          go_wp2
          go_roundw
          case rel => exact ⟨j + 1, by omega, int_eq (by omega), hown2, (hbel.alloc hbel.size _).trans hbel2⟩
          case measure => simp [intOf]; omega
          -- 2>
        · obtain rfl : j = 8 := by omega
          rw [HC.out] at hown
          generalize padN t.data.toList = p at *
          generalize blocksN t.size = B at *
          obtain ⟨gb, capb, hv, hgb0, hgb, hcapb, hcb⟩ := hown.form
          rw [cellsB_length, HPL.out] at hv
          rw [cellsB_length, HPL.out] at hcapb
          have hbytes : ∀ i, i < p.length → wr.cell? ⟨gb, i, none⟩ = some (.int .u8 ((p.getD i 0).toNat : Int)) := fun i hi => hcb i _ (cellsB_get p i hi)
          have HBY : Hid (∀ i, i < p.length → wr.cell? ⟨gb, i, none⟩ = some (.int .u8 ((p.getD i 0).toNat : Int))) := hbytes
          clear hbytes hcb hown
          subst hv
          go_wp2_with fail
          refine (specStart_any _).mono ?_
          rintro e ws ⟨rfl, rs, hbs⟩
          have HBS : Hid (∀ i, i < p.length → ws.cell? ⟨gb, i, none⟩ = some (.int .u8 ((p.getD i 0).toNat : Int))) := by
            intro i hi
            rw [hbs.cell (p := ⟨gb, i, none⟩) hgb]; exact HBY.out i hi
          have hown3 : Own ws w.heap.size 2 (.slice (some ⟨wr.heap.size, 0, none⟩) 8 8) (valsI (overN p 0).list) := Row.own (l := valsI startN.list) rs w.heap.size hbel.size (by decide)
          have hbel3 : Below w.heap.size w ws := hbel.trans (hbs.mono hbel.size)
          have hgs : gb < ws.heap.size := Nat.lt_of_lt_of_le hgb hbs.size
          clear rs hbs HBY hbel
          generalize (.slice (some ⟨wr.heap.size, 0, none⟩) 8 8 : Value) = sv at *
          go_wp2_with fail
          go_loopw [6, 7] (fun v i wx => ∃ k : Nat, k ≤ B ∧ i = .int .i64 (64 * (k : Int)) ∧ Own wx w.heap.size 2 v (valsI (overN p k).list) ∧ Hid (∀ i, i < p.length → wx.cell? ⟨gb, i, none⟩ = some (.int .u8 ((p.getD i 0).toNat : Int))) ∧ gb < wx.heap.size ∧ Below w.heap.size w wx) (fun _ i _ => (64 * (B : Int) - intOf i).toNat)
          case atStart => exact ⟨0, by omega, rfl, hown3, HBS, hgs, hbel3⟩
          case round =>
            clear hown3 HBS hgs hbel3
            obtain ⟨k, hk, rfl, hown, HBY, hgw, hbel⟩ := hrel
            by_cases hlt : k < B
            · -- <3
              have hok := overN_ok p k
              have HN : Hid (overN p (k + 1) = blockN (overN p k) (blk p k)) := rfl
              have hconv := blk_conv HBY.out HPL.out k hlt (capb - 64 * k)
              have hsl := slice_blk2 gb B capb k hlt hcapb
              have hbl := blk_length p k B HPL.out hlt
              obtain ⟨gs, caps, hv, hgs0, hgs, hcaps, hcs⟩ := hown.form (by simp [valsI, S8.list])
              have hcells : ∀ j, j < 8 → wr.cell? ⟨gs, j, none⟩ = some (.int .i64 (((overN p k).list.getD j 0 : Nat) : Int)) := fun j hj => hcs j _ (valsI_get _ j (by rw [S8.list_length]; exact hj))
              have HCE : Hid (∀ j, j < 8 → wr.cell? ⟨gs, j, none⟩ = some (.int .i64 (((overN p k).list.getD j 0 : Nat) : Int))) := hcells
              have hv8 : u6 = .slice (some ⟨gs, 0, none⟩) 8 caps := hv
              clear hcells hcs hown hv
              subst hv8
              have HBT : Hid ((⟨(blk p k).toArray⟩ : ByteArray).data.toList = blk p k) := rfl
              have hbsz : (⟨(blk p k).toArray⟩ : ByteArray).size = 64 := by show (blk p k).toArray.size = 64; simp [hbl]
              generalize (⟨(blk p k).toArray⟩ : ByteArray) = bk at *
              go_wp2_with fail
              refine (specBlock_any (overN p k) bk gs caps _ hok hbsz HCE.out hgs).mono ?_
              rintro e w2 ⟨v2, rfl, hown2, hb2⟩
              rw [HBT.out, ← HN.out] at hown2
              have HB2 : Hid (∀ i, i < p.length → w2.cell? ⟨gb, i, none⟩ = some (.int .u8 ((p.getD i 0).toNat : Int))) := by
                intro i hi
                rw [hb2.cell (p := ⟨gb, i, none⟩) hgw]; exact HBY.out i hi
              have hgw2 : gb < w2.heap.size := Nat.lt_of_lt_of_le hgw hb2.size
              have hbel2 : Below w.heap.size w w2 := hbel.trans (hb2.mono hbel.size)
              have hown3 := hown2.mono hbel.size
              clear hown2 hb2 hconv hsl
              go_wp2
              go_roundw
              case rel => exact ⟨k + 1, by omega, int_eq (by omega), hown3, HB2, hgw2, hbel2⟩
              case measure => simp [intOf]; omega
              -- 3>
            · obtain rfl : k = B := by omega
              have hok := overN_ok p k
              generalize overN p k = st at *
              obtain ⟨gs, caps, hv, hgs0, hgs, hcaps, hcs⟩ := hown.form (by simp [valsI, S8.list])
              have hcells : ∀ j, j < 8 → wr.cell? ⟨gs, j, none⟩ = some (.int .i64 ((st.list.getD j 0 : Nat) : Int)) := fun j hj => hcs j _ (valsI_get _ j (by rw [S8.list_length]; exact hj))
              have HCE : Hid (∀ j, j < 8 → wr.cell? ⟨gs, j, none⟩ = some (.int .i64 ((st.list.getD j 0 : Nat) : Int))) := hcells
              have hv8 : u6 = .slice (some ⟨gs, 0, none⟩) 8 caps := hv
              clear hcells hcs hown hv HBY
              subst hv8
              go_wp2_with fail
              have hmade := Own.made wr wr.heap.size 5 (Nat.le_refl _)
              have HCE2 : Hid (∀ j, j < 8 → (wr.alloc (.cells #[] 5)).cell? ⟨gs, j, none⟩ = some (.int .i64 ((st.list.getD j 0 : Nat) : Int))) := by
                intro j hj
                rw [((Below.refl wr.heap.size wr).alloc (Nat.le_refl _) _).cell (p := ⟨gs, j, none⟩) hgs]
                exact HCE.out j hj
              have hbelA : Below w.heap.size w (wr.alloc (.cells #[] 5)) := hbel.alloc hbel.size _
              have hszA : wr.heap.size ≤ (wr.alloc (.cells #[] 5)).heap.size := by simp
              have hwA := hbel.size
              clear HCE
              generalize wr.heap.size = A at *
              go_loopw [8, 9] (fun v i wx => ∃ j : Nat, j ≤ 8 ∧ i = .int .i64 j ∧ Own wx A 5 v (cellsB (outN (st.list.take j))) ∧ Hid (∀ j, j < 8 → wx.cell? ⟨gs, j, none⟩ = some (.int .i64 ((st.list.getD j 0 : Nat) : Int))) ∧ A ≤ wx.heap.size ∧ Below w.heap.size w wx) (fun _ i _ => 8 - (intOf i).toNat)
              case atStart => exact ⟨0, by omega, rfl, hmade, HCE2, hszA, hbelA⟩
              case round =>
                clear hmade hbelA hbel HCE2 hszA
                obtain ⟨j, hj, rfl, hown, HCE, hszA, hbel⟩ := hrel
                by_cases h8 : j < 8
                · have c1 := HCE.out j h8
                  have hx := getD_lt32 (st.ok_all hok) j
                  have HT : Hid (outN (st.list.take (j + 1)) = outN (st.list.take j) ++ be4 (st.list.getD j 0)) := out_next st j h8
                  have hol : (outN (st.list.take j)).length ≤ 32 := by rw [outN_length, List.length_take]; omega
                  generalize st.list.getD j 0 = x at *
                  generalize outN (st.list.take j) = l at *
                  go_wp2_with (at_builtin; refine wpList_append_vals rfl _ _ 150 rfl A 5 Tryz.underlying150 (.int .u8 0) rfl 1 (by omega) Tryz.infoB u8 (cellsB l) (cellsB (be4 x)) rfl (hown.alloc _) wr.heap.size 4 rfl ?c1 ?c2 ?c3 ?c4 ?_)
                  case c1 =>
                    rw [be4_cells x hx]
                    intro i u hu
                    rw [(Row.new wr 5 [.int .u8 ((x : Int) / 16777216), .int .u8 ((x : Int) / 65536 % 256), .int .u8 ((x : Int) / 256 % 256), .int .u8 ((x : Int) % 256)]).cell i]
                    exact hu
                  case c2 => exact cellsB_one _
                  case c3 => simp [cellsB_length, be4]; omega
                  case c4 => simp; omega
                  · intro v' w4 hown4 hbel4
                    rw [← cellsB_append, ← HT.out] at hown4
                    have HCE4 : Hid (∀ j, j < 8 → w4.cell? ⟨gs, j, none⟩ = some (.int .i64 ((st.list.getD j 0 : Nat) : Int))) := by
                      intro i hi
                      rw [hbel4.cell (p := ⟨gs, i, none⟩) hgs, ((Below.refl wr.heap.size wr).alloc (Nat.le_refl _) _).cell (p := ⟨gs, i, none⟩) (by show gs < wr.heap.size; omega)]
                      exact HCE.out i hi
                    have hs4 : A ≤ w4.heap.size := by have := hbel4.size; simp at this; omega
                    go_wp2
                    go_roundw
                    case rel => exact ⟨j + 1, by omega, by go_num, hown4, HCE4, hs4, (hbel.alloc hbel.size _).trans (hbel4.mono hwA)⟩
                    case measure => simp [intOf]; omega
                · obtain rfl : j = 8 := by omega
                  have e8 : st.list.take 8 = st.list := rfl
                  rw [e8] at hown
                  have hol := outN_length st.list
                  have hne : outN st.list ≠ [] := by intro h; rw [h] at hol; cases hol
                  have hconv := hown.text (P := Tryz.prog) hne 150 9 Tryz.underlying150 Tryz.underlying5 Tryz.underlying9
                  rw [← HD.out] at hconv
                  clear hown hne hol
                  go_wp2
                  go_ret
                  exact ⟨rfl, hbel⟩
    · -- <1
      have hT : ((L : Int) % 64 != 56) = true := by
        have h1 := mt (HZ.out k hk).1 hkz
        rw [← HLk.out] at h1
        simpa using h1
      have hLs : L ≤ 1000000 := by have := HLk.out; omega
      have HLN := HLk.out
      go_wp2_with (at_builtin; refine wpList_append_mark rfl _ _ 150 rfl w.heap.size 5 Tryz.underlying150 (.int .u8 0) rfl 1 (by omega) Tryz.infoB _ (cellsB (growN t.data.toList k)) (cellsB [0]) rfl (hown.alloc _) wr.heap.size 1 rfl ?c1 ?c2 ?c3 ?_)
      case c1 => exact cellsB_new wr _ 0 0 rfl
      case c2 => exact cellsB_one _
      case c3 => rw [cellsB_length, cellsB_length, HL.out]; simp; omega
      intro v2 w2 hown2 hbel2 hs2
      rw [← cellsB_append, growN_next] at hown2
      go_wp2
      go_roundw
      case rel =>
        obtain ⟨g2, cap2, hv2, _⟩ := hown2.form
        rw [cellsB_length, HL.out] at hv2
        exact ⟨k + 1, g2, cap2, t.size + 1 + (k + 1), by omega, rfl, hv2, hown2, (hbel.alloc hbel.size _).trans hbel2⟩
      case measure =>
        obtain ⟨g2, cap2, hv2, _⟩ := hown2.form
        rw [cellsB_length, HL.out] at hv2
        simp [hv2, lenV]; omega
      -- 1>
end Go.Proofs.YtialedffpaoacaaGreatDoor
