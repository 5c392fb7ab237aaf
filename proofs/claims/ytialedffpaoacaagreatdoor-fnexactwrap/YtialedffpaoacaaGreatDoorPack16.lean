/- Texts that stand on each other, in one file: RipI. -/
import Derived.Test.YtialedffpaoacaaGreatDoorPack12
import Derived.Test.YtialedffpaoacaaGreatDoorPack9
import Derived.Test.YtialedffpaoacaaGreatDoorPack8
import Derived.Test.YtialedffpaoacaaGreatDoorPack6
/- What routers say in bytes, of the program. -/
namespace Go.Proofs.YtialedffpaoacaaGreatDoor
open Go.RowKit Go.Sort

theorem in_i64 (x : Int) (h0 : 0 ≤ x) (h1 : x ≤ 4294967295) : (-9223372036854775808 : Int) ≤ x ∧ x ≤ 9223372036854775807 := by omega
theorem or_two (c : Int) (h : c = 1 ∨ c = 2) : bits .or .i64 (c * 256) 2 = c * 256 + 2 := by
  rcases h with rfl | rfl <;> rfl
theorem entNs_all (a l n m t : Int) (ha : 0 ≤ a ∧ a ≤ 4294967295) (hn : 0 ≤ n ∧ n ≤ 4294967295) (hm : 1 ≤ m ∧ m ≤ 16) (ht : 0 ≤ t ∧ t ≤ 65535) :
    ∀ x ∈ ([2, t, a / 65536, a, maskV l / 65536, maskV l, n / 65536, n, 0, m] : List Int), (-9223372036854775808 : Int) ≤ x ∧ x ≤ 9223372036854775807 := by
  have := maskV_range l
  exact List.forall_mem_cons.2 ⟨in_i64 _ (by omega) (by omega), List.forall_mem_cons.2 ⟨in_i64 _ (by omega) (by omega), List.forall_mem_cons.2 ⟨in_i64 _ (by omega) (by omega), List.forall_mem_cons.2 ⟨in_i64 _ (by omega) (by omega), List.forall_mem_cons.2 ⟨in_i64 _ (by omega) (by omega), List.forall_mem_cons.2 ⟨in_i64 _ (by omega) (by omega), List.forall_mem_cons.2 ⟨in_i64 _ (by omega) (by omega), List.forall_mem_cons.2 ⟨in_i64 _ (by omega) (by omega), List.forall_mem_cons.2 ⟨in_i64 _ (by omega) (by omega), List.forall_mem_cons.2 ⟨in_i64 _ (by omega) (by omega), by simp⟩⟩⟩⟩⟩⟩⟩⟩⟩⟩
set_option maxRecDepth 100000 in
set_option maxHeartbeats 1000000 in
theorem implEntryPut_any (e : Ent) (w : World) (he : entB e = true) :
    Calls Tryz.prog 199 #[entV e] w fun r w' => ∃ v, r = .returned v ∧ Own w' w.heap.size 5 v (cellsB (entBy e)) ∧ Below w.heap.size w w' := by
  obtain ⟨a, l, n, m, t⟩ := e
  obtain ⟨ha, hl, _, hn, hm, ht⟩ := entB_spec he
  have hall := entNs_all a l n m t ha hn hm ht
  have HM : Hid (∀ w, Calls Tryz.prog 164 #[.int .i64 l] w fun e w' => e = .returned (.int .i64 (maskV l)) ∧ w = w') := implMask_any l
  have HW : Hid (∀ (W : World) g, Row W g 2 (valsN [2, t, a / 65536, a, maskV l / 65536, maskV l, n / 65536, n, 0, m]) → Calls Tryz.prog 149 #[.slice (some ⟨g, 0, none⟩) 10 10] W fun e w' => ∃ u, e = .returned u ∧ Own w' W.heap.size 5 u (cellsB (entBy ⟨a, l, n, m, t⟩)) ∧ Below W.heap.size W w') :=
    fun W g hr => implWords_any [2, t, a / 65536, a, maskV l / 65536, maskV l, n / 65536, n, 0, m] g 10 W hr rfl (by simp) hall
  have hmr := maskV_range l
  generalize entBy ⟨a, l, n, m, t⟩ = EB at *
  unfold entV
  simp only
  generalize maskV l = M at *
  clear hall he
  go_enter Tryz.func199, Tryz.ntmps199
  go_wp2_with fail
  refine (HM.out _).mono ?_
  rintro e w1 ⟨rfl, rfl⟩
  go_wp2_with fail
  have hrow : Row ((w.alloc (.cells #[.int .i64 a, .int .i64 l, .int .i64 n, .int .i64 m, .int .i64 t] 146)).alloc (.cells #[.int .i64 2, .int .i64 t, .int .i64 (a / 65536), .int .i64 a, .int .i64 (M / 65536), .int .i64 M, .int .i64 (n / 65536), .int .i64 n, .int .i64 0, .int .i64 m] 2)) (w.heap.size + 1) 2 [.int .i64 2, .int .i64 t, .int .i64 (a / 65536), .int .i64 a, .int .i64 (M / 65536), .int .i64 M, .int .i64 (n / 65536), .int .i64 n, .int .i64 0, .int .i64 m] := by
    have h := Row.new (w.alloc (.cells #[.int .i64 a, .int .i64 l, .int .i64 n, .int .i64 m, .int .i64 t] 146)) 2 [.int .i64 2, .int .i64 t, .int .i64 (a / 65536), .int .i64 a, .int .i64 (M / 65536), .int .i64 M, .int .i64 (n / 65536), .int .i64 n, .int .i64 0, .int .i64 m]
    rwa [show (w.alloc (.cells #[.int .i64 a, .int .i64 l, .int .i64 n, .int .i64 m, .int .i64 t] 146)).heap.size = w.heap.size + 1 by simp] at h
  refine (HW.out _ _ hrow).mono ?_
  rintro e w1 ⟨u, rfl, ho, hb⟩
  have hB : Below w.heap.size w w1 := ((ent_new0 w (.cells #[.int .i64 a, .int .i64 l, .int .i64 n, .int .i64 m, .int .i64 t] 146)).alloc (by simp) _).trans (hb.mono (by simp; omega))
  go_wp2
  go_ret
  exact ⟨_, rfl, ho.mono (by simp; omega), hB⟩
set_option maxRecDepth 100000 in
set_option maxHeartbeats 1000000 in
theorem implRipBytes_any (c : Int) (p : Option Addr) (cap : Nat) (es : List Ent) (w : World) (h : EntsIn w p es) (hn : es.length ≤ 100000000) :
    Calls Tryz.prog 181 #[ripV c p es.length cap] w fun e w' => e = .returned (.string (ripO c es)) ∧ Below w.heap.size w w' := by
  have HR : Hid (∀ w, EntsIn w p es → Calls Tryz.prog 198 #[ripV c p es.length cap] w fun e w' => e = .returned (.bool (ripB c es)) ∧ Below w.heap.size w w') := fun w h => implRipRight_any c p cap es w h hn
  have HX : Hid (EntsIn w p es) := h
  clear h
  unfold ripV at *
  by_cases hr : ripB c es = true
  · obtain ⟨hc, h8, ha⟩ := ripB_spec hr
    have HO : Hid (ripO c es = ripT c es) := if_pos hr
    rw [hr] at HR
    have hor := or_two c hc
    have hc0 : 1 ≤ c ∧ c ≤ 2 := by omega
    have hw1 := wrap_i64_in (c * 256) (by omega) (by omega)
    have HA : Hid (es.all entB = true) := ha
    have HE : Hid (∀ e, entB e = true → ∀ w, Calls Tryz.prog 199 #[entV e] w fun r w' => ∃ v, r = .returned v ∧ Own w' w.heap.size 5 v (cellsB (entBy e)) ∧ Below w.heap.size w w') := fun e he w => implEntryPut_any e w he
    have HW : Hid (∀ (W : World) g, Row W g 2 (valsN [c * 256 + 2, 0]) → Calls Tryz.prog 149 #[.slice (some ⟨g, 0, none⟩) 2 2] W fun e w' => ∃ u, e = .returned u ∧ Own w' W.heap.size 5 u (cellsB (ripHd c)) ∧ Below W.heap.size W w') :=
      fun W g hr => implWords_any [c * 256 + 2, 0] g 2 W hr rfl (by simp) (by intro n hn; simp only [List.mem_cons, List.not_mem_nil, or_false] at hn; omega)
    clear hr ha hc
    generalize ripO c es = RO at *
    go_enter Tryz.func181, Tryz.ntmps181
    go_wp2_with fail
    refine (HR.out _ (HX.out.alloc _)).mono ?_
    rintro e w1 ⟨rfl, hb1⟩
    obtain ⟨c0, c1, hs1, hB1⟩ := cell2_later rfl hb1
    clear hb1 HR
    go_wp2_with fail
    have hrow := Row.new w1 2 [.int .i64 (c * 256 + 2), .int .i64 0]
    refine (HW.out _ _ hrow).mono ?_
    rintro e w2 ⟨u, rfl, ho, hb2⟩
    have hb2' : Below w1.heap.size w1 w2 := (ent_new0 w1 (.cells #[.int .i64 (c * 256 + 2), .int .i64 0] 2)).trans (hb2.mono (by simp))
    obtain ⟨d0, d1⟩ : w2.cell? ⟨w.heap.size, 0, none⟩ = some (.int .i64 c) ∧ w2.cell? ⟨w.heap.size, 1, none⟩ = some (.slice p es.length cap) := ⟨by rw [hb2'.cell (p := ⟨w.heap.size, 0, none⟩) hs1]; exact c0, by rw [hb2'.cell (p := ⟨w.heap.size, 1, none⟩) hs1]; exact c1⟩
    have hB2 : Below w.heap.size w w2 := hB1.trans (hb2'.mono hB1.size)
    have ho2 : Own w2 w.heap.size 5 u (cellsB (ripHd c ++ entsBy (es.take 0))) := by
      have := ho.mono (base' := w.heap.size) (by have := hB1.size; simp; omega)
      rwa [List.take_zero, show entsBy [] = [] from rfl, List.append_nil]
    clear hb2 hb2' c0 c1 ho hrow HW hor hw1
    go_wp2_with fail
    go_loopw [3, 18] (fun v i wr => ∃ k : Nat, k ≤ es.length ∧ i = .int .i64 k ∧ Own wr w.heap.size 5 v (cellsB (ripHd c ++ entsBy (es.take k))) ∧ Below w.heap.size w wr) (fun _ i _ => es.length - (intOf i).toNat)
    case atStart => exact ⟨0, Nat.zero_le _, rfl, ho2, hB2⟩
    case round =>
      obtain ⟨k, hk, rfl, hown, hb⟩ := hrel
      clear ho2 hB2 d0 d1
      by_cases hlt : k < es.length
      · obtain ⟨g, a, l, n, m, t, rfl, hg, hek, c0, c1, c2, c3, c4⟩ := (HX.out.below hb).at k hlt
        have hgood := all_at HA.out k hlt
        have hnext := entsBy_next es k hlt
        rw [hek] at hgood hnext
        have HN : Hid _ := hnext
        have HEk : Hid (∀ w, Calls Tryz.prog 199 #[.agg #[.int .i64 a, .int .i64 l, .int .i64 n, .int .i64 m, .int .i64 t]] w fun r w' => ∃ v, r = .returned v ∧ Own w' w.heap.size 5 v (cellsB (entBy ⟨a, l, n, m, t⟩)) ∧ Below w.heap.size w w') := HE.out ⟨a, l, n, m, t⟩ hgood
        have hel := entBy_length ⟨a, l, n, m, t⟩
        have hll : (ripHd c ++ entsBy (es.take k)).length ≤ 1000 := by rw [List.length_append, ripHd_length, entsBy_length, List.length_take]; omega
        clear hnext hek hgood HE
        generalize entBy ⟨a, l, n, m, t⟩ = EB at *
        go_wp2_with fail
        refine (HEk.out _).mono ?_
        rintro e w3 ⟨u3, rfl, ho3, hb3⟩
        have hne : cellsB EB ≠ [] := by intro h0; have := congrArg List.length h0; rw [cellsB_length, hel] at this; simp at this
        obtain ⟨g3, cap3, rfl, hg30, hg3, hc3, hcc⟩ := ho3.form hne
        have hB3a := (ent_new0 wr (.cells #[.int .i64 a, .int .i64 l, .int .i64 n, .int .i64 m, .int .i64 t] 146)).trans (hb3.mono (by simp))
        have hown3 := hown.below hB3a
        have hB3 := hb.trans (hB3a.mono hb.size)
        have HC : Hid (∀ j u, (cellsB EB)[j]? = some u → w3.cell? ⟨g3, 0 + j, none⟩ = some u) := fun j u hj => by rw [Nat.zero_add]; exact hcc j u hj
        rw [cellsB_length] at *
        clear hown hb3 hB3a ho3 HEk c0 c1 c2 c3 c4 hcc hne
        have HLE : Hid (∃ LL, LL = ripHd c ++ entsBy (es.take k)) := ⟨_, rfl⟩
        obtain ⟨LL, hLL⟩ := HLE.out
        rw [← hLL] at hown3 hll
        have hsum : LL.length + EB.length ≤ 1000000000 := by omega
        have HLL : Hid _ := hLL
        have hbs := hB3.size
        clear hel hLL HLE hll
        go_wp2_with (at_builtin; refine wpList_append_bytes rfl _ _ 150 rfl w.heap.size 5 Tryz.underlying150 Tryz.infoB _ LL EB rfl hown3 g3 0 cap3 rfl HC.out hsum hbs ?_)
        intro v4 w4 hown4 hb4
        have hB4 := hB3.trans hb4
        rw [HLL.out, List.append_assoc, ← HN.out] at hown4
        clear HC hB3 hb4 HN hown3
        go_wp2
        go_roundw
        case rel => exact ⟨k + 1, hlt, by go_num, hown4, hB4⟩
        case measure => simp [intOf]; omega
      · obtain rfl : k = es.length := by omega
        rw [List.take_length] at hown
        have hconv := own_conv (t := RO) hown (by intro h0; have := congrArg List.length h0; rw [List.length_append, ripHd_length] at this; simp at this) (by rw [HO.out]; rfl)
        clear hlt hk
        go_wp2
        go_ret
        exact ⟨rfl, hb⟩
  · have HO : Hid (ripO c es = ByteArray.empty) := if_neg hr
    have hr' : ripB c es = false := by simpa using hr
    rw [hr'] at HR
    rw [HO.out]
    go_enter Tryz.func181, Tryz.ntmps181
    go_wp2_with fail
    refine (HR.out _ (HX.out.alloc _)).mono ?_
    rintro e w1 ⟨rfl, hb1⟩
    have hB1 := (ent_new0 w _).trans (hb1.mono (by simp))
    clear hb1
    go_wp2
    go_ret
    exact ⟨rfl, hB1⟩
end Go.Proofs.YtialedffpaoacaaGreatDoor
