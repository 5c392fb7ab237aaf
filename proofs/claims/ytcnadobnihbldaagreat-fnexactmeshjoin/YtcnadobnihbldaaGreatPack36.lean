/- Texts that stand on each other, in one file: RaiseI. -/
import Derived.Test.YtcnadobnihbldaaGreatPack34
import Derived.Test.YtcnadobnihbldaaGreatPack22
/- An Iface is raised: it is up, and its net in the table. (Written by gen_insti.py.) -/
namespace Go.Proofs.YtcnadobnihbldaaGreat
open Go.RowKit Go.Sort

set_option maxRecDepth 100000 in
set_option maxHeartbeats 2000000 in
theorem raise_any (base : Nat) (is : List If) (rs : List Rt) (now : Int) (g k : Nat) (w : World) (h : AtW base is rs now g w) (hk : k < is.length) (hn2 : rs.length ≤ 100000000) :
    Calls Tryz.prog 61 #[.pointer (some ⟨g, 0, none⟩), .int .i64 k] w fun e w' => e = .returned (.int .i64 (ownO rs is[k].a is[k].l k).1) ∧ AtW base (setU is k true) (if (ownO rs is[k].a is[k].l k).1 = 0 then (ownO rs is[k].a is[k].l k).2 else rs) now g w' ∧ Below base w w' := by
  have HO : Hid (∀ w, AtW base (setU is k true) rs now g w → Calls Tryz.prog 103 #[.pointer (some ⟨g, 0, none⟩), .agg #[.int .i64 is[k].a, .int .i64 is[k].l], .int .i64 k] w fun e w' => e = .returned (.int .i64 (ownO rs is[k].a is[k].l k).1) ∧ AtW base (setU is k true) (if (ownO rs is[k].a is[k].l k).1 = 0 then (ownO rs is[k].a is[k].l k).2 else rs) now g w' ∧ Below base w w') := fun w h => ownW_any base _ rs now g is[k].a is[k].l k w h hn2
  obtain ⟨b, k1, y1, ⟨u0, y2⟩, y3, hbb, hbl, -, hup⟩ := atW_up h k hk
  have hat2 := hup true
  have hl2 : (setU is k true).length = is.length := setU_length is k true
  have hke : (setU is k true)[k]'(by rw [hl2]; exact hk) = ⟨is[k].d, is[k].a, is[k].l, is[k].c, true⟩ := by rw [setU_get is k k true hk, if_pos rfl]
  generalize hf : is[k] = f at *
  clear hf
  obtain ⟨d, a, l, c, u⟩ := f
  simp only at HO hke ⊢
  have zk : (k : Int) < (is.length : Int) := by omega
  have hB := (Below.refl base w).setCell (p := ⟨b, k * 5 + 4, none⟩) hbb (.bool true)
  obtain ⟨q1, k1', q2, k2, t0, t1, t2, t3, oi⟩ := atW_cells hat2
  obtain ⟨b', d', a', l', c', u', rfl, -, hek, e0, e1, e2, e3, e4⟩ := (ownsI_in rfl oi).at k (by rw [hl2]; exact hk)
  rw [hke] at hek
  cases hek
  rw [hl2] at t1
  have HH : Hid _ := And.intro hat2 hB
  clear h hat2 hB hup hke oi hl2 hn2
  generalize ownO rs a l k = RR at *
  generalize (if RR.1 = 0 then RR.2 else rs) = R2 at *
  go_enter Tryz.func61, Tryz.ntmps61
  go_wp2_with fail
  obtain ⟨hat, hB⟩ := HH.out
  generalize w.setCell ⟨b, k * 5 + 4, none⟩ (.bool true) = W2 at *
  clear y1 y2 y3 HH
  refine wp_region_tail 12 (by kernel_rfl) (by kernel_rfl) ?_
  simp only [List.take_succ_cons, List.take_zero, List.drop_succ_cons, List.drop_zero]
  repeat (quiet_step (fail))
  refine wpQuiet_nil ?_
  intro _ hw'
  obtain ⟨nq, hw''⟩ := hw'
  subst hw''
  go_wp2_with fail
  refine (HO.out _ (atW_drewN nq hat)).mono ?_
  rintro e w3 ⟨rfl, hat, hb3⟩
  have hB := (below_drewN hB nq).trans hb3
  clear hb3 HO t0 t1 t2 t3 e0 e1 e2 e3 e4
  go_wp2
  go_ret
  exact ⟨rfl, hat, hB⟩
end Go.Proofs.YtcnadobnihbldaaGreat
