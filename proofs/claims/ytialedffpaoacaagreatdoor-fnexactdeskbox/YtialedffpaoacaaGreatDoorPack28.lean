/- Texts that stand on each other, in one file: IllI. -/
import Derived.Test.YtialedffpaoacaaGreatDoorPack25
import Derived.Test.YtialedffpaoacaaGreatDoorPack21
import Derived.ArgAppend
/- What a fault tells; Ifaces appended to a new list: by the model. (Written by gen_insts.py.) -/
namespace Go.Proofs.YtialedffpaoacaaGreatDoor
open Go.RowKit Go.Sort

theorem step_append_in {P : Program} {o : Oper} {a : Act} {w w' : World} {K : Act → World → Prop} {Q : Exit → Act → World → Prop} (s x : Operand) (t : Array TypeId) (hop : o.op = .call { callee := .builtin .append, args := #[s, x], argTypes := t }) (v' : Value) (hrun : (Builtin.append_ t o.type #[a.eval s, a.eval x]).run P w = .ok v' w') (h : K (a.put o.dst v') w') : Oper.wp P o a w K Q := by
  unfold Oper.wp execOp
  simp only [hop, resolve, invoke, builtin, Sem.run_bind, Sem.run_pure, Result.andThen_ok, List.map_toArray, List.map_cons, List.map_nil, hrun]
  exact h
set_option maxRecDepth 100000 in
set_option maxHeartbeats 2000000 in
theorem l07Ill_any (c : Int) (w : World) : Calls Tryz.prog 62 #[.int .i64 c] w fun e w' => e = .returned (.agg #[.slice none 0 0, .slice none 0 0, .int .i64 0, .int .i64 c]) ∧ Below w.heap.size w w' := by
  go_enter Tryz.func62, Tryz.ntmps62
  go_wp2_with fail
  exact bodyPost_ret (v := .agg #[.slice none 0 0, .slice none 0 0, .int .i64 0, .int .i64 c]) (by simp [results, Tryz.results62, go_sem]) rfl ⟨rfl, ent_new0 _ _⟩
theorem run_append_ifs0 (w : World) (B g : Nat) (x : Option Addr) (c : Nat) (is : List If) (ty : TypeId) (hown : w.ownsRow B 72 5 (.slice (some ⟨g, 0, none⟩) 0 0) 0 (rowI [])) (h : IfsIn w x is) (hc : x = none → c = 0) (hn : is.length ≤ 100000000) (hB : B ≤ w.heap.size) :
    ∃ q c' w', (Builtin.append_ #[46, 46] ty #[.slice (some ⟨g, 0, none⟩) 0 0, .slice x is.length c]).run Tryz.prog w = .ok (.slice q is.length c') w' ∧ w'.ownsRow B 72 5 (.slice q is.length c') is.length (rowI is) ∧ Below w.heap.size w w' := by
  obtain ⟨i0, hi0, hz0, hz1, hz2⟩ := info_parts Tryz.infoI
  cases x with
  | none =>
    obtain rfl := ifsIn_none h rfl
    obtain rfl := hc rfl
    exact ⟨_, _, w, ownsI_none hown ty, hown, Below.refl _ _⟩
  | some ad =>
    rcases h with rfl | ⟨gx, e, _, hcell⟩
    · have := run_append_room_cells (P := Tryz.prog) w 46 ty 72 i0 Tryz.underlying46 hi0 g 0 0 0 ad 0 c [] (by simp) (fun j u hj => by simp at hj) (fun u hu => by simp at hu) (Nat.le_refl _) (fun j hj => by simp at hj) (fun j hj => by simp at hj)
      exact ⟨_, _, w, this, hown, Below.refl _ _⟩
    · cases e
      by_cases h0 : is = []
      · subst h0
        have := run_append_room_cells (P := Tryz.prog) w 46 ty 72 i0 Tryz.underlying46 hi0 g 0 0 0 ⟨gx, 0, none⟩ 0 c [] (by simp) (fun j u hj => by simp at hj) (fun u hu => by simp at hu) (Nat.le_refl _) (fun j hj => by simp at hj) (fun j hj => by simp at hj)
        exact ⟨_, _, w, this, hown, Below.refl _ _⟩
      · have hp : 0 < is.length := List.length_pos_iff.2 h0
        obtain ⟨v', w', hr, h2, h3⟩ := run_append_arg_grows (P := Tryz.prog) w 46 ty 72 i0 _ 5 40 Tryz.underlying46 hi0 hz0 hz1 hz2 rfl (by decide) ⟨g, 0, none⟩ 0 0 [] (by simp) (fun j u hj => by simp at hj) ⟨gx, 0, none⟩ is.length c (rowI is) (by rw [rowI_length]; omega) (fun j u hj => by rw [addR, Nat.zero_add]; exact hcell j u hj) (by omega) (by unfold maxLen; omega) (by omega)
        rw [Nat.zero_add, List.nil_append] at h2
        obtain ⟨q, c', rfl⟩ := ownsI_shape h2
        exact ⟨q, c', w', hr, ownsI_mono h2 hB, (Below.refl _ w).grown h3 (Nat.le_refl _) fun k hk => by cases hk⟩
theorem ifs_cells {w : World} {x : Option Addr} {is : List If} (h : IfsIn w x is) : ∀ ad, x = some ad → ∀ j u, (rowI is)[j]? = some u → w.cell? (ad.add j) = some u := by
  rintro ad rfl j u hj
  rcases h with rfl | ⟨g, e, _, hc⟩
  · simp [rowI] at hj
  · cases e
    rw [addR, Nat.zero_add]
    exact hc j u hj
end Go.Proofs.YtialedffpaoacaaGreatDoor
