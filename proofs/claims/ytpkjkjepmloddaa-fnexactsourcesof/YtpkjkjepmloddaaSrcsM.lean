/- What SourcesOf tells, in plain lists. (Written by gen_srcs.py.) -/
import Derived.Test.YtpkjkjepmloddaaCmpM
import Derived.Test.YtpkjkjepmloddaaLksR
namespace Go.Proofs.Ytpkjkjepmloddaa
open Go.RowKit Go.Sort

/-- Is v the tenant itself, or one from whom a rule leads to it? -/
def srcIn (ls : List Lk) (to v : Int) : Bool := v == to || ls.any fun x => x.tt == to && x.fr == v
def srcJ (ls : List Lk) (to : Int) : List Int := ([0, 1, 2] : List Int).filter (srcIn ls to)
def srcsO (ls : List Lk) (to : Int) : List Int := if (lksB ls && inPt to) = true then srcJ ls to else []
/-- As the program gathers them. -/
def srcW (ls : List Lk) (to : Int) : List Int := to :: ls.filterMap fun x => if x.tt = to then some x.fr else none
theorem srcW_snoc (ls : List Lk) (x : Lk) (to : Int) : srcW (ls ++ [x]) to = srcW ls to ++ (if x.tt = to then [x.fr] else []) := by
  unfold srcW
  rw [List.filterMap_append, ← List.cons_append]
  congr 1
  by_cases h : x.tt = to <;> simp [h]
theorem srcW_le (ls : List Lk) (to : Int) : (srcW ls to).length ≤ ls.length + 1 := by
  unfold srcW
  rw [List.length_cons]
  have := List.length_filterMap_le (fun x : Lk => if x.tt = to then some x.fr else none) ls
  omega
theorem lksB_spec {ls : List Lk} (h : lksB ls = true) : ls.length ≤ 4 ∧ ∀ x ∈ ls, 0 ≤ x.fr ∧ x.fr ≤ 2 := by
  unfold lksB at h
  simp only [Bool.and_eq_true, decide_eq_true_eq, List.all_eq_true] at h
  refine ⟨h.1, fun x hx => ?_⟩
  have := h.2 x hx
  unfold lkB inPt at this
  simp only [Bool.and_eq_true, decide_eq_true_eq] at this
  exact this.1
theorem srcJ_pair (ls : List Lk) (to : Int) : (srcJ ls to).Pairwise (· < ·) := List.Pairwise.filter _ (by decide)
theorem srcJ_of {ls : List Lk} {to : Int} (h : lksB ls = true) (ht : inPt to = true) {ds out : List Int} (hp : ds.Perm (srcW ls to)) (ho : OnceJ ds out) : out = srcJ ls to := by
  obtain ⟨-, hr⟩ := lksB_spec h
  unfold inPt at ht
  simp only [decide_eq_true_eq] at ht
  refine pair_ext _ _ (rise_pair _ ho.1) (srcJ_pair ls to) fun x => ?_
  rw [ho.2 x, hp.mem_iff]
  unfold srcJ srcIn srcW
  simp only [List.mem_filter, List.mem_cons, List.not_mem_nil, or_false, Bool.or_eq_true, beq_iff_eq, List.any_eq_true, Bool.and_eq_true, List.mem_filterMap]
  constructor
  · rintro (rfl | ⟨y, hy, he⟩)
    · exact ⟨by omega, .inl rfl⟩
    · by_cases hyt : y.tt = to
      · rw [if_pos hyt] at he
        cases he
        have := hr y hy
        exact ⟨by omega, .inr ⟨y, hy, hyt, rfl⟩⟩
      · rw [if_neg hyt] at he
        cases he
  · rintro ⟨_, rfl | ⟨y, hy, hyt, rfl⟩⟩
    · exact .inl rfl
    · exact .inr ⟨y, hy, by rw [if_pos hyt]⟩
/-- The first k numbers of three. -/
def srcK (ls : List Lk) (to : Int) (k : Nat) : List Int := (([0, 1, 2] : List Int).take k).filter (srcIn ls to)
theorem srcK_next (ls : List Lk) (to : Int) (k : Nat) (hk : k < 3) : srcK ls to (k + 1) = srcK ls to k ++ (if srcIn ls to (k : Int) = true then [(k : Int)] else []) := by
  unfold srcK
  match k, hk with
  | 0, _ => cases h : srcIn ls to 0 <;> simp_all
  | 1, _ => cases h : srcIn ls to 0 <;> cases h1 : srcIn ls to 1 <;> simp_all
  | 2, _ => cases h : srcIn ls to 0 <;> cases h1 : srcIn ls to 1 <;> cases h2 : srcIn ls to 2 <;> simp_all
theorem srcK_all (ls : List Lk) (to : Int) : srcK ls to 3 = srcJ ls to := rfl
theorem srcK_le (ls : List Lk) (to : Int) (k : Nat) : (srcK ls to k).length ≤ 3 := by
  have h1 := List.length_filter_le (srcIn ls to) (([0, 1, 2] : List Int).take k)
  have h2 : (([0, 1, 2] : List Int).take k).length ≤ 3 := by rw [List.length_take]; simp; omega
  unfold srcK
  omega
/-- What the model has found of v by the first j rules. -/
def srcB (ls : List Lk) (to v : Int) (j : Nat) : Bool := v == to || (ls.take j).any fun x => x.tt == to && x.fr == v
theorem srcB_next (ls : List Lk) (to v : Int) (j : Nat) (hj : j < ls.length) : srcB ls to v (j + 1) = (srcB ls to v j || (ls[j].tt == to && ls[j].fr == v)) := by
  unfold srcB
  rw [List.take_add_one, List.getElem?_eq_getElem hj, Option.toList_some, List.any_append, List.any_cons, List.any_nil, Bool.or_false, Bool.or_assoc]
theorem srcB_all (ls : List Lk) (to v : Int) : srcB ls to v ls.length = srcIn ls to v := by unfold srcB srcIn; rw [List.take_length]
end Go.Proofs.Ytpkjkjepmloddaa
