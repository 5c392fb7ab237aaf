/- Ifaces that are unlike: by the program. (Written by gen_ifsr.py.) -/
import Derived.Test.YtflmbkjnlgibnaaIfs
namespace Go.Proofs.Ytflmbkjnlgibnaa
open Go.RowKit Go.Sort

def likeI (f g : If) : Bool := decide (f.d = g.d) || (decide (f.a = g.a) && decide (f.l = g.l))
def unlikeB (f : If) (rs : List If) : Bool := rs.all fun g => !likeI f g
theorem unlikeB_bad {f : If} {rs : List If} {k : Nat} (hk : k < rs.length) (h : likeI f rs[k] = true) : unlikeB f rs = false := by
  unfold unlikeB
  rw [List.all_eq_false]
  exact ⟨rs[k], List.getElem_mem hk, by simp [h]⟩
theorem unlikeB_good {f : If} {rs : List If} (h : ∀ j (hj : j < rs.length), likeI f rs[j] = false) : unlikeB f rs = true := by
  unfold unlikeB
  rw [List.all_eq_true]
  intro g hg
  obtain ⟨j, hj, rfl⟩ := List.mem_iff_getElem.1 hg
  simp [h j hj]
set_option maxRecDepth 100000 in
set_option maxHeartbeats 2000000 in
theorem unlike_any (f : If) (p : Option Addr) (cap : Nat) (rs : List If) (w : World) (h : IfsIn w p rs) (hn : rs.length ≤ 100000000) :
    Calls Try.prog 76 #[ifV f, .slice p rs.length cap] w fun e w' => e = .returned (.bool (unlikeB f rs)) ∧ Below w.heap.size w w' := by
  have HX : Hid (IfsIn w p rs) := h
  have HB1 : Hid (∀ k (hk : k < rs.length), likeI f rs[k] = true → unlikeB f rs = false) := fun k hk h => unlikeB_bad hk h
  have HG : Hid ((∀ j (hj : j < rs.length), likeI f rs[j] = false) → unlikeB f rs = true) := fun h => unlikeB_good h
  clear h
  generalize unlikeB f rs = R at *
  obtain ⟨d, a, l, c, u⟩ := f
  unfold ifV ifA
  simp only
  go_enter Try.func76, Try.ntmps76
  go_wp2_with fail
  go_loopw [9] (fun i wr => ∃ k : Nat, k ≤ rs.length ∧ i = .int .i64 k ∧ (∀ j (hj : j < rs.length), j < k → likeI ⟨d, a, l, c, u⟩ rs[j] = false) ∧ Row wr w.heap.size 82 [.int .i64 d, .int .i64 a, .int .i64 l, .int .i64 c, .bool u] ∧ Below w.heap.size w wr) (fun i _ => rs.length - (intOf i).toNat)
  case atStart => exact ⟨0, Nat.zero_le _, rfl, fun j _ hj => absurd hj (by omega), Row.new w 82 [.int .i64 d, .int .i64 a, .int .i64 l, .int .i64 c, .bool u], ent_new0 w _⟩
  case round =>
    obtain ⟨k, hk, rfl, ha, q, hB⟩ := hrel
    by_cases hlt : k < rs.length
    · have d1 : decide ((k : Int) < (rs.length : Int)) = true := by simpa using hlt
      obtain ⟨g, D, A, L, C, U, rfl, hg, hek, c0, c1, c2, c3, c4⟩ := (HX.out.below hB).at k hlt
      have HBad : Hid (likeI ⟨d, a, l, c, u⟩ rs[k] = true → R = false) := HB1.out k hlt
      have hNx : likeI ⟨d, a, l, c, u⟩ rs[k] = false → ∀ j (hj : j < rs.length), j < k + 1 → likeI ⟨d, a, l, c, u⟩ rs[j] = false := fun h j hj hjk => by
        rcases Nat.lt_or_ge j k with h' | h'
        · exact ha j hj h'
        · obtain rfl : j = k := by omega
          exact h
      have hBr := hB.alloc hB.size (.cells #[.int .i64 D, .int .i64 A, .int .i64 L, .int .i64 C, .bool U] 82)
      clear HB1 HG ha hB
      by_cases e0 : d = D
      · have z0 : (d == D) = true := by simpa using e0
        subst e0
        clear hNx
        have p := q.alloc (.cells #[.int .i64 d, .int .i64 A, .int .i64 L, .int .i64 C, .bool U] 82)
        have f0 : (wr.alloc (.cells #[.int .i64 d, .int .i64 A, .int .i64 L, .int .i64 C, .bool U] 82)).cell? ⟨w.heap.size, 0, none⟩ = some (.int .i64 d) := p.cell 0
        have f1 : (wr.alloc (.cells #[.int .i64 d, .int .i64 A, .int .i64 L, .int .i64 C, .bool U] 82)).cell? ⟨w.heap.size, 1, none⟩ = some (.int .i64 a) := p.cell 1
        have f2 : (wr.alloc (.cells #[.int .i64 d, .int .i64 A, .int .i64 L, .int .i64 C, .bool U] 82)).cell? ⟨w.heap.size, 2, none⟩ = some (.int .i64 l) := p.cell 2
        clear p
        go_wp2_with fail
        go_ret
        exact ⟨ret_bool (HBad.out (by rw [hek]; simp [likeI, *])).symm, hBr⟩
      · have z0 : (d == D) = false := by simpa using e0
        by_cases e1 : a = A
        · have z1 : (a == A) = true := by simpa using e1
          by_cases e2 : l = L
          · have z2 : (l == L) = true := by simpa using e2
            subst e1 e2
            clear hNx
            have p := q.alloc (.cells #[.int .i64 D, .int .i64 a, .int .i64 l, .int .i64 C, .bool U] 82)
            have f0 : (wr.alloc (.cells #[.int .i64 D, .int .i64 a, .int .i64 l, .int .i64 C, .bool U] 82)).cell? ⟨w.heap.size, 0, none⟩ = some (.int .i64 d) := p.cell 0
            have f1 : (wr.alloc (.cells #[.int .i64 D, .int .i64 a, .int .i64 l, .int .i64 C, .bool U] 82)).cell? ⟨w.heap.size, 1, none⟩ = some (.int .i64 a) := p.cell 1
            have f2 : (wr.alloc (.cells #[.int .i64 D, .int .i64 a, .int .i64 l, .int .i64 C, .bool U] 82)).cell? ⟨w.heap.size, 2, none⟩ = some (.int .i64 l) := p.cell 2
            clear p
            go_wp2_with fail
            go_ret
            exact ⟨ret_bool (HBad.out (by rw [hek]; simp [likeI, *])).symm, hBr⟩
          · have z2 : (l == L) = false := by simpa using e2
            have HNx : Hid _ := hNx (by rw [hek]; simp [likeI, e0, e2])
            clear HBad hek hNx e0 e1 e2
            have p := q.alloc (.cells #[.int .i64 D, .int .i64 A, .int .i64 L, .int .i64 C, .bool U] 82)
            have f0 : (wr.alloc (.cells #[.int .i64 D, .int .i64 A, .int .i64 L, .int .i64 C, .bool U] 82)).cell? ⟨w.heap.size, 0, none⟩ = some (.int .i64 d) := p.cell 0
            have f1 : (wr.alloc (.cells #[.int .i64 D, .int .i64 A, .int .i64 L, .int .i64 C, .bool U] 82)).cell? ⟨w.heap.size, 1, none⟩ = some (.int .i64 a) := p.cell 1
            have f2 : (wr.alloc (.cells #[.int .i64 D, .int .i64 A, .int .i64 L, .int .i64 C, .bool U] 82)).cell? ⟨w.heap.size, 2, none⟩ = some (.int .i64 l) := p.cell 2
            clear p
            go_wp2_with fail
            go_roundw
            case rel => exact ⟨k + 1, hlt, by go_num, HNx.out, q.alloc _, hBr⟩
            case measure => simp [intOf]; omega
        · have z1 : (a == A) = false := by simpa using e1
          have HNx : Hid _ := hNx (by rw [hek]; simp [likeI, e0, e1])
          clear HBad hek hNx e0 e1
          have p := q.alloc (.cells #[.int .i64 D, .int .i64 A, .int .i64 L, .int .i64 C, .bool U] 82)
          have f0 : (wr.alloc (.cells #[.int .i64 D, .int .i64 A, .int .i64 L, .int .i64 C, .bool U] 82)).cell? ⟨w.heap.size, 0, none⟩ = some (.int .i64 d) := p.cell 0
          have f1 : (wr.alloc (.cells #[.int .i64 D, .int .i64 A, .int .i64 L, .int .i64 C, .bool U] 82)).cell? ⟨w.heap.size, 1, none⟩ = some (.int .i64 a) := p.cell 1
          have f2 : (wr.alloc (.cells #[.int .i64 D, .int .i64 A, .int .i64 L, .int .i64 C, .bool U] 82)).cell? ⟨w.heap.size, 2, none⟩ = some (.int .i64 l) := p.cell 2
          clear p
          go_wp2_with fail
          go_roundw
          case rel => exact ⟨k + 1, hlt, by go_num, HNx.out, q.alloc _, hBr⟩
          case measure => simp [intOf]; omega
    · obtain rfl : k = rs.length := by omega
      have d1 : decide ((rs.length : Int) < (rs.length : Int)) = false := by simp
      have hR := HG.out (fun j hj => ha j hj hj)
      clear hlt hk HB1 HG ha
      go_wp2
      go_ret
      exact ⟨by rw [hR]; rfl, hB⟩
end Go.Proofs.Ytflmbkjnlgibnaa
