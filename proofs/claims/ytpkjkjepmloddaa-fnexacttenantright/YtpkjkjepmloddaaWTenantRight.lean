/- The walk of the law on TenantRight. (Written by gen_opten.py.) -/
import Derived.Test.YtpkjkjepmloddaaPack11
import Derived.Test.YtpkjkjepmloddaaPack2
namespace Go.Proofs.Ytpkjkjepmloddaa
open Go.RowKit Go.Sort

theorem stab_ten (n1 n2 n3 n4 : Nat) (now : Int) (key : ByteArray) (qu dr : Int) (is : List If) (rs : List Rt) (ss : List Sn) (es : List Se) : ∀ (v : Value) (w1 w2 : World), (∃ g h u z, v = .agg #[.slice (some ⟨g, 0, none⟩) n1 n1, .slice (some ⟨h, 0, none⟩) n2 n2, .int .i64 now, .string key, .int .i64 qu, .slice (some ⟨u, 0, none⟩) n3 n3, .slice (some ⟨z, 0, none⟩) n4 n4, .int .i64 dr] ∧ Row w1 g 99 (rowI is) ∧ Row w1 h 102 (rowR rs) ∧ Row w1 u 90 (rowSn ss) ∧ Row w1 z 119 (rowSe es)) → Below w1.heap.size w1 w2 → ∃ g h u z, v = .agg #[.slice (some ⟨g, 0, none⟩) n1 n1, .slice (some ⟨h, 0, none⟩) n2 n2, .int .i64 now, .string key, .int .i64 qu, .slice (some ⟨u, 0, none⟩) n3 n3, .slice (some ⟨z, 0, none⟩) n4 n4, .int .i64 dr] ∧ Row w2 g 99 (rowI is) ∧ Row w2 h 102 (rowR rs) ∧ Row w2 u 90 (rowSn ss) ∧ Row w2 z 119 (rowSe es) := by
  rintro v w1 w2 ⟨g, h, u, z, e, a, b, c, d⟩ hb
  exact ⟨g, h, u, z, e, a.below hb a.lt, b.below hb b.lt, c.below hb c.lt, d.below hb d.lt⟩
set_option maxRecDepth 100000 in
set_option maxHeartbeats 4000000 in
theorem fnExactTenantRight_walk (a : Tp) (t : Tn) (w : World) (hA : ArgT w a t) (hW : TnW t) :
    Calls Try.prog 5 #[tnV a t] w fun r w' => r = .returned (.bool true) ∧ Below w.heap.size w w' := by
  obtain ⟨x, c1, y, c2, p, c3, q, c4⟩ := a
  obtain ⟨is, rs, now, key, qu, ss, es, dr⟩ := t
  have hk : key.size ≤ maxLen := hW.1
  have HX : Hid (ArgT w ⟨x, c1, y, c2, p, c3, q, c4⟩ ⟨is, rs, now, key, qu, ss, es, dr⟩) := hA
  have HZ : Hid (∀ w1, Below w.heap.size w w1 → Calls Try.prog 20 #[.agg #[.slice x is.length c1, .slice y rs.length c2, .int .i64 now, .string key, .int .i64 qu, .slice p ss.length c3, .slice q es.length c4, .int .i64 dr], .int .i64 1048576] w1 fun e w' => (∃ v : Int, e = .returned (.int .i64 v) ∧ v ≤ 1048576 ∧ (v < 0 ∨ 0 ≤ v ∧ is.length ≤ 1048576 ∧ rs.length ≤ 1048576 ∧ ss.length ≤ 1048576 ∧ es.length ≤ 1048576 ∧ key.size ≤ 1048576 ∧ ∀ s ∈ ss, s.tx.size ≤ 1048576)) ∧ Below w1.heap.size w1 w') := fun w1 hb => szTenant_any x c1 y c2 p c3 q c4 is rs now key qu ss es dr 1048576 _ (hA.below hb) hk (by omega) (by omega)
  have HT0 : Hid (is.length ≤ 1048576 → rs.length ≤ 1048576 → ss.length ≤ 1048576 → es.length ≤ 1048576 → ∀ w, ArgT w ⟨x, c1, y, c2, p, c3, q, c4⟩ ⟨is, rs, now, key, qu, ss, es, dr⟩ → Calls Try.prog 22 #[.agg #[.slice x is.length c1, .slice y rs.length c2, .int .i64 now, .string key, .int .i64 qu, .slice p ss.length c3, .slice q es.length c4, .int .i64 dr]] w fun e w' => ∃ g h u z, e = .returned (.agg #[.slice (some ⟨g, 0, none⟩) is.length is.length, .slice (some ⟨h, 0, none⟩) rs.length rs.length, .int .i64 now, .string key, .int .i64 qu, .slice (some ⟨u, 0, none⟩) ss.length ss.length, .slice (some ⟨z, 0, none⟩) es.length es.length, .int .i64 dr]) ∧ w.heap.size ≤ g ∧ w.heap.size ≤ h ∧ w.heap.size ≤ u ∧ w.heap.size ≤ z ∧ Row w' g 99 (rowI is) ∧ Row w' h 102 (rowR rs) ∧ Row w' u 90 (rowSn ss) ∧ Row w' z 119 (rowSe es) ∧ Below w.heap.size w w') := fun a b c d w k => toTenant_any x c1 y c2 p c3 q c4 is rs now key qu ss es dr w k ⟨a, b, c, d⟩
  have HS0 : Hid (is.length ≤ 1048576 → rs.length ≤ 1048576 → ss.length ≤ 1048576 → es.length ≤ 1048576 → key.size ≤ 1048576 → (∀ s ∈ ss, s.tx.size ≤ 1048576) → ∀ g h u z w, Row w g 99 (rowI is) → Row w h 102 (rowR rs) → Row w u 90 (rowSn ss) → Row w z 119 (rowSe es) → Calls Try.prog 21 #[.agg #[.slice (some ⟨g, 0, none⟩) is.length is.length, .slice (some ⟨h, 0, none⟩) rs.length rs.length, .int .i64 now, .string key, .int .i64 qu, .slice (some ⟨u, 0, none⟩) ss.length ss.length, .slice (some ⟨z, 0, none⟩) es.length es.length, .int .i64 dr]] w fun e w' => e = .returned (.bool (tenB is rs now key qu ss es dr)) ∧ Below w.heap.size w w') := fun a b c d k s g h u z w k1 k2 k3 k4 => specTenant_any _ _ _ _ _ _ _ _ is rs now key qu ss es dr w ⟨ifsIn_row k1, rtsIn_row k2, snsIn_row k3, sesIn_row k4⟩ (Nat.le_refl _) (by unfold maxLen; omega) (fun x hx => by have := s x hx; omega) ⟨by omega, by omega, by omega, by omega⟩
  have HI0 : Hid (is.length ≤ 1048576 → rs.length ≤ 1048576 → ss.length ≤ 1048576 → es.length ≤ 1048576 → key.size ≤ 1048576 → (∀ s ∈ ss, s.tx.size ≤ 1048576) → ∀ g h u z w, Row w g 99 (rowI is) → Row w h 102 (rowR rs) → Row w u 90 (rowSn ss) → Row w z 119 (rowSe es) → Calls Try.prog 23 #[.agg #[.slice (some ⟨g, 0, none⟩) is.length is.length, .slice (some ⟨h, 0, none⟩) rs.length rs.length, .int .i64 now, .string key, .int .i64 qu, .slice (some ⟨u, 0, none⟩) ss.length ss.length, .slice (some ⟨z, 0, none⟩) es.length es.length, .int .i64 dr]] w fun e w' => e = .returned (.bool (tenB is rs now key qu ss es dr)) ∧ Below w.heap.size w w') := fun a b c d k s g h u z w k1 k2 k3 k4 => implTenant_any _ _ _ _ _ _ _ _ is rs now key qu ss es dr w ⟨ifsIn_row k1, rtsIn_row k2, snsIn_row k3, sesIn_row k4⟩ (Nat.le_refl _) (by unfold maxLen; omega) (fun x hx => by have := s x hx; omega) ⟨by omega, by omega, by omega, by omega⟩
  have HE0 : Hid (is.length ≤ 1048576 → rs.length ≤ 1048576 → ss.length ≤ 1048576 → es.length ≤ 1048576 → ∀ x0 y0 p0 q0 x1 y1 p1 q1 w, IfsIn w x0 is → RtsIn w y0 rs → SnsIn w p0 ss → SesIn w q0 es → IfsIn w x1 is → RtsIn w y1 rs → SnsIn w p1 ss → SesIn w q1 es → Calls Try.prog 24 #[.agg #[.slice x0 is.length is.length, .slice y0 rs.length rs.length, .int .i64 now, .string key, .int .i64 qu, .slice p0 ss.length ss.length, .slice q0 es.length es.length, .int .i64 dr], .agg #[.slice x1 is.length is.length, .slice y1 rs.length rs.length, .int .i64 now, .string key, .int .i64 qu, .slice p1 ss.length ss.length, .slice q1 es.length es.length, .int .i64 dr]] w fun e w' => e = .returned (.bool true) ∧ Below w.heap.size w w') := fun a b c d x0 y0 p0 q0 x1 y1 p1 q1 w k0 k1 k2 k3 k4 k5 k6 k7 => eqTenant_any x0 _ y0 _ p0 _ q0 _ x1 _ y1 _ p1 _ q1 _ is rs now key qu ss es dr w ⟨⟨k0, k1, k2, k3⟩, ⟨k4, k5, k6, k7⟩⟩ ⟨by omega, by omega, by omega, by omega⟩
  clear hA hW hk
  generalize tenB is rs now key qu ss es dr = R at *
  unfold tnV
  simp only
  generalize is.length = n1 at *
  generalize rs.length = n2 at *
  generalize ss.length = n3 at *
  generalize es.length = n4 at *
  go_enter Try.func5, Try.ntmps5
  go_wp2_with fail
  refine (HZ.out _ (ent_new0 w _)).mono ?_
  rintro e w1 ⟨⟨v, rfl, -, hv⟩, hb1⟩
  obtain ⟨r0, hB⟩ := box8 hb1
  clear hb1 HZ
  rcases hv with hv | ⟨hv, m1, m2, m3, m4, m5, m6⟩
  · have d : decide (v < 0) = true := by simpa using hv
    clear hv
    go_wp2
    go_ret
    exact ⟨rfl, hB⟩
  have d : decide (v < 0) = false := by simp; omega
  have HT : Hid _ := HT0.out m1 m2 m3 m4
  have HS : Hid _ := HS0.out m1 m2 m3 m4 m5 m6
  have HI : Hid _ := HI0.out m1 m2 m3 m4 m5 m6
  have HE : Hid _ := HE0.out m1 m2 m3 m4
  clear HT0 HS0 HI0 HE0 hv m1 m2 m3 m4 m5 m6
  have y0 : w1.cell? ⟨w.heap.size, 0, none⟩ = some (.slice x n1 c1) := r0.cell 0
  have y1 : w1.cell? ⟨w.heap.size, 1, none⟩ = some (.slice y n2 c2) := r0.cell 1
  have y2 : w1.cell? ⟨w.heap.size, 2, none⟩ = some (.int .i64 now) := r0.cell 2
  have y3 : w1.cell? ⟨w.heap.size, 3, none⟩ = some (.string key) := r0.cell 3
  have y4 : w1.cell? ⟨w.heap.size, 4, none⟩ = some (.int .i64 qu) := r0.cell 4
  have y5 : w1.cell? ⟨w.heap.size, 5, none⟩ = some (.slice p n3 c3) := r0.cell 5
  have y6 : w1.cell? ⟨w.heap.size, 6, none⟩ = some (.slice q n4 c4) := r0.cell 6
  have y7 : w1.cell? ⟨w.heap.size, 7, none⟩ = some (.int .i64 dr) := r0.cell 7
  go_wp2_with fail
  clear y0 y1 y2 y3 y4 y5 y6 y7
  refine (HT.out _ (HX.out.below hB)).mono ?_
  rintro e w2 ⟨g, h, u, z, rfl, -, -, -, -, kg, kh, ku, kz, hb2⟩
  have r0 := r0.below hb2 r0.lt
  have hB := hB.trans (hb2.mono hB.size)
  clear hb2
  go_wp2_with fail
  refine (HS.out g h u z _ kg kh ku kz).mono ?_
  rintro e w3 ⟨rfl, hb3⟩
  have r0 := r0.below hb3 r0.lt
  have hB := hB.trans (hb3.mono hB.size)
  clear hb3
  clear HS kg kh ku kz
  have y0 : w3.cell? ⟨w.heap.size, 0, none⟩ = some (.slice x n1 c1) := r0.cell 0
  have y1 : w3.cell? ⟨w.heap.size, 1, none⟩ = some (.slice y n2 c2) := r0.cell 1
  have y2 : w3.cell? ⟨w.heap.size, 2, none⟩ = some (.int .i64 now) := r0.cell 2
  have y3 : w3.cell? ⟨w.heap.size, 3, none⟩ = some (.string key) := r0.cell 3
  have y4 : w3.cell? ⟨w.heap.size, 4, none⟩ = some (.int .i64 qu) := r0.cell 4
  have y5 : w3.cell? ⟨w.heap.size, 5, none⟩ = some (.slice p n3 c3) := r0.cell 5
  have y6 : w3.cell? ⟨w.heap.size, 6, none⟩ = some (.slice q n4 c4) := r0.cell 6
  have y7 : w3.cell? ⟨w.heap.size, 7, none⟩ = some (.int .i64 dr) := r0.cell 7
  go_wp2_with fail
  clear y0 y1 y2 y3 y4 y5 y6 y7
  refine (HT.out _ (HX.out.below hB)).mono ?_
  rintro e w4 ⟨g5, h5, u5, z5, rfl, -, -, -, -, kg, kh, ku, kz, hb4⟩
  have r0 := r0.below hb4 r0.lt
  have hB := hB.trans (hb4.mono hB.size)
  clear hb4
  have r0 := r0.alloc (.cells #[.slice (some ⟨g5, 0, none⟩) n1 n1, .slice (some ⟨h5, 0, none⟩) n2 n2, .int .i64 now, .string key, .int .i64 qu, .slice (some ⟨u5, 0, none⟩) n3 n3, .slice (some ⟨z5, 0, none⟩) n4 n4, .int .i64 dr] 59)
  have kg := kg.alloc (.cells #[.slice (some ⟨g5, 0, none⟩) n1 n1, .slice (some ⟨h5, 0, none⟩) n2 n2, .int .i64 now, .string key, .int .i64 qu, .slice (some ⟨u5, 0, none⟩) n3 n3, .slice (some ⟨z5, 0, none⟩) n4 n4, .int .i64 dr] 59)
  have kh := kh.alloc (.cells #[.slice (some ⟨g5, 0, none⟩) n1 n1, .slice (some ⟨h5, 0, none⟩) n2 n2, .int .i64 now, .string key, .int .i64 qu, .slice (some ⟨u5, 0, none⟩) n3 n3, .slice (some ⟨z5, 0, none⟩) n4 n4, .int .i64 dr] 59)
  have ku := ku.alloc (.cells #[.slice (some ⟨g5, 0, none⟩) n1 n1, .slice (some ⟨h5, 0, none⟩) n2 n2, .int .i64 now, .string key, .int .i64 qu, .slice (some ⟨u5, 0, none⟩) n3 n3, .slice (some ⟨z5, 0, none⟩) n4 n4, .int .i64 dr] 59)
  have kz := kz.alloc (.cells #[.slice (some ⟨g5, 0, none⟩) n1 n1, .slice (some ⟨h5, 0, none⟩) n2 n2, .int .i64 now, .string key, .int .i64 qu, .slice (some ⟨u5, 0, none⟩) n3 n3, .slice (some ⟨z5, 0, none⟩) n4 n4, .int .i64 dr] 59)
  have k5 := Row.new w4 59 [.slice (some ⟨g5, 0, none⟩) n1 n1, .slice (some ⟨h5, 0, none⟩) n2 n2, .int .i64 now, .string key, .int .i64 qu, .slice (some ⟨u5, 0, none⟩) n3 n3, .slice (some ⟨z5, 0, none⟩) n4 n4, .int .i64 dr]
  have hB := hB.alloc (by have := hB.size; omega) (.cells #[.slice (some ⟨g5, 0, none⟩) n1 n1, .slice (some ⟨h5, 0, none⟩) n2 n2, .int .i64 now, .string key, .int .i64 qu, .slice (some ⟨u5, 0, none⟩) n3 n3, .slice (some ⟨z5, 0, none⟩) n4 n4, .int .i64 dr] 59)
  have y0 : (w4.alloc (.cells #[.slice (some ⟨g5, 0, none⟩) n1 n1, .slice (some ⟨h5, 0, none⟩) n2 n2, .int .i64 now, .string key, .int .i64 qu, .slice (some ⟨u5, 0, none⟩) n3 n3, .slice (some ⟨z5, 0, none⟩) n4 n4, .int .i64 dr] 59)).cell? ⟨w4.heap.size, 0, none⟩ = some (.slice (some ⟨g5, 0, none⟩) n1 n1) := k5.cell 0
  have y1 : (w4.alloc (.cells #[.slice (some ⟨g5, 0, none⟩) n1 n1, .slice (some ⟨h5, 0, none⟩) n2 n2, .int .i64 now, .string key, .int .i64 qu, .slice (some ⟨u5, 0, none⟩) n3 n3, .slice (some ⟨z5, 0, none⟩) n4 n4, .int .i64 dr] 59)).cell? ⟨w4.heap.size, 1, none⟩ = some (.slice (some ⟨h5, 0, none⟩) n2 n2) := k5.cell 1
  have y2 : (w4.alloc (.cells #[.slice (some ⟨g5, 0, none⟩) n1 n1, .slice (some ⟨h5, 0, none⟩) n2 n2, .int .i64 now, .string key, .int .i64 qu, .slice (some ⟨u5, 0, none⟩) n3 n3, .slice (some ⟨z5, 0, none⟩) n4 n4, .int .i64 dr] 59)).cell? ⟨w4.heap.size, 2, none⟩ = some (.int .i64 now) := k5.cell 2
  have y3 : (w4.alloc (.cells #[.slice (some ⟨g5, 0, none⟩) n1 n1, .slice (some ⟨h5, 0, none⟩) n2 n2, .int .i64 now, .string key, .int .i64 qu, .slice (some ⟨u5, 0, none⟩) n3 n3, .slice (some ⟨z5, 0, none⟩) n4 n4, .int .i64 dr] 59)).cell? ⟨w4.heap.size, 3, none⟩ = some (.string key) := k5.cell 3
  have y4 : (w4.alloc (.cells #[.slice (some ⟨g5, 0, none⟩) n1 n1, .slice (some ⟨h5, 0, none⟩) n2 n2, .int .i64 now, .string key, .int .i64 qu, .slice (some ⟨u5, 0, none⟩) n3 n3, .slice (some ⟨z5, 0, none⟩) n4 n4, .int .i64 dr] 59)).cell? ⟨w4.heap.size, 4, none⟩ = some (.int .i64 qu) := k5.cell 4
  have y5 : (w4.alloc (.cells #[.slice (some ⟨g5, 0, none⟩) n1 n1, .slice (some ⟨h5, 0, none⟩) n2 n2, .int .i64 now, .string key, .int .i64 qu, .slice (some ⟨u5, 0, none⟩) n3 n3, .slice (some ⟨z5, 0, none⟩) n4 n4, .int .i64 dr] 59)).cell? ⟨w4.heap.size, 5, none⟩ = some (.slice (some ⟨u5, 0, none⟩) n3 n3) := k5.cell 5
  have y6 : (w4.alloc (.cells #[.slice (some ⟨g5, 0, none⟩) n1 n1, .slice (some ⟨h5, 0, none⟩) n2 n2, .int .i64 now, .string key, .int .i64 qu, .slice (some ⟨u5, 0, none⟩) n3 n3, .slice (some ⟨z5, 0, none⟩) n4 n4, .int .i64 dr] 59)).cell? ⟨w4.heap.size, 6, none⟩ = some (.slice (some ⟨z5, 0, none⟩) n4 n4) := k5.cell 6
  have y7 : (w4.alloc (.cells #[.slice (some ⟨g5, 0, none⟩) n1 n1, .slice (some ⟨h5, 0, none⟩) n2 n2, .int .i64 now, .string key, .int .i64 qu, .slice (some ⟨u5, 0, none⟩) n3 n3, .slice (some ⟨z5, 0, none⟩) n4 n4, .int .i64 dr] 59)).cell? ⟨w4.heap.size, 7, none⟩ = some (.int .i64 dr) := k5.cell 7
  have HA : Hid _ := And.intro r0 (And.intro kg (And.intro kh (And.intro ku (And.intro kz (And.intro k5 (hB))))))
  clear r0 kg kh ku kz k5 hB
  go_wp2_with fail
  generalize hbx : w4.heap.size = b5 at *
  generalize w4.alloc (.cells #[.slice (some ⟨g5, 0, none⟩) n1 n1, .slice (some ⟨h5, 0, none⟩) n2 n2, .int .i64 now, .string key, .int .i64 qu, .slice (some ⟨u5, 0, none⟩) n3 n3, .slice (some ⟨z5, 0, none⟩) n4 n4, .int .i64 dr] 59) = W5 at *
  clear hbx
  obtain ⟨r0, kg, kh, ku, kz, k5, hB⟩ := HA.out
  clear HA
  clear y0 y1 y2 y3 y4 y5 y6 y7
  refine (HI.out g5 h5 u5 z5 _ kg kh ku kz).mono ?_
  rintro e w6 ⟨rfl, hb6⟩
  have r0 := r0.below hb6 r0.lt
  have kg := kg.below hb6 kg.lt
  have kh := kh.below hb6 kh.lt
  have ku := ku.below hb6 ku.lt
  have kz := kz.below hb6 kz.lt
  have k5 := k5.below hb6 k5.lt
  have hB := hB.trans (hb6.mono hB.size)
  clear hb6
  clear HI
  have dR : (R != R) = false := by simp
  go_wp2_with fail
  have hGN : (([(22, Is (.agg #[.slice (some ⟨g5, 0, none⟩) n1 n1, .slice (some ⟨h5, 0, none⟩) n2 n2, .int .i64 now, .string key, .int .i64 qu, .slice (some ⟨u5, 0, none⟩) n3 n3, .slice (some ⟨z5, 0, none⟩) n4 n4, .int .i64 dr])), (23, Is (.agg #[.slice x n1 c1, .slice y n2 c2, .int .i64 now, .string key, .int .i64 qu, .slice p n3 c3, .slice q n4 c4, .int .i64 dr])), (24, fun v W => ∃ g h u z, v = .agg #[.slice (some ⟨g, 0, none⟩) n1 n1, .slice (some ⟨h, 0, none⟩) n2 n2, .int .i64 now, .string key, .int .i64 qu, .slice (some ⟨u, 0, none⟩) n3 n3, .slice (some ⟨z, 0, none⟩) n4 n4, .int .i64 dr] ∧ Row W g 99 (rowI is) ∧ Row W h 102 (rowR rs) ∧ Row W u 90 (rowSn ss) ∧ Row W z 119 (rowSe es)), (25, Is (.bool true)), (26, Is (.bool false))] : List (Nat × (Value → World → Prop))).map (·.1)).Nodup := by simp
  refine wp_region_steady 5 (SlotG [(22, Is (.agg #[.slice (some ⟨g5, 0, none⟩) n1 n1, .slice (some ⟨h5, 0, none⟩) n2 n2, .int .i64 now, .string key, .int .i64 qu, .slice (some ⟨u5, 0, none⟩) n3 n3, .slice (some ⟨z5, 0, none⟩) n4 n4, .int .i64 dr])), (23, Is (.agg #[.slice x n1 c1, .slice y n2 c2, .int .i64 now, .string key, .int .i64 qu, .slice p n3 c3, .slice q n4 c4, .int .i64 dr])), (24, fun v W => ∃ g h u z, v = .agg #[.slice (some ⟨g, 0, none⟩) n1 n1, .slice (some ⟨h, 0, none⟩) n2 n2, .int .i64 now, .string key, .int .i64 qu, .slice (some ⟨u, 0, none⟩) n3 n3, .slice (some ⟨z, 0, none⟩) n4 n4, .int .i64 dr] ∧ Row W g 99 (rowI is) ∧ Row W h 102 (rowR rs) ∧ Row W u 90 (rowSn ss) ∧ Row W z 119 (rowSe es)), (25, Is (.bool true)), (26, Is (.bool false))]) (by kernel_rfl) (by kernel_rfl) (Stabs.all ⟨stab_is _, stab_is _, stab_ten n1 n2 n3 n4 now key qu dr is rs ss es, stab_is _, stab_is _, trivial⟩) ?_ ?_
  · intro o ho
    simp only [List.take_succ_cons, List.take_zero, List.mem_cons, List.not_mem_nil, or_false] at ho
    rcases ho with rfl | rfl | rfl | rfl | rfl
    · intro a' w' hb ha hdep
      have d5 : a'.tmps.getD 5 undef = .pointer (some ⟨b5, 0, none⟩) := ha.at 5 (by kernel_rfl)
      have hmk := fun (x : Value) (W : World) => SlotG.mk (x := x) (w := W) 0 rfl hGN
      clear hGN ha hdep
      have y0 : w'.cell? ⟨b5, 0, none⟩ = some (.slice (some ⟨g5, 0, none⟩) n1 n1) := (k5.below hb k5.lt).cell 0
      have y1 : w'.cell? ⟨b5, 1, none⟩ = some (.slice (some ⟨h5, 0, none⟩) n2 n2) := (k5.below hb k5.lt).cell 1
      have y2 : w'.cell? ⟨b5, 2, none⟩ = some (.int .i64 now) := (k5.below hb k5.lt).cell 2
      have y3 : w'.cell? ⟨b5, 3, none⟩ = some (.string key) := (k5.below hb k5.lt).cell 3
      have y4 : w'.cell? ⟨b5, 4, none⟩ = some (.int .i64 qu) := (k5.below hb k5.lt).cell 4
      have y5 : w'.cell? ⟨b5, 5, none⟩ = some (.slice (some ⟨u5, 0, none⟩) n3 n3) := (k5.below hb k5.lt).cell 5
      have y6 : w'.cell? ⟨b5, 6, none⟩ = some (.slice (some ⟨z5, 0, none⟩) n4 n4) := (k5.below hb k5.lt).cell 6
      have y7 : w'.cell? ⟨b5, 7, none⟩ = some (.int .i64 dr) := (k5.below hb k5.lt).cell 7
      go_simp
      exact ⟨_, rfl, Below.refl _ _, hmk _ _ rfl⟩
    · intro a' w' hb ha hdep
      have d1 : a'.tmps.getD 1 undef = .pointer (some ⟨w.heap.size, 0, none⟩) := ha.at 1 (by kernel_rfl)
      have hmk := fun (x : Value) (W : World) => SlotG.mk (x := x) (w := W) 1 rfl hGN
      clear hGN ha hdep
      have y0 : w'.cell? ⟨w.heap.size, 0, none⟩ = some (.slice x n1 c1) := (r0.below hb r0.lt).cell 0
      have y1 : w'.cell? ⟨w.heap.size, 1, none⟩ = some (.slice y n2 c2) := (r0.below hb r0.lt).cell 1
      have y2 : w'.cell? ⟨w.heap.size, 2, none⟩ = some (.int .i64 now) := (r0.below hb r0.lt).cell 2
      have y3 : w'.cell? ⟨w.heap.size, 3, none⟩ = some (.string key) := (r0.below hb r0.lt).cell 3
      have y4 : w'.cell? ⟨w.heap.size, 4, none⟩ = some (.int .i64 qu) := (r0.below hb r0.lt).cell 4
      have y5 : w'.cell? ⟨w.heap.size, 5, none⟩ = some (.slice p n3 c3) := (r0.below hb r0.lt).cell 5
      have y6 : w'.cell? ⟨w.heap.size, 6, none⟩ = some (.slice q n4 c4) := (r0.below hb r0.lt).cell 6
      have y7 : w'.cell? ⟨w.heap.size, 7, none⟩ = some (.int .i64 dr) := (r0.below hb r0.lt).cell 7
      go_simp
      exact ⟨_, rfl, Below.refl _ _, hmk _ _ rfl⟩
    · intro a' w' hb ha hdep
      have d23 : a'.tmps.getD 23 undef = .agg #[.slice x n1 c1, .slice y n2 c2, .int .i64 now, .string key, .int .i64 qu, .slice p n3 c3, .slice q n4 c4, .int .i64 dr] := (hdep 23 (of_decide_eq_true (by kernel_rfl))).is 1 rfl
      have hmk := fun (x : Value) (W : World) => SlotG.mk (x := x) (w := W) 2 rfl hGN
      clear hGN ha hdep
      go_simp
      refine (HT.out _ (HX.out.below (hB.trans (hb.mono hB.size)))).mono ?_
      rintro e w2 ⟨g, h, u, z, rfl, -, -, -, -, r6, r7, r8, r9, hb2⟩
      exact ⟨_, rfl, hb2, hmk _ _ ⟨g, h, u, z, rfl, r6, r7, r8, r9⟩⟩
    · intro a' w' hb ha hdep
      have d22 : a'.tmps.getD 22 undef = .agg #[.slice (some ⟨g5, 0, none⟩) n1 n1, .slice (some ⟨h5, 0, none⟩) n2 n2, .int .i64 now, .string key, .int .i64 qu, .slice (some ⟨u5, 0, none⟩) n3 n3, .slice (some ⟨z5, 0, none⟩) n4 n4, .int .i64 dr] := (hdep 22 (of_decide_eq_true (by kernel_rfl))).is 0 rfl
      have D24 := (hdep 24 (of_decide_eq_true (by kernel_rfl))).get 2 rfl
      have hmk := fun (x : Value) (W : World) => SlotG.mk (x := x) (w := W) 3 rfl hGN
      clear hGN ha hdep
      obtain ⟨g, h, u, z, d24, r6, r7, r8, r9⟩ := D24
      go_simp
      refine (HE.out _ _ _ _ _ _ _ _ _ (ifsIn_row (kg.below hb kg.lt)) (rtsIn_row (kh.below hb kh.lt)) (snsIn_row (ku.below hb ku.lt)) (sesIn_row (kz.below hb kz.lt)) (ifsIn_row r6) (rtsIn_row r7) (snsIn_row r8) (sesIn_row r9)).mono ?_
      rintro e w2 ⟨rfl, hb2⟩
      exact ⟨_, rfl, hb2, hmk _ _ rfl⟩
    · intro a' w' hb ha hdep
      have d25 : a'.tmps.getD 25 undef = .bool true := (hdep 25 (of_decide_eq_true (by kernel_rfl))).is 3 rfl
      have hmk := fun (x : Value) (W : World) => SlotG.mk (x := x) (w := W) 4 rfl hGN
      clear hGN ha hdep
      go_simp
      exact ⟨_, rfl, Below.refl _ _, hmk _ _ rfl⟩
  · intro a' w' hb ha hG
    clear hGN
    have d26 : a'.tmps.getD 26 undef = .bool false := (hG _ (List.mem_of_getElem? (i := 4) rfl) 26 rfl).is 4 rfl
    have d5 : a'.tmps.getD 5 undef = .pointer (some ⟨b5, 0, none⟩) := ha.at 5 (by kernel_rfl)
    have d1 : a'.tmps.getD 1 undef = .pointer (some ⟨w.heap.size, 0, none⟩) := ha.at 1 (by kernel_rfl)
    have e2 : a' = ⟨#[a'.tmps.getD 0 undef, a'.tmps.getD 1 undef, a'.tmps.getD 2 undef, a'.tmps.getD 3 undef, a'.tmps.getD 4 undef, a'.tmps.getD 5 undef, a'.tmps.getD 6 undef, a'.tmps.getD 7 undef, a'.tmps.getD 8 undef, a'.tmps.getD 9 undef, a'.tmps.getD 10 undef, a'.tmps.getD 11 undef, a'.tmps.getD 12 undef, a'.tmps.getD 13 undef, a'.tmps.getD 14 undef, a'.tmps.getD 15 undef, a'.tmps.getD 16 undef, a'.tmps.getD 17 undef, a'.tmps.getD 18 undef, a'.tmps.getD 19 undef, a'.tmps.getD 20 undef, a'.tmps.getD 21 undef, a'.tmps.getD 22 undef, a'.tmps.getD 23 undef, a'.tmps.getD 24 undef, a'.tmps.getD 25 undef, a'.tmps.getD 26 undef], []⟩ := by rw [← (show a'.defers = [] from ha.2.1)]; exact act_eq a' 27 ha.1
    rw [d26, d5, d1] at e2
    clear hG ha d26 d5 d1
    generalize a'.tmps.getD 0 undef = x0 at *
    generalize a'.tmps.getD 2 undef = x2 at *
    generalize a'.tmps.getD 3 undef = x3 at *
    generalize a'.tmps.getD 4 undef = x4 at *
    generalize a'.tmps.getD 6 undef = x6 at *
    generalize a'.tmps.getD 7 undef = x7 at *
    generalize a'.tmps.getD 8 undef = x8 at *
    generalize a'.tmps.getD 9 undef = x9 at *
    generalize a'.tmps.getD 10 undef = x10 at *
    generalize a'.tmps.getD 11 undef = x11 at *
    generalize a'.tmps.getD 12 undef = x12 at *
    generalize a'.tmps.getD 13 undef = x13 at *
    generalize a'.tmps.getD 14 undef = x14 at *
    generalize a'.tmps.getD 15 undef = x15 at *
    generalize a'.tmps.getD 16 undef = x16 at *
    generalize a'.tmps.getD 17 undef = x17 at *
    generalize a'.tmps.getD 18 undef = x18 at *
    generalize a'.tmps.getD 19 undef = x19 at *
    generalize a'.tmps.getD 20 undef = x20 at *
    generalize a'.tmps.getD 21 undef = x21 at *
    generalize a'.tmps.getD 22 undef = x22 at *
    generalize a'.tmps.getD 23 undef = x23 at *
    generalize a'.tmps.getD 24 undef = x24 at *
    generalize a'.tmps.getD 25 undef = x25 at *
    subst e2
    simp only [List.drop_succ_cons, List.drop_zero]
    have hB10 := hB.trans (hb.mono hB.size)
    clear hb
    go_wp2
    go_ret
    exact ⟨rfl, hB10⟩
end Go.Proofs.Ytpkjkjepmloddaa
