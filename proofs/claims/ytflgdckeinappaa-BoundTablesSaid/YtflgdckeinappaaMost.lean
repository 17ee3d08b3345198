/- Where a line is at most, and at least, a number. -/
import Derived.Test.YtflgdckeinappaaLines
import Derived.Test.YtflgdckeinappaaTail
import Derived.Test.YtflgdckeinappaaCells
namespace Go.Proofs.Ytflgdckeinappaa
open Go.RowKit

def nearI (y : Int) : Int := min (max y (-1073741825)) 1073741825
theorem nearI_is (y : Int) : min (max y (-1073741825)) 1073741825 = nearI y := rfl
theorem nearI_bd (y : Int) : -1073741825 ≤ nearI y ∧ nearI y ≤ 1073741825 := by unfold nearI; omega
/-- From which to which whole number a line is at most y. -/
def amS (a v b u y : Int) : Int × Int :=
  if 0 < u - v then (a, min b (a + (nearI y - v) * (b - a) / (u - v)))
  else if u - v < 0 then (max a (a - (nearI y - v) * (b - a) / (v - u)), b)
  else if (nearI y - v) * (b - a) < 0 then (a, a - 1) else (a, b)
/-- The same for at least. -/
def alS (a v b u y : Int) : Int × Int := amS a (-v) b (-u) (-y)

theorem tdiv_wide (n d : Int) (h0 : -9223372036854775807 ≤ n) (h1 : n ≤ 9223372036854775807) : -9223372036854775807 ≤ n.tdiv d ∧ n.tdiv d ≤ 9223372036854775807 := by
  have h := Int.natAbs_tdiv_le_natAbs n d
  omega
set_option maxHeartbeats 400000 in
theorem floor_wide (n d : Int) (w : World) (hd : 1 ≤ d) (hd1 : d ≤ 4611686018427387904) (h0 : -9223372036854775807 ≤ n) (h1 : n ≤ 9223372036854775807) :
    Calls Try.prog 133 #[.int .i64 n, .int .i64 d] w fun e w' => e = .returned (.int .i64 (n / d)) ∧ w = w' := by
  obtain ⟨b0, b1⟩ := tdiv_wide n d h0 h1
  have hf := tdiv_floor n d (by omega)
  obtain ⟨fl, hfl⟩ : ∃ x : Int, n / d = x := ⟨_, rfl⟩
  rw [hfl] at hf ⊢
  have HF := Lib.hid hf
  have Hfl := Lib.hid hfl
  clear hf hfl
  go_enter Try.func133, Try.ntmps133
  go_wp2
  all_goals (go_returns; exact ⟨ret_int (by rw [HF.out]; split <;> omega), rfl⟩)

theorem room_bd {p q : Int} (h1 : -2147483649 ≤ p) (h2 : p ≤ 2147483649) (h3 : 0 ≤ q) (h4 : q ≤ 2147483648) : -4611686020574871552 ≤ p * q ∧ p * q ≤ 4611686020574871552 := by
  have a : p * q ≤ 2147483649 * q := Int.mul_le_mul_of_nonneg_right h2 h3
  have b : -2147483649 * q ≤ p * q := Int.mul_le_mul_of_nonneg_right h1 h3
  omega
theorem quo_bd (p d : Int) (hd : 1 ≤ d) (h0 : -4611686020574871552 ≤ p) (h1 : p ≤ 4611686020574871552) : -4611686020574871552 ≤ p / d ∧ p / d ≤ 4611686020574871552 := by
  constructor
  · rw [Int.le_ediv_iff_mul_le (by omega)]
    have : -4611686020574871552 * d ≤ -4611686020574871552 * 1 := by omega
    omega
  · have : p / d < 4611686020574871553 := by
      rw [Int.ediv_lt_iff_lt_mul (by omega)]
      have : 4611686020574871553 * 1 ≤ 4611686020574871553 * d := by omega
      omega
    omega

set_option linter.unusedSimpArgs false in
set_option maxHeartbeats 1000000 in
theorem atMost_any (a v b u y : Int) (w : World) (k : LnOk a v b u a) :
    Calls Try.prog 86 #[ln a v b u, .int .i64 y] w fun e w' => e = .returned (sp (amS a v b u y).1 (amS a v b u y).2) ∧ Below w.heap.size w w' := by
  obtain ⟨n0, n1⟩ := nearI_bd y
  obtain ⟨n, hn⟩ : ∃ n : Int, nearI y = n := ⟨_, rfl⟩
  obtain ⟨a0, b1, lt, x0, x1, v0, v1, u0, u1⟩ := k
  have hE : amS a v b u y = amS a v b u y := rfl
  conv at hE => rhs; unfold amS
  rw [hn] at n0 n1 hE
  obtain ⟨p0, p1⟩ := room_bd (p := n - v) (q := b - a) (by omega) (by omega) (by omega) (by omega)
  obtain ⟨p, hp⟩ : ∃ p : Int, (n - v) * (b - a) = p := ⟨_, rfl⟩
  rw [hp] at p0 p1 hE
  have HE := Lib.hid hE
  have HN := Lib.hid hn
  have f : IntKind.i64.wrap p = p := IntWalk.i64_in _ ⟨by omega, by omega⟩
  clear hE hn
  go_enter Try.func86, Try.ntmps86
  go_wp2_with fail
  rw [nearI_is, HN.out]
  obtain ⟨W, hW⟩ : ∃ W, (w.alloc (.cells #[.int .i64 a, .int .i64 v, .int .i64 b, .int .i64 u] 108)).alloc (.cells #[.int .i64 0, .int .i64 0] 23) = W := ⟨_, rfl⟩
  rw [hW]
  have c0 : W.cell? ⟨w.heap.size, 0, none⟩ = some (.int .i64 a) := by subst hW; go_cell
  have c1 : W.cell? ⟨w.heap.size, 1, none⟩ = some (.int .i64 v) := by subst hW; go_cell
  have c2 : W.cell? ⟨w.heap.size, 2, none⟩ = some (.int .i64 b) := by subst hW; go_cell
  have c3 : W.cell? ⟨w.heap.size, 3, none⟩ = some (.int .i64 u) := by subst hW; go_cell
  have r0 : W.cell? ⟨w.heap.size + 1, 0, none⟩ = some (.int .i64 0) := by subst hW; go_cell
  have rr1 : W.cell? ⟨w.heap.size + 1, 1, none⟩ = some (.int .i64 0) := by subst hW; go_cell
  have rf0 : W.frozen? ⟨w.heap.size + 1, 0, none⟩ = false := by subst hW; go_cell
  have rf1 : W.frozen? ⟨w.heap.size + 1, 1, none⟩ = false := by subst hW; go_cell
  have hz : w.heap.size + 1 < W.heap.size := by subst hW; simp
  have hB : Below w.heap.size w W := by subst hW; go_grown
  clear hW
  go_quiet (fail)
  have vw : ∀ nn, Below w.heap.size w (W.drewN nn) ∧ (W.drewN nn).heap.size = W.heap.size ∧ (W.drewN nn).cell? ⟨w.heap.size, 0, none⟩ = some (.int .i64 a) ∧ (W.drewN nn).cell? ⟨w.heap.size, 2, none⟩ = some (.int .i64 b) ∧ (W.drewN nn).cell? ⟨w.heap.size + 1, 0, none⟩ = some (.int .i64 0) ∧ (W.drewN nn).cell? ⟨w.heap.size + 1, 1, none⟩ = some (.int .i64 0) ∧ (W.drewN nn).frozen? ⟨w.heap.size + 1, 0, none⟩ = false ∧ (W.drewN nn).frozen? ⟨w.heap.size + 1, 1, none⟩ = false := fun nn => ⟨below_drewN hB nn, rfl, c0, c2, r0, rr1, rf0, rf1⟩
  obtain ⟨hB2, hsz, y0, y1, s0, s1, sf0, sf1⟩ := vw nq
  clear vw c0 c1 c2 c3 r0 rr1 rf0 rf1
  generalize W.drewN nq = w2 at *
  have hy1 : w.heap.size + 1 < w2.heap.size := by omega
  have hy0 : w.heap.size < w2.heap.size := by omega
  clear hsz hz hB
  by_cases r1 : 0 < u - v
  · obtain ⟨q0, q1⟩ := quo_bd p (u - v) (by omega) p0 p1
    obtain ⟨q, hq⟩ : ∃ q : Int, p / (u - v) = q := ⟨_, rfl⟩
    rw [hq] at q0 q1
    have HQ := Lib.hid hq
    clear hq
    have f3 : IntKind.i64.wrap (a + q) = a + q := IntWalk.i64_in _ ⟨by omega, by omega⟩
    go_wp2_with fail
    refine AnyT.begin (fun w' => w' = World.drew _) 10 (by kernel_rfl) rfl (fun hHeld => ?_)
    refine AnyT.take (i := 0) (oi := _) (v := ?_) rfl (by kernel_rfl) (by kernel_rfl) (by kernel_rfl) (by kernel_rfl) (fun _ _ _ h => h) (Or.inl ⟨by rfl, ?_⟩) (by assumption) ?_
    rotate_left 1
    · intro wz hSw; subst hSw; go_simp; try with_reducible rfl
    try simp only [Act.put, List.setIfInBounds_toArray, List.set_cons_zero, List.set_cons_succ]
    refine AnyT.take (i := 1) (oi := _) (v := ?_) rfl (by kernel_rfl) (by kernel_rfl) (by kernel_rfl) (by kernel_rfl) (fun _ _ _ h => h) (Or.inl ⟨by rfl, ?_⟩) (by assumption) ?_
    rotate_left 1
    · intro wz hSw; subst hSw; go_simp; try with_reducible rfl
    try simp only [Act.put, List.setIfInBounds_toArray, List.set_cons_zero, List.set_cons_succ]
    refine AnyT.take (i := 2) (oi := _) (v := ?_) rfl (by kernel_rfl) (by kernel_rfl) (by kernel_rfl) (by kernel_rfl) (fun _ _ _ h => h) (Or.inl ⟨by rfl, ?_⟩) (by assumption) ?_
    rotate_left 1
    · intro wz hSw; subst hSw; go_simp; try with_reducible rfl
    try simp only [Act.put, List.setIfInBounds_toArray, List.set_cons_zero, List.set_cons_succ]
    refine AnyT.take (i := 3) (oi := _) (v := ?_) rfl (by kernel_rfl) (by kernel_rfl) (by kernel_rfl) (by kernel_rfl) (fun _ _ _ h => h) (Or.inl ⟨by rfl, ?_⟩) (by assumption) ?_
    rotate_left 1
    · intro wz hSw; subst hSw; go_simp; try with_reducible rfl
    try simp only [Act.put, List.setIfInBounds_toArray, List.set_cons_zero, List.set_cons_succ]
    refine AnyT.take (i := 4) (oi := _) (v := ?_) rfl (by kernel_rfl) (by kernel_rfl) (by kernel_rfl) (by kernel_rfl) (fun _ _ _ h => h) (Or.inl ⟨by rfl, ?_⟩) (by assumption) ?_
    rotate_left 1
    · intro wz hSw; subst hSw; go_simp; try with_reducible rfl
    try simp only [Act.put, List.setIfInBounds_toArray, List.set_cons_zero, List.set_cons_succ]
    refine AnyT.take (i := 5) (oi := _) (v := ?_) rfl (by kernel_rfl) (by kernel_rfl) (by kernel_rfl) (by kernel_rfl) (fun _ _ _ h => h) (Or.inl ⟨by rfl, ?_⟩) (by assumption) ?_
    rotate_left 1
    · intro wz hSw; subst hSw; go_simp; try with_reducible rfl
    try simp only [Act.put, List.setIfInBounds_toArray, List.set_cons_zero, List.set_cons_succ]
    clear hHeld
    refine AnyT.one (i := 6) (o := _) rfl (by kernel_rfl) (fun K hK => ?_)
    go_simp
    refine (floor_wide _ _ _ (by omega) (by omega) (by omega) (by omega)).mono ?_
    rintro e _ ⟨rfl, rfl⟩
    go_wp2_with fail
    rw [HQ.out]
    refine hK.out _ _ (fun _ => rfl) ?_
    clear hK K
    try simp only [Act.put, List.setIfInBounds_toArray, List.set_cons_zero, List.set_cons_succ]
    refine AnyT.one (i := 7) (o := _) rfl (by kernel_rfl) (fun K hK => ?_)
    go_simp
    refine hK.out _ _ (fun _ => rfl) ?_
    clear hK K
    try simp only [Act.put, List.setIfInBounds_toArray, List.set_cons_zero, List.set_cons_succ]
    refine AnyT.one (i := 8) (o := _) rfl (by kernel_rfl) (fun K hK => ?_)
    go_simp
    refine hK.out _ _ (fun _ => rfl) ?_
    clear hK K
    try simp only [Act.put, List.setIfInBounds_toArray, List.set_cons_zero, List.set_cons_succ]
    refine AnyT.one (i := 9) (o := _) rfl (by kernel_rfl) (fun K hK => ?_)
    go_simp
    refine hK.out _ _ (fun _ => rfl) ?_
    clear hK K
    try simp only [Act.put, List.setIfInBounds_toArray, List.set_cons_zero, List.set_cons_succ]
    refine AnyT.one (i := 10) (o := _) rfl (by kernel_rfl) (fun K hK => ?_)
    go_simp
    refine hK.out _ _ (fun h => absurd rfl h) ?_
    clear hK K
    refine AnyT.done (by kernel_rfl) ?_
    try simp only [Act.put, List.setIfInBounds_toArray, List.set_cons_zero, List.set_cons_succ]
    go_wp2_with fail
    exact bodyPost_ret (v := sp a (min b (a + q))) (by simp [results, Try.results86, go_sem, *]) rfl ⟨by rw [HE.out, if_pos r1, HQ.out], by go_grown⟩
  · by_cases r2 : u - v < 0
    · obtain ⟨q0, q1⟩ := quo_bd p (v - u) (by omega) p0 p1
      obtain ⟨q, hq⟩ : ∃ q : Int, p / (v - u) = q := ⟨_, rfl⟩
      rw [hq] at q0 q1
      have HQ := Lib.hid hq
      clear hq
      have f2 : IntKind.i64.wrap (-(u - v)) = v - u := by rw [IntWalk.i64_in _ ⟨by omega, by omega⟩]; omega
      have f3 : IntKind.i64.wrap (a - q) = a - q := IntWalk.i64_in _ ⟨by omega, by omega⟩
      go_wp2_with fail
      refine AnyT.begin (fun w' => w' = World.drew _) 11 (by kernel_rfl) rfl (fun hHeld => ?_)
      refine AnyT.take (i := 0) (oi := _) (v := ?_) rfl (by kernel_rfl) (by kernel_rfl) (by kernel_rfl) (by kernel_rfl) (fun _ _ _ h => h) (Or.inl ⟨by rfl, ?_⟩) (by assumption) ?_
      rotate_left 1
      · intro wz hSw; subst hSw; go_simp; try with_reducible rfl
      try simp only [Act.put, List.setIfInBounds_toArray, List.set_cons_zero, List.set_cons_succ]
      refine AnyT.take (i := 1) (oi := _) (v := ?_) rfl (by kernel_rfl) (by kernel_rfl) (by kernel_rfl) (by kernel_rfl) (fun _ _ _ h => h) (Or.inl ⟨by rfl, ?_⟩) (by assumption) ?_
      rotate_left 1
      · intro wz hSw; subst hSw; go_simp; try with_reducible rfl
      try simp only [Act.put, List.setIfInBounds_toArray, List.set_cons_zero, List.set_cons_succ]
      refine AnyT.take (i := 2) (oi := _) (v := ?_) rfl (by kernel_rfl) (by kernel_rfl) (by kernel_rfl) (by kernel_rfl) (fun _ _ _ h => h) (Or.inl ⟨by rfl, ?_⟩) (by assumption) ?_
      rotate_left 1
      · intro wz hSw; subst hSw; go_simp; try with_reducible rfl
      try simp only [Act.put, List.setIfInBounds_toArray, List.set_cons_zero, List.set_cons_succ]
      refine AnyT.take (i := 3) (oi := _) (v := ?_) rfl (by kernel_rfl) (by kernel_rfl) (by kernel_rfl) (by kernel_rfl) (fun _ _ _ h => h) (Or.inl ⟨by rfl, ?_⟩) (by assumption) ?_
      rotate_left 1
      · intro wz hSw; subst hSw; go_simp; try with_reducible rfl
      try simp only [Act.put, List.setIfInBounds_toArray, List.set_cons_zero, List.set_cons_succ]
      refine AnyT.take (i := 4) (oi := _) (v := ?_) rfl (by kernel_rfl) (by kernel_rfl) (by kernel_rfl) (by kernel_rfl) (fun _ _ _ h => h) (Or.inl ⟨by rfl, ?_⟩) (by assumption) ?_
      rotate_left 1
      · intro wz hSw; subst hSw; go_simp; try with_reducible rfl
      try simp only [Act.put, List.setIfInBounds_toArray, List.set_cons_zero, List.set_cons_succ]
      refine AnyT.take (i := 5) (oi := _) (v := ?_) rfl (by kernel_rfl) (by kernel_rfl) (by kernel_rfl) (by kernel_rfl) (fun _ _ _ h => h) (Or.inl ⟨by rfl, ?_⟩) (by assumption) ?_
      rotate_left 1
      · intro wz hSw; subst hSw; go_simp; try with_reducible rfl
      try simp only [Act.put, List.setIfInBounds_toArray, List.set_cons_zero, List.set_cons_succ]
      refine AnyT.take (i := 6) (oi := _) (v := ?_) rfl (by kernel_rfl) (by kernel_rfl) (by kernel_rfl) (by kernel_rfl) (fun _ _ _ h => h) (Or.inl ⟨by rfl, ?_⟩) (by assumption) ?_
      rotate_left 1
      · intro wz hSw; subst hSw; go_simp; try with_reducible rfl
      try simp only [Act.put, List.setIfInBounds_toArray, List.set_cons_zero, List.set_cons_succ]
      clear hHeld
      refine AnyT.one (i := 7) (o := _) rfl (by kernel_rfl) (fun K hK => ?_)
      go_simp
      refine (floor_wide _ _ _ (by omega) (by omega) (by omega) (by omega)).mono ?_
      rintro e _ ⟨rfl, rfl⟩
      go_wp2_with fail
      rw [HQ.out]
      refine hK.out _ _ (fun _ => rfl) ?_
      clear hK K
      try simp only [Act.put, List.setIfInBounds_toArray, List.set_cons_zero, List.set_cons_succ]
      refine AnyT.one (i := 8) (o := _) rfl (by kernel_rfl) (fun K hK => ?_)
      go_simp
      refine hK.out _ _ (fun _ => rfl) ?_
      clear hK K
      try simp only [Act.put, List.setIfInBounds_toArray, List.set_cons_zero, List.set_cons_succ]
      refine AnyT.one (i := 9) (o := _) rfl (by kernel_rfl) (fun K hK => ?_)
      go_simp
      refine hK.out _ _ (fun _ => rfl) ?_
      clear hK K
      try simp only [Act.put, List.setIfInBounds_toArray, List.set_cons_zero, List.set_cons_succ]
      refine AnyT.one (i := 10) (o := _) rfl (by kernel_rfl) (fun K hK => ?_)
      go_simp
      refine hK.out _ _ (fun _ => rfl) ?_
      clear hK K
      try simp only [Act.put, List.setIfInBounds_toArray, List.set_cons_zero, List.set_cons_succ]
      refine AnyT.one (i := 11) (o := _) rfl (by kernel_rfl) (fun K hK => ?_)
      go_simp
      refine hK.out _ _ (fun h => absurd rfl h) ?_
      clear hK K
      refine AnyT.done (by kernel_rfl) ?_
      try simp only [Act.put, List.setIfInBounds_toArray, List.set_cons_zero, List.set_cons_succ]
      go_wp2_with fail
      exact bodyPost_ret (v := sp (max a (a - q)) b) (by simp [results, Try.results86, go_sem, *]) rfl ⟨by rw [HE.out, if_neg (by omega), if_pos (by omega), HQ.out], by go_grown⟩
    · by_cases r3 : p < 0
      · go_wp2_with fail
        exact bodyPost_ret (v := sp a (a - 1)) (by simp [results, Try.results86, go_sem, *]) rfl ⟨by rw [HE.out, if_neg (by omega), if_neg (by omega), if_pos (by omega)], by go_grown⟩
      · go_wp2_with fail
        exact bodyPost_ret (v := sp a b) (by simp [results, Try.results86, go_sem, *]) rfl ⟨by rw [HE.out, if_neg (by omega), if_neg (by omega), if_neg (by omega)], by go_grown⟩

set_option maxHeartbeats 400000 in
theorem atLeast_any (a v b u y : Int) (w : World) (k : LnOk a v b u a) (hy0 : -1152921504606846976 ≤ y) (hy1 : y ≤ 1152921504606846976) :
    Calls Try.prog 87 #[ln a v b u, .int .i64 y] w fun e w' => e = .returned (sp (alS a v b u y).1 (alS a v b u y).2) ∧ Below w.heap.size w w' := by
  have kt := k.turn
  have v0 := k.v0
  have v1 := k.v1
  have u0 := k.u0
  have u1 := k.u1
  go_enter Try.func87, Try.ntmps87
  go_wp2_with fail
  refine (turned_any _ _ _ _ _ v0 v1 u0 u1).mono ?_
  rintro e w1 ⟨rfl, hb1⟩
  obtain ⟨hB, hc, hf⟩ := after (w := w) (by go_grown) hb1
  have f : IntKind.i64.wrap (-y) = -y := IntWalk.i64_in _ ⟨by omega, by omega⟩
  go_wp2_with fail
  refine (atMost_any _ _ _ _ _ _ kt).mono ?_
  rintro e w2 ⟨rfl, hb2⟩
  clear hc hf hB
  have hbb := two hb1 hb2
  obtain ⟨hB, hc, hf⟩ := after (w := w) (by go_grown) hbb
  have hz2 : w.heap.size + 1 < w2.heap.size := by have := hbb.size; simp at this; omega
  go_wp2_with fail
  exact bodyPost_ret (v := sp (alS a v b u y).1 (alS a v b u y).2) (by simp [alS, results, Try.results87, go_sem, *]) rfl ⟨rfl, by go_grown⟩
end Go.Proofs.Ytflgdckeinappaa
