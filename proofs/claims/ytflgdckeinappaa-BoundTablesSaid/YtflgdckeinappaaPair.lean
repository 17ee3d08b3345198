/- The closures of May and Must. -/
import Derived.Test.YtflgdckeinappaaCol
import Derived.Test.YtflgdckeinappaaValue
namespace Go.Proofs.Ytflgdckeinappaa
open Go.RowKit

/-- What the closures load: p's box at P, q's at P + 1, y's at Y. -/
structure MS (P Y : Nat) (w : World) (a l h a' l' h' lo hi : Int) : Prop where
  p0 : w.cell? ⟨P, 0, none⟩ = some (.int .i64 a)
  p1 : w.cell? ⟨P, 1, none⟩ = some (.int .i64 l)
  p2 : w.cell? ⟨P, 2, none⟩ = some (.int .i64 h)
  q0 : w.cell? ⟨P + 1, 0, none⟩ = some (.int .i64 a')
  q1 : w.cell? ⟨P + 1, 1, none⟩ = some (.int .i64 l')
  q2 : w.cell? ⟨P + 1, 2, none⟩ = some (.int .i64 h')
  y0 : w.cell? ⟨Y, 0, none⟩ = some (.int .i64 lo)
  y1 : w.cell? ⟨Y, 1, none⟩ = some (.int .i64 hi)
theorem MS.later {P Y : Nat} {w w1 : World} {a l h a' l' h' lo hi : Int} (k : MS P Y w a l h a' l' h' lo hi) (hb : Below w.heap.size w w1) : MS P Y w1 a l h a' l' h' lo hi :=
  ⟨cell_later hb k.p0, cell_later hb k.p1, cell_later hb k.p2, cell_later hb k.q0, cell_later hb k.q1, cell_later hb k.q2, cell_later hb k.y0, cell_later hb k.y1⟩
theorem MS.set {P Y : Nat} {w : World} {a l h a' l' h' lo hi : Int} (k : MS P Y w a l h a' l' h' lo hi) (o : Nat) (v : Value) (hy : Y < P) : MS P Y (w.setCell ⟨P + 2, o, none⟩ v) a l h a' l' h' lo hi := by
  have F : ∀ b i x, b < P + 2 → w.cell? ⟨b, i, none⟩ = some x → (w.setCell ⟨P + 2, o, none⟩ v).cell? ⟨b, i, none⟩ = some x := fun b i x hb e => by
    rw [World.cell?_setCell_other _ _ _ _ (by simp <;> omega)]; exact e
  exact ⟨F _ _ _ (by omega) k.p0, F _ _ _ (by omega) k.p1, F _ _ _ (by omega) k.p2, F _ _ _ (by omega) k.q0, F _ _ _ (by omega) k.q1, F _ _ _ (by omega) k.q2, F _ _ _ (by omega) k.y0, F _ _ _ (by omega) k.y1⟩

set_option linter.unusedSimpArgs false in
set_option maxHeartbeats 1000000 in
theorem mayc_any (a l h a' l' h' lo hi : Int) (Y : Nat) (w : World) (y0 : w.cell? ⟨Y, 0, none⟩ = some (.int .i64 lo)) (y1 : w.cell? ⟨Y, 1, none⟩ = some (.int .i64 hi)) (k1 : LnOk a l a' l' a) (k2 : LnOk a h a' h' a)
    (h0 : -1152921504606846976 ≤ lo) (h1 : lo ≤ 1152921504606846976) :
    Calls Try.prog 85 #[kn a l h, kn a' l' h', .pointer (some ⟨Y, 0, none⟩)] w fun e w' => e = .returned (.tuple #[sp (amS a l a' l' hi).1 (amS a l a' l' hi).2, sp (alS a h a' h' lo).1 (alS a h a' h' lo).2]) ∧ Below w.heap.size w w' := by
  have hyw := World.block_lt_of_cell? w _ y0
  have hyw' : Y < w.heap.size := hyw
  go_enter Try.func85, Try.ntmps85
  go_wp2_with fail
  obtain ⟨W, hW⟩ : ∃ W, (((w.alloc (.cells #[.int .i64 a, .int .i64 l, .int .i64 h] 94)).alloc (.cells #[.int .i64 a', .int .i64 l', .int .i64 h'] 94)).alloc (.cells #[.int .i64 0, .int .i64 0] 23)).alloc (.cells #[.int .i64 0, .int .i64 0] 23) = W := ⟨_, rfl⟩
  rw [hW]
  have hM : MS w.heap.size Y W a l h a' l' h' lo hi := by subst hW; exact ⟨by go_cell, by go_cell, by go_cell, by go_cell, by go_cell, by go_cell, cell_later (by go_grown) y0, cell_later (by go_grown) y1⟩
  have c0 : W.cell? ⟨w.heap.size + 1 + 1, 0, none⟩ = some (.int .i64 0) := by subst hW; go_cell
  have c1 : W.cell? ⟨w.heap.size + 1 + 1, 1, none⟩ = some (.int .i64 0) := by subst hW; go_cell
  have c2 : W.cell? ⟨w.heap.size + 1 + 1 + 1, 0, none⟩ = some (.int .i64 0) := by subst hW; go_cell
  have c3 : W.cell? ⟨w.heap.size + 1 + 1 + 1, 1, none⟩ = some (.int .i64 0) := by subst hW; go_cell
  have d0 : W.frozen? ⟨w.heap.size + 1 + 1, 0, none⟩ = false := by subst hW; go_cell
  have d1 : W.frozen? ⟨w.heap.size + 1 + 1, 1, none⟩ = false := by subst hW; go_cell
  have d2 : W.frozen? ⟨w.heap.size + 1 + 1 + 1, 0, none⟩ = false := by subst hW; go_cell
  have d3 : W.frozen? ⟨w.heap.size + 1 + 1 + 1, 1, none⟩ = false := by subst hW; go_cell
  have hz : w.heap.size + 1 + 1 + 1 < W.heap.size := by subst hW; simp
  have hBW : Below w.heap.size w W := by subst hW; go_grown
  have HM := Lib.hid hM
  clear hW hM
  have hA : Below W.heap.size W W.drew := below_drewN (Below.refl _ _) 1
  refine AnyT.begin (fun w' => MS w.heap.size Y w' a l h a' l' h' lo hi) 13 (by kernel_rfl) (HM.out.later hA) (fun hHeld => ?_)
  refine AnyT.take (i := 0) (oi := _) (v := ?_) rfl (by kernel_rfl) (by kernel_rfl) (by kernel_rfl) (by kernel_rfl) (fun _ _ _ h => h) (Or.inl ⟨by rfl, ?_⟩) (by assumption) ?_
  rotate_left 1
  · intro wz hSw; obtain ⟨_, _, _, _, _, _, _, _⟩ := hSw; go_simp; try with_reducible rfl
  try simp only [Act.put, List.setIfInBounds_toArray, List.set_cons_zero, List.set_cons_succ]
  refine AnyT.take (i := 1) (oi := _) (v := ?_) rfl (by kernel_rfl) (by kernel_rfl) (by kernel_rfl) (by kernel_rfl) (fun _ _ _ h => h) (Or.inl ⟨by rfl, ?_⟩) (by assumption) ?_
  rotate_left 1
  · intro wz hSw; obtain ⟨_, _, _, _, _, _, _, _⟩ := hSw; go_simp; try with_reducible rfl
  try simp only [Act.put, List.setIfInBounds_toArray, List.set_cons_zero, List.set_cons_succ]
  refine AnyT.take (i := 3) (oi := _) (v := ?_) rfl (by kernel_rfl) (by kernel_rfl) (by kernel_rfl) (by kernel_rfl) (fun _ _ _ h => h) (Or.inl ⟨by rfl, ?_⟩) (by assumption) ?_
  rotate_left 1
  · intro wz hSw; obtain ⟨_, _, _, _, _, _, _, _⟩ := hSw; go_simp; try with_reducible rfl
  try simp only [Act.put, List.setIfInBounds_toArray, List.set_cons_zero, List.set_cons_succ]
  refine AnyT.take (i := 4) (oi := _) (v := ?_) rfl (by kernel_rfl) (by kernel_rfl) (by kernel_rfl) (by kernel_rfl) (fun _ _ _ h => h) (Or.inl ⟨by rfl, ?_⟩) (by assumption) ?_
  rotate_left 1
  · intro wz hSw; obtain ⟨_, _, _, _, _, _, _, _⟩ := hSw; go_simp; try with_reducible rfl
  try simp only [Act.put, List.setIfInBounds_toArray, List.set_cons_zero, List.set_cons_succ]
  refine AnyT.take (i := 6) (oi := _) (v := ?_) rfl (by kernel_rfl) (by kernel_rfl) (by kernel_rfl) (by kernel_rfl) (fun _ _ _ h => h) (Or.inl ⟨by rfl, ?_⟩) (by assumption) ?_
  rotate_left 1
  · intro wz hSw; obtain ⟨_, _, _, _, _, _, _, _⟩ := hSw; go_simp; try with_reducible rfl
  try simp only [Act.put, List.setIfInBounds_toArray, List.set_cons_zero, List.set_cons_succ]
  refine AnyT.take (i := 7) (oi := _) (v := ?_) rfl (by kernel_rfl) (by kernel_rfl) (by kernel_rfl) (by kernel_rfl) (fun _ _ _ h => h) (Or.inl ⟨by rfl, ?_⟩) (by assumption) ?_
  rotate_left 1
  · intro wz hSw; obtain ⟨_, _, _, _, _, _, _, _⟩ := hSw; go_simp; try with_reducible rfl
  try simp only [Act.put, List.setIfInBounds_toArray, List.set_cons_zero, List.set_cons_succ]
  refine AnyT.take (i := 9) (oi := _) (v := ?_) rfl (by kernel_rfl) (by kernel_rfl) (by kernel_rfl) (by kernel_rfl) (fun _ _ _ h => h) (Or.inl ⟨by rfl, ?_⟩) (by assumption) ?_
  rotate_left 1
  · intro wz hSw; obtain ⟨_, _, _, _, _, _, _, _⟩ := hSw; go_simp; try with_reducible rfl
  try simp only [Act.put, List.setIfInBounds_toArray, List.set_cons_zero, List.set_cons_succ]
  refine AnyT.take (i := 10) (oi := _) (v := ?_) rfl (by kernel_rfl) (by kernel_rfl) (by kernel_rfl) (by kernel_rfl) (fun _ _ _ h => h) (Or.inl ⟨by rfl, ?_⟩) (by assumption) ?_
  rotate_left 1
  · intro wz hSw; obtain ⟨_, _, _, _, _, _, _, _⟩ := hSw; go_simp; try with_reducible rfl
  try simp only [Act.put, List.setIfInBounds_toArray, List.set_cons_zero, List.set_cons_succ]
  clear hHeld
  refine AnyT.one (i := 2) (o := _) rfl (by kernel_rfl) (fun K hK => ?_)
  go_simp
  refine (lower_any _ _ _ _ _ _ _).mono ?_
  rintro e w1 ⟨rfl, hb⟩
  have hA' := two hA hb
  clear hA
  have hA := hA'
  clear hA' hb
  go_wp2_with fail
  refine hK.out _ _ (fun _ => HM.out.later hA) ?_
  clear hK K
  try simp only [Act.put, List.setIfInBounds_toArray, List.set_cons_zero, List.set_cons_succ]
  refine AnyT.one (i := 5) (o := _) rfl (by kernel_rfl) (fun K hK => ?_)
  go_simp
  refine (atMost_any _ _ _ _ _ _ k1).mono ?_
  rintro e w2 ⟨rfl, hb⟩
  have hA' := two hA hb
  clear hA
  have hA := hA'
  clear hA' hb
  go_wp2_with fail
  refine hK.out _ _ (fun _ => HM.out.later hA) ?_
  clear hK K
  try simp only [Act.put, List.setIfInBounds_toArray, List.set_cons_zero, List.set_cons_succ]
  refine AnyT.one (i := 8) (o := _) rfl (by kernel_rfl) (fun K hK => ?_)
  go_simp
  refine (upper_any _ _ _ _ _ _ _).mono ?_
  rintro e w3 ⟨rfl, hb⟩
  have hA' := two hA hb
  clear hA
  have hA := hA'
  clear hA' hb
  go_wp2_with fail
  refine hK.out _ _ (fun _ => HM.out.later hA) ?_
  clear hK K
  try simp only [Act.put, List.setIfInBounds_toArray, List.set_cons_zero, List.set_cons_succ]
  refine AnyT.one (i := 11) (o := _) rfl (by kernel_rfl) (fun K hK => ?_)
  go_simp
  refine (atLeast_any _ _ _ _ _ _ k2 h0 h1).mono ?_
  rintro e w4 ⟨rfl, hb⟩
  have hA' := two hA hb
  clear hA
  have hA := hA'
  clear hA' hb
  go_wp2_with fail
  refine hK.out _ _ (fun _ => HM.out.later hA) ?_
  clear hK K
  try simp only [Act.put, List.setIfInBounds_toArray, List.set_cons_zero, List.set_cons_succ]
  have hz4 := hA.size
  have e0 := cell_later hA c0
  have e1 := cell_later hA c1
  have e2 := cell_later hA c2
  have e3 := cell_later hA c3
  have g0 := ((bcell hA).2 _ 0 (show w.heap.size + 1 + 1 < W.heap.size by omega)).trans d0
  have g1 := ((bcell hA).2 _ 1 (show w.heap.size + 1 + 1 < W.heap.size by omega)).trans d1
  have g2 := ((bcell hA).2 _ 0 (show w.heap.size + 1 + 1 + 1 < W.heap.size by omega)).trans d2
  have g3 := ((bcell hA).2 _ 1 (show w.heap.size + 1 + 1 + 1 < W.heap.size by omega)).trans d3
  have hB4 : Below w.heap.size w w4 := hBW.trans (hA.mono (by omega))
  have HM4 := Lib.hid (HM.out.later hA)
  clear c0 c1 c2 c3 d0 d1 d2 d3 hA hBW y0 y1
  refine AnyT.one (i := 12) (o := _) rfl (by kernel_rfl) (fun K hK => ?_)
  go_simp
  refine hK.out _ _ (fun _ => (HM4.out.set _ _ hyw').set _ _ hyw') ?_
  clear hK K
  try simp only [Act.put, List.setIfInBounds_toArray, List.set_cons_zero, List.set_cons_succ]
  refine AnyT.one (i := 13) (o := _) rfl (by kernel_rfl) (fun K hK => ?_)
  go_simp
  refine hK.out _ _ (fun h => absurd rfl h) ?_
  clear hK K
  refine AnyT.done (by kernel_rfl) ?_
  try simp only [Act.put, List.setIfInBounds_toArray, List.set_cons_zero, List.set_cons_succ]
  go_wp2_with fail
  exact bodyPost_ret (v := .tuple #[sp (amS a l a' l' hi).1 (amS a l a' l' hi).2, sp (alS a h a' h' lo).1 (alS a h a' h' lo).2]) (by simp [results, Try.results85, go_sem, *]) rfl ⟨rfl, by go_grown⟩
set_option linter.unusedSimpArgs false in
set_option maxHeartbeats 1000000 in
theorem mustc_any (a l h a' l' h' lo hi : Int) (Y : Nat) (w : World) (y0 : w.cell? ⟨Y, 0, none⟩ = some (.int .i64 lo)) (y1 : w.cell? ⟨Y, 1, none⟩ = some (.int .i64 hi)) (k1 : LnOk a l a' l' a) (k2 : LnOk a h a' h' a)
    (h0 : -1152921504606846976 ≤ lo) (h1 : lo ≤ 1152921504606846976) :
    Calls Try.prog 90 #[kn a l h, kn a' l' h', .pointer (some ⟨Y, 0, none⟩)] w fun e w' => e = .returned (.tuple #[sp (alS a l a' l' lo).1 (alS a l a' l' lo).2, sp (amS a h a' h' hi).1 (amS a h a' h' hi).2]) ∧ Below w.heap.size w w' := by
  have hyw := World.block_lt_of_cell? w _ y0
  have hyw' : Y < w.heap.size := hyw
  go_enter Try.func90, Try.ntmps90
  go_wp2_with fail
  obtain ⟨W, hW⟩ : ∃ W, (((w.alloc (.cells #[.int .i64 a, .int .i64 l, .int .i64 h] 94)).alloc (.cells #[.int .i64 a', .int .i64 l', .int .i64 h'] 94)).alloc (.cells #[.int .i64 0, .int .i64 0] 23)).alloc (.cells #[.int .i64 0, .int .i64 0] 23) = W := ⟨_, rfl⟩
  rw [hW]
  have hM : MS w.heap.size Y W a l h a' l' h' lo hi := by subst hW; exact ⟨by go_cell, by go_cell, by go_cell, by go_cell, by go_cell, by go_cell, cell_later (by go_grown) y0, cell_later (by go_grown) y1⟩
  have c0 : W.cell? ⟨w.heap.size + 1 + 1, 0, none⟩ = some (.int .i64 0) := by subst hW; go_cell
  have c1 : W.cell? ⟨w.heap.size + 1 + 1, 1, none⟩ = some (.int .i64 0) := by subst hW; go_cell
  have c2 : W.cell? ⟨w.heap.size + 1 + 1 + 1, 0, none⟩ = some (.int .i64 0) := by subst hW; go_cell
  have c3 : W.cell? ⟨w.heap.size + 1 + 1 + 1, 1, none⟩ = some (.int .i64 0) := by subst hW; go_cell
  have d0 : W.frozen? ⟨w.heap.size + 1 + 1, 0, none⟩ = false := by subst hW; go_cell
  have d1 : W.frozen? ⟨w.heap.size + 1 + 1, 1, none⟩ = false := by subst hW; go_cell
  have d2 : W.frozen? ⟨w.heap.size + 1 + 1 + 1, 0, none⟩ = false := by subst hW; go_cell
  have d3 : W.frozen? ⟨w.heap.size + 1 + 1 + 1, 1, none⟩ = false := by subst hW; go_cell
  have hz : w.heap.size + 1 + 1 + 1 < W.heap.size := by subst hW; simp
  have hBW : Below w.heap.size w W := by subst hW; go_grown
  have HM := Lib.hid hM
  clear hW hM
  have hA : Below W.heap.size W W.drew := below_drewN (Below.refl _ _) 1
  refine AnyT.begin (fun w' => MS w.heap.size Y w' a l h a' l' h' lo hi) 13 (by kernel_rfl) (HM.out.later hA) (fun hHeld => ?_)
  refine AnyT.take (i := 0) (oi := _) (v := ?_) rfl (by kernel_rfl) (by kernel_rfl) (by kernel_rfl) (by kernel_rfl) (fun _ _ _ h => h) (Or.inl ⟨by rfl, ?_⟩) (by assumption) ?_
  rotate_left 1
  · intro wz hSw; obtain ⟨_, _, _, _, _, _, _, _⟩ := hSw; go_simp; try with_reducible rfl
  try simp only [Act.put, List.setIfInBounds_toArray, List.set_cons_zero, List.set_cons_succ]
  refine AnyT.take (i := 1) (oi := _) (v := ?_) rfl (by kernel_rfl) (by kernel_rfl) (by kernel_rfl) (by kernel_rfl) (fun _ _ _ h => h) (Or.inl ⟨by rfl, ?_⟩) (by assumption) ?_
  rotate_left 1
  · intro wz hSw; obtain ⟨_, _, _, _, _, _, _, _⟩ := hSw; go_simp; try with_reducible rfl
  try simp only [Act.put, List.setIfInBounds_toArray, List.set_cons_zero, List.set_cons_succ]
  refine AnyT.take (i := 3) (oi := _) (v := ?_) rfl (by kernel_rfl) (by kernel_rfl) (by kernel_rfl) (by kernel_rfl) (fun _ _ _ h => h) (Or.inl ⟨by rfl, ?_⟩) (by assumption) ?_
  rotate_left 1
  · intro wz hSw; obtain ⟨_, _, _, _, _, _, _, _⟩ := hSw; go_simp; try with_reducible rfl
  try simp only [Act.put, List.setIfInBounds_toArray, List.set_cons_zero, List.set_cons_succ]
  refine AnyT.take (i := 4) (oi := _) (v := ?_) rfl (by kernel_rfl) (by kernel_rfl) (by kernel_rfl) (by kernel_rfl) (fun _ _ _ h => h) (Or.inl ⟨by rfl, ?_⟩) (by assumption) ?_
  rotate_left 1
  · intro wz hSw; obtain ⟨_, _, _, _, _, _, _, _⟩ := hSw; go_simp; try with_reducible rfl
  try simp only [Act.put, List.setIfInBounds_toArray, List.set_cons_zero, List.set_cons_succ]
  refine AnyT.take (i := 6) (oi := _) (v := ?_) rfl (by kernel_rfl) (by kernel_rfl) (by kernel_rfl) (by kernel_rfl) (fun _ _ _ h => h) (Or.inl ⟨by rfl, ?_⟩) (by assumption) ?_
  rotate_left 1
  · intro wz hSw; obtain ⟨_, _, _, _, _, _, _, _⟩ := hSw; go_simp; try with_reducible rfl
  try simp only [Act.put, List.setIfInBounds_toArray, List.set_cons_zero, List.set_cons_succ]
  refine AnyT.take (i := 7) (oi := _) (v := ?_) rfl (by kernel_rfl) (by kernel_rfl) (by kernel_rfl) (by kernel_rfl) (fun _ _ _ h => h) (Or.inl ⟨by rfl, ?_⟩) (by assumption) ?_
  rotate_left 1
  · intro wz hSw; obtain ⟨_, _, _, _, _, _, _, _⟩ := hSw; go_simp; try with_reducible rfl
  try simp only [Act.put, List.setIfInBounds_toArray, List.set_cons_zero, List.set_cons_succ]
  refine AnyT.take (i := 9) (oi := _) (v := ?_) rfl (by kernel_rfl) (by kernel_rfl) (by kernel_rfl) (by kernel_rfl) (fun _ _ _ h => h) (Or.inl ⟨by rfl, ?_⟩) (by assumption) ?_
  rotate_left 1
  · intro wz hSw; obtain ⟨_, _, _, _, _, _, _, _⟩ := hSw; go_simp; try with_reducible rfl
  try simp only [Act.put, List.setIfInBounds_toArray, List.set_cons_zero, List.set_cons_succ]
  refine AnyT.take (i := 10) (oi := _) (v := ?_) rfl (by kernel_rfl) (by kernel_rfl) (by kernel_rfl) (by kernel_rfl) (fun _ _ _ h => h) (Or.inl ⟨by rfl, ?_⟩) (by assumption) ?_
  rotate_left 1
  · intro wz hSw; obtain ⟨_, _, _, _, _, _, _, _⟩ := hSw; go_simp; try with_reducible rfl
  try simp only [Act.put, List.setIfInBounds_toArray, List.set_cons_zero, List.set_cons_succ]
  clear hHeld
  refine AnyT.one (i := 2) (o := _) rfl (by kernel_rfl) (fun K hK => ?_)
  go_simp
  refine (lower_any _ _ _ _ _ _ _).mono ?_
  rintro e w1 ⟨rfl, hb⟩
  have hA' := two hA hb
  clear hA
  have hA := hA'
  clear hA' hb
  go_wp2_with fail
  refine hK.out _ _ (fun _ => HM.out.later hA) ?_
  clear hK K
  try simp only [Act.put, List.setIfInBounds_toArray, List.set_cons_zero, List.set_cons_succ]
  refine AnyT.one (i := 5) (o := _) rfl (by kernel_rfl) (fun K hK => ?_)
  go_simp
  refine (atLeast_any _ _ _ _ _ _ k1 h0 h1).mono ?_
  rintro e w2 ⟨rfl, hb⟩
  have hA' := two hA hb
  clear hA
  have hA := hA'
  clear hA' hb
  go_wp2_with fail
  refine hK.out _ _ (fun _ => HM.out.later hA) ?_
  clear hK K
  try simp only [Act.put, List.setIfInBounds_toArray, List.set_cons_zero, List.set_cons_succ]
  refine AnyT.one (i := 8) (o := _) rfl (by kernel_rfl) (fun K hK => ?_)
  go_simp
  refine (upper_any _ _ _ _ _ _ _).mono ?_
  rintro e w3 ⟨rfl, hb⟩
  have hA' := two hA hb
  clear hA
  have hA := hA'
  clear hA' hb
  go_wp2_with fail
  refine hK.out _ _ (fun _ => HM.out.later hA) ?_
  clear hK K
  try simp only [Act.put, List.setIfInBounds_toArray, List.set_cons_zero, List.set_cons_succ]
  refine AnyT.one (i := 11) (o := _) rfl (by kernel_rfl) (fun K hK => ?_)
  go_simp
  refine (atMost_any _ _ _ _ _ _ k2).mono ?_
  rintro e w4 ⟨rfl, hb⟩
  have hA' := two hA hb
  clear hA
  have hA := hA'
  clear hA' hb
  go_wp2_with fail
  refine hK.out _ _ (fun _ => HM.out.later hA) ?_
  clear hK K
  try simp only [Act.put, List.setIfInBounds_toArray, List.set_cons_zero, List.set_cons_succ]
  have hz4 := hA.size
  have e0 := cell_later hA c0
  have e1 := cell_later hA c1
  have e2 := cell_later hA c2
  have e3 := cell_later hA c3
  have g0 := ((bcell hA).2 _ 0 (show w.heap.size + 1 + 1 < W.heap.size by omega)).trans d0
  have g1 := ((bcell hA).2 _ 1 (show w.heap.size + 1 + 1 < W.heap.size by omega)).trans d1
  have g2 := ((bcell hA).2 _ 0 (show w.heap.size + 1 + 1 + 1 < W.heap.size by omega)).trans d2
  have g3 := ((bcell hA).2 _ 1 (show w.heap.size + 1 + 1 + 1 < W.heap.size by omega)).trans d3
  have hB4 : Below w.heap.size w w4 := hBW.trans (hA.mono (by omega))
  have HM4 := Lib.hid (HM.out.later hA)
  clear c0 c1 c2 c3 d0 d1 d2 d3 hA hBW y0 y1
  refine AnyT.one (i := 12) (o := _) rfl (by kernel_rfl) (fun K hK => ?_)
  go_simp
  refine hK.out _ _ (fun _ => (HM4.out.set _ _ hyw').set _ _ hyw') ?_
  clear hK K
  try simp only [Act.put, List.setIfInBounds_toArray, List.set_cons_zero, List.set_cons_succ]
  refine AnyT.one (i := 13) (o := _) rfl (by kernel_rfl) (fun K hK => ?_)
  go_simp
  refine hK.out _ _ (fun h => absurd rfl h) ?_
  clear hK K
  refine AnyT.done (by kernel_rfl) ?_
  try simp only [Act.put, List.setIfInBounds_toArray, List.set_cons_zero, List.set_cons_succ]
  go_wp2_with fail
  exact bodyPost_ret (v := .tuple #[sp (alS a l a' l' lo).1 (alS a l a' l' lo).2, sp (amS a h a' h' hi).1 (amS a h a' h' hi).2]) (by simp [results, Try.results90, go_sem, *]) rfl ⟨rfl, by go_grown⟩

end Go.Proofs.Ytflgdckeinappaa
