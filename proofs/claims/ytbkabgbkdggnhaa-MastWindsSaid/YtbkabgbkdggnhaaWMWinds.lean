/- MastWinds: the walk. -/
import Derived.Test.YtbkabgbkdggnhaaMRef2
namespace Go.Proofs.Ytbkabgbkdggnhaa
open Go.RowKit

/-- What the law keeps: the wind and the axis, and two spans that are the same. -/
structure MwK (w wr : World) (a b c d x y : Int) : Prop where
  wind : Four wr w.heap.size a b c d
  axis : Two2 wr (w.heap.size + 1) x y
theorem MwK.later {w wr w1 : World} {a b c d x y : Int} (k : MwK w wr a b c d x y) (hb : Below wr.heap.size wr w1) : MwK w w1 a b c d x y := ⟨k.wind.later hb, k.axis.later hb⟩
theorem below_box (w : World) (o : Obj) : Below w.heap.size w (w.alloc o) := (Below.refl _ _).alloc (Nat.le_refl _) _

set_option linter.unusedSimpArgs false in
set_option maxRecDepth 100000 in
set_option maxHeartbeats 8000000 in
theorem mastWinds_walk (a b c d x y m : Int) (w : World) :
    Calls Try.prog 3 #[wd a b c d, sp x y, .int .i64 m] w fun e w' => e = .returned (.bool true) ∧ Below w.heap.size w w' := by
  go_enter Try.func3, Try.ntmps3
  go_wp2_with fail
  refine (cross_any a b c d x y _).mono ?_
  rintro e w1 ⟨hr, hb1⟩
  have HR := Lib.hid hr
  obtain ⟨r, s, n, rfl⟩ := hr.spi
  have hB1 : Below w.heap.size w w1 := (after (w := w) (by go_grown) hb1).1
  have k1 : MwK w w1 a b c d x y := ⟨Four.later ⟨by go_cell, by go_cell, by go_cell, by go_cell⟩ hb1, Two2.later ⟨by go_cell, by go_cell⟩ hb1⟩
  have K1 := Lib.hid k1
  obtain ⟨⟨a0, a1, a2, a3⟩, a4, a5⟩ := k1
  have hz1 := World.block_lt_of_cell? _ _ a4
  have hz0 := World.block_lt_of_cell? _ _ a0
  clear hr hb1
  go_wp2_with fail
  refine (rCross_any a b c d x y _).mono ?_
  rintro e w2 ⟨hr, hb2⟩
  obtain rfl := hr.uniq HR.out
  have hB2 : Below w.heap.size w w2 := (after (w := w) (by go_grown) hb2).1
  have K2 := Lib.hid ((K1.out.later (below_box _ _)).later hb2)
  have s2 : Two2 w2 w1.heap.size r s := Two2.later ⟨by go_cell, by go_cell⟩ hb2
  have hz2 : w.heap.size + 1 < w1.heap.size := hz1
  clear hr HR hb2 hB1 K1 a0 a1 a2 a3 a4 a5 hz1 hz0
  have S2 := Lib.hid s2
  clear s2
  obtain ⟨⟨a0, a1, a2, a3⟩, a4, a5⟩ := K2.out
  have hz1 := World.block_lt_of_cell? _ _ a4
  have hz0 := World.block_lt_of_cell? _ _ a0
  go_wp2_with fail
  refine (calm_any a b c d x y m _).mono ?_
  rintro e w3 ⟨rfl, hb3⟩
  obtain ⟨u, hu⟩ : ∃ u, (calmR a b c d x y m).1 = u := ⟨_, rfl⟩
  obtain ⟨v, hv⟩ : ∃ u, (calmR a b c d x y m).2 = u := ⟨_, rfl⟩
  rw [hu, hv]
  have HU := Lib.hid (And.intro hu hv)
  clear hu hv
  have hB3 : Below w.heap.size w w3 := (after (w := w) (by go_grown) hb3).1
  have K3 := Lib.hid ((K2.out.later (below_box _ _)).later hb3)
  have S3 := Lib.hid ((S2.out.later (below_box _ _)).later hb3)
  have T3 := Lib.hid (show Two2 w3 w2.heap.size r s from Two2.later ⟨by go_cell, by go_cell⟩ hb3)
  clear hb3 hB2 K2 S2 a0 a1 a2 a3 a4 a5 hz1 hz0
  obtain ⟨⟨a0, a1, a2, a3⟩, a4, a5⟩ := K3.out
  have hz1 := World.block_lt_of_cell? _ _ a4
  have hz0 := World.block_lt_of_cell? _ _ a0
  go_wp2_with fail
  refine (rCalm_any a b c d x y m _).mono ?_
  rintro e w4 ⟨rfl, hb4⟩
  rw [HU.out.1, HU.out.2]
  have hB4 : Below w.heap.size w w4 := (after (w := w) (by go_grown) hb4).1
  have K4 := Lib.hid (K3.out.later hb4)
  have S4 := Lib.hid (S3.out.later hb4)
  have T4 := Lib.hid (T3.out.later hb4)
  clear hb4 hB3 K3 S3 T3 a0 a1 a2 a3 a4 a5 hz1 hz0
  go_wp2_with fail
  generalize w4 = W at *
  have hA : Below W.heap.size W W.drew := below_drewN (Below.refl _ _) 1
  refine AnyT.begin (fun w' => Below W.heap.size W w') 32 (by kernel_rfl) hA (fun hHeld => ?_)
  generalize World.drew W = wd at hA hHeld ⊢
  refine AnyT.take (i := 0) (oi := _) (v := ?_) rfl (by kernel_rfl) (by kernel_rfl) (by kernel_rfl) (by kernel_rfl) (fun _ _ _ h => h) (Or.inl ⟨by kernel_rfl, ?_⟩) (by assumption) ?_
  rotate_left 1
  · intro wz hSw; (have h1 := (K4.out.later hSw).axis.c0; have h2 := (K4.out.later hSw).axis.c1); go_simp; try with_reducible rfl
  try simp only [Act.put, List.setIfInBounds_toArray, List.set_cons_zero, List.set_cons_succ]
  refine AnyT.take (i := 2) (oi := _) (v := ?_) rfl (by kernel_rfl) (by kernel_rfl) (by kernel_rfl) (by kernel_rfl) (fun _ _ _ h => h) (Or.inl ⟨by kernel_rfl, ?_⟩) (by assumption) ?_
  rotate_left 1
  · intro wz hSw; (have h1 := (K4.out.later hSw).axis.c0; have h2 := (K4.out.later hSw).axis.c1); go_simp; try with_reducible rfl
  try simp only [Act.put, List.setIfInBounds_toArray, List.set_cons_zero, List.set_cons_succ]
  clear hHeld
  refine AnyT.one (i := 1) (o := _) rfl (by kernel_rfl) (fun K hK => ?_)
  go_simp
  refine (checkAxis_any x y _).mono ?_
  rintro e w6 ⟨rfl, hb6⟩
  replace hA := two hA hb6
  go_wp2_with fail
  refine hK.out _ _ (fun _ => hA) ?_
  clear hK K hb6
  try simp only [Act.put, List.setIfInBounds_toArray, List.set_cons_zero, List.set_cons_succ]
  refine AnyT.one (i := 3) (o := _) rfl (by kernel_rfl) (fun K hK => ?_)
  go_simp
  refine (rcheckAxis_any x y _).mono ?_
  rintro e w6 ⟨rfl, hb6⟩
  replace hA := two hA hb6
  go_wp2_with fail
  refine hK.out _ _ (fun _ => hA) ?_
  clear hK K hb6
  try simp only [Act.put, List.setIfInBounds_toArray, List.set_cons_zero, List.set_cons_succ]
  refine AnyT.one (i := 4) (o := _) rfl (by kernel_rfl) (fun K hK => ?_)
  go_simp
  refine hK.out _ _ (fun _ => hA) ?_
  clear hK K
  try simp only [Act.put, List.setIfInBounds_toArray, List.set_cons_zero, List.set_cons_succ]
  refine AnyT.one (i := 5) (o := _) rfl (by kernel_rfl) (fun K hK => ?_)
  go_simp
  refine hK.out _ _ (fun _ => hA) ?_
  clear hK K
  try simp only [Act.put, List.setIfInBounds_toArray, List.set_cons_zero, List.set_cons_succ]
  have hHeld := hA
  refine AnyT.take (i := 6) (oi := _) (v := ?_) rfl (by kernel_rfl) (by kernel_rfl) (by kernel_rfl) (by kernel_rfl) (fun _ _ _ h => h) (Or.inl ⟨by kernel_rfl, ?_⟩) (by assumption) ?_
  rotate_left 1
  · intro wz hSw; (have h1 := (K4.out.later hSw).wind.c0; have h2 := (K4.out.later hSw).wind.c1; have h3 := (K4.out.later hSw).wind.c2; have h4 := (K4.out.later hSw).wind.c3); go_simp; try with_reducible rfl
  try simp only [Act.put, List.setIfInBounds_toArray, List.set_cons_zero, List.set_cons_succ]
  refine AnyT.take (i := 8) (oi := _) (v := ?_) rfl (by kernel_rfl) (by kernel_rfl) (by kernel_rfl) (by kernel_rfl) (fun _ _ _ h => h) (Or.inl ⟨by kernel_rfl, ?_⟩) (by assumption) ?_
  rotate_left 1
  · intro wz hSw; (have h1 := (K4.out.later hSw).wind.c0; have h2 := (K4.out.later hSw).wind.c1; have h3 := (K4.out.later hSw).wind.c2; have h4 := (K4.out.later hSw).wind.c3); go_simp; try with_reducible rfl
  try simp only [Act.put, List.setIfInBounds_toArray, List.set_cons_zero, List.set_cons_succ]
  clear hHeld
  refine AnyT.one (i := 7) (o := _) rfl (by kernel_rfl) (fun K hK => ?_)
  go_simp
  refine (checkWind_any a b c d _).mono ?_
  rintro e w6 ⟨rfl, hb6⟩
  replace hA := two hA hb6
  go_wp2_with fail
  refine hK.out _ _ (fun _ => hA) ?_
  clear hK K hb6
  try simp only [Act.put, List.setIfInBounds_toArray, List.set_cons_zero, List.set_cons_succ]
  refine AnyT.one (i := 9) (o := _) rfl (by kernel_rfl) (fun K hK => ?_)
  go_simp
  refine (rcheckWind_any a b c d _).mono ?_
  rintro e w6 ⟨rfl, hb6⟩
  replace hA := two hA hb6
  go_wp2_with fail
  refine hK.out _ _ (fun _ => hA) ?_
  clear hK K hb6
  try simp only [Act.put, List.setIfInBounds_toArray, List.set_cons_zero, List.set_cons_succ]
  refine AnyT.one (i := 10) (o := _) rfl (by kernel_rfl) (fun K hK => ?_)
  go_simp
  refine hK.out _ _ (fun _ => hA) ?_
  clear hK K
  try simp only [Act.put, List.setIfInBounds_toArray, List.set_cons_zero, List.set_cons_succ]
  refine AnyT.one (i := 11) (o := _) rfl (by kernel_rfl) (fun K hK => ?_)
  go_simp
  refine hK.out _ _ (fun _ => hA) ?_
  clear hK K
  try simp only [Act.put, List.setIfInBounds_toArray, List.set_cons_zero, List.set_cons_succ]
  refine AnyT.one (i := 12) (o := _) rfl (by kernel_rfl) (fun K hK => ?_)
  go_simp
  refine hK.out _ _ (fun _ => hA) ?_
  clear hK K
  try simp only [Act.put, List.setIfInBounds_toArray, List.set_cons_zero, List.set_cons_succ]
  have hHeld := hA
  refine AnyT.take (i := 13) (oi := _) (v := ?_) rfl (by kernel_rfl) (by kernel_rfl) (by kernel_rfl) (by kernel_rfl) (fun _ _ _ h => h) (Or.inl ⟨by kernel_rfl, ?_⟩) (by assumption) ?_
  rotate_left 1
  · intro wz hSw; (have h1 := (S4.out.later hSw).c0; have h2 := (S4.out.later hSw).c1); go_simp; try with_reducible rfl
  try simp only [Act.put, List.setIfInBounds_toArray, List.set_cons_zero, List.set_cons_succ]
  refine AnyT.take (i := 14) (oi := _) (v := ?_) rfl (by kernel_rfl) (by kernel_rfl) (by kernel_rfl) (by kernel_rfl) (fun _ _ _ h => h) (Or.inl ⟨by kernel_rfl, ?_⟩) (by assumption) ?_
  rotate_left 1
  · intro wz hSw; (have h1 := (T4.out.later hSw).c0; have h2 := (T4.out.later hSw).c1); go_simp; try with_reducible rfl
  try simp only [Act.put, List.setIfInBounds_toArray, List.set_cons_zero, List.set_cons_succ]
  clear hHeld
  refine AnyT.one (i := 15) (o := _) rfl (by kernel_rfl) (fun K hK => ?_)
  go_simp
  refine hK.out _ _ (fun _ => hA) ?_
  clear hK K
  try simp only [Act.put, List.setIfInBounds_toArray, List.set_cons_zero, List.set_cons_succ]
  refine AnyT.one (i := 16) (o := _) rfl (by kernel_rfl) (fun K hK => ?_)
  go_simp
  refine hK.out _ _ (fun _ => hA) ?_
  clear hK K
  try simp only [Act.put, List.setIfInBounds_toArray, List.set_cons_zero, List.set_cons_succ]
  refine AnyT.one (i := 17) (o := _) rfl (by kernel_rfl) (fun K hK => ?_)
  go_simp
  refine hK.out _ _ (fun _ => hA) ?_
  clear hK K
  try simp only [Act.put, List.setIfInBounds_toArray, List.set_cons_zero, List.set_cons_succ]
  have hHeld := hA
  refine AnyT.take (i := 18) (oi := _) (v := ?_) rfl (by kernel_rfl) (by kernel_rfl) (by kernel_rfl) (by kernel_rfl) (fun _ _ _ h => h) (Or.inl ⟨by kernel_rfl, ?_⟩) (by assumption) ?_
  rotate_left 1
  · intro wz hSw; skip; go_simp; try with_reducible rfl
  try simp only [Act.put, List.setIfInBounds_toArray, List.set_cons_zero, List.set_cons_succ]
  refine AnyT.take (i := 19) (oi := _) (v := ?_) rfl (by kernel_rfl) (by kernel_rfl) (by kernel_rfl) (by kernel_rfl) (fun _ _ _ h => h) (Or.inl ⟨by kernel_rfl, ?_⟩) (by assumption) ?_
  rotate_left 1
  · intro wz hSw; skip; go_simp; try with_reducible rfl
  try simp only [Act.put, List.setIfInBounds_toArray, List.set_cons_zero, List.set_cons_succ]
  clear hHeld
  refine AnyT.one (i := 20) (o := _) rfl (by kernel_rfl) (fun K hK => ?_)
  go_simp
  refine hK.out _ _ (fun _ => hA) ?_
  clear hK K
  try simp only [Act.put, List.setIfInBounds_toArray, List.set_cons_zero, List.set_cons_succ]
  refine AnyT.one (i := 21) (o := _) rfl (by kernel_rfl) (fun K hK => ?_)
  go_simp
  refine hK.out _ _ (fun _ => hA) ?_
  clear hK K
  try simp only [Act.put, List.setIfInBounds_toArray, List.set_cons_zero, List.set_cons_succ]
  refine AnyT.one (i := 22) (o := _) rfl (by kernel_rfl) (fun K hK => ?_)
  go_simp
  refine hK.out _ _ (fun _ => hA) ?_
  clear hK K
  try simp only [Act.put, List.setIfInBounds_toArray, List.set_cons_zero, List.set_cons_succ]
  have hHeld := hA
  refine AnyT.take (i := 23) (oi := _) (v := ?_) rfl (by kernel_rfl) (by kernel_rfl) (by kernel_rfl) (by kernel_rfl) (fun _ _ _ h => h) (Or.inl ⟨by kernel_rfl, ?_⟩) (by assumption) ?_
  rotate_left 1
  · intro wz hSw; skip; go_simp; try with_reducible rfl
  try simp only [Act.put, List.setIfInBounds_toArray, List.set_cons_zero, List.set_cons_succ]
  refine AnyT.take (i := 24) (oi := _) (v := ?_) rfl (by kernel_rfl) (by kernel_rfl) (by kernel_rfl) (by kernel_rfl) (fun _ _ _ h => h) (Or.inl ⟨by kernel_rfl, ?_⟩) (by assumption) ?_
  rotate_left 1
  · intro wz hSw; skip; go_simp; try with_reducible rfl
  try simp only [Act.put, List.setIfInBounds_toArray, List.set_cons_zero, List.set_cons_succ]
  clear hHeld
  refine AnyT.one (i := 25) (o := _) rfl (by kernel_rfl) (fun K hK => ?_)
  go_simp
  refine hK.out _ _ (fun _ => hA) ?_
  clear hK K
  try simp only [Act.put, List.setIfInBounds_toArray, List.set_cons_zero, List.set_cons_succ]
  refine AnyT.one (i := 26) (o := _) rfl (by kernel_rfl) (fun K hK => ?_)
  go_simp
  refine hK.out _ _ (fun _ => hA) ?_
  clear hK K
  try simp only [Act.put, List.setIfInBounds_toArray, List.set_cons_zero, List.set_cons_succ]
  refine AnyT.one (i := 27) (o := _) rfl (by kernel_rfl) (fun K hK => ?_)
  go_simp
  refine hK.out _ _ (fun _ => hA) ?_
  clear hK K
  try simp only [Act.put, List.setIfInBounds_toArray, List.set_cons_zero, List.set_cons_succ]
  have hHeld := hA
  refine AnyT.take (i := 28) (oi := _) (v := ?_) rfl (by kernel_rfl) (by kernel_rfl) (by kernel_rfl) (by kernel_rfl) (fun _ _ _ h => h) (Or.inl ⟨by kernel_rfl, ?_⟩) (by assumption) ?_
  rotate_left 1
  · intro wz hSw; skip; go_simp; try with_reducible rfl
  try simp only [Act.put, List.setIfInBounds_toArray, List.set_cons_zero, List.set_cons_succ]
  refine AnyT.take (i := 29) (oi := _) (v := ?_) rfl (by kernel_rfl) (by kernel_rfl) (by kernel_rfl) (by kernel_rfl) (fun _ _ _ h => h) (Or.inl ⟨by kernel_rfl, ?_⟩) (by assumption) ?_
  rotate_left 1
  · intro wz hSw; skip; go_simp; try with_reducible rfl
  try simp only [Act.put, List.setIfInBounds_toArray, List.set_cons_zero, List.set_cons_succ]
  clear hHeld
  refine AnyT.one (i := 30) (o := _) rfl (by kernel_rfl) (fun K hK => ?_)
  go_simp
  refine hK.out _ _ (fun _ => hA) ?_
  clear hK K
  try simp only [Act.put, List.setIfInBounds_toArray, List.set_cons_zero, List.set_cons_succ]
  refine AnyT.one (i := 31) (o := _) rfl (by kernel_rfl) (fun K hK => ?_)
  go_simp
  refine hK.out _ _ (fun _ => hA) ?_
  clear hK K
  try simp only [Act.put, List.setIfInBounds_toArray, List.set_cons_zero, List.set_cons_succ]
  refine AnyT.one (i := 32) (o := _) rfl (by kernel_rfl) (fun K hK => ?_)
  go_simp
  refine hK.out _ _ (fun h => absurd rfl h) ?_
  clear hK K
  refine AnyT.done (by kernel_rfl) ?_
  try simp only [Act.put, List.setIfInBounds_toArray, List.set_cons_zero, List.set_cons_succ]
  go_wp2_with fail
  go_returns
  exact ⟨rfl, hB4.trans (hA.mono hB4.size)⟩
end Go.Proofs.Ytbkabgbkdggnhaa
