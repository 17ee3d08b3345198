/- The reference of package mast: Cross. -/
import Derived.Test.YtbkabgbkdggnhaaMRef
namespace Go.Proofs.Ytbkabgbkdggnhaa
open Go.RowKit

/-- Behind the region that makes the span. -/
def RxC (w wr : World) (v9 : Value) (a b c d x y : Int) (l g q : Int) : Prop := ∃ (B : Nat) (r s : Int), v9 = .pointer (some ⟨B, 0, none⟩) ∧ Below w.heap.size w wr ∧ NewBox wr (w.heap.size + 1 + 1) ∧ Two2 wr B r s ∧ wr.frozen? ⟨B, 1, none⟩ = false ∧ w.heap.size + 1 + 1 < B ∧ IsDn l q r ∧ IsDn g q s ∧ s ≤ 4000000 ∧ Two2 wr (w.heap.size + 1) x y ∧ Four wr w.heap.size a b c d


set_option linter.unusedSimpArgs false in
set_option maxRecDepth 100000 in
set_option maxHeartbeats 8000000 in
theorem rCross_any (a b c d x y : Int) (w : World) :
    Calls Try.prog 10 #[wd a b c d, sp x y] w fun e w' => CrossOut a b c d x y e ∧ Below w.heap.size w w' := by
  go_enter Try.func10, Try.ntmps10
  go_wp2_with fail
  refine (rwind_any a b c d _).mono ?_
  rintro e w1 ⟨rfl, hb1⟩
  have hB1 : Below w.heap.size w w1 := (after (w := w) (by go_grown) hb1).1
  have k1 : Four w1 w.heap.size a b c d := Four.later ⟨by go_cell, by go_cell, by go_cell, by go_cell⟩ hb1
  have k2 : Two2 w1 (w.heap.size + 1) x y := Two2.later ⟨by go_cell, by go_cell⟩ hb1
  have k3 : NewBox w1 (w.heap.size + 1 + 1) := NewBox.later ⟨by go_cell, by go_cell, by go_cell, by go_cell⟩ hb1
  have HF := Lib.hid (And.intro k1 (And.intro k2 k3))
  obtain ⟨c0, c1⟩ := k2
  obtain ⟨y0, y1, yf0, yf1⟩ := k3
  have hz1 := World.block_lt_of_cell? _ _ c0
  have hz2 := World.block_lt_of_cell? _ _ y0
  clear hb1 k1
  cases hw : windB a b c d
  · have HW := Lib.hid hw
    clear hw
    go_wp2_with fail
    exact bodyPost_ret (v := .tuple #[sp 0 0, .int .i64 71]) (by simp [results, Try.results10, go_sem, *]) rfl ⟨.inl ⟨HW.out, rfl⟩, by go_grown⟩
  have HW := Lib.hid hw
  clear hw y0 y1 yf0 yf1 hz2
  go_wp2_with fail
  refine (raxis_any x y _).mono ?_
  rintro e w2 ⟨rfl, hb2⟩
  have hB2 : Below w.heap.size w w2 := hB1.trans (hb2.mono hB1.size)
  have HF2 := Lib.hid (And.intro (HF.out.1.later hb2) (And.intro (HF.out.2.1.later hb2) (HF.out.2.2.later hb2)))
  clear hb2 hB1 c0 c1 hz1 HF
  obtain ⟨y0, y1, yf0, yf1⟩ := HF2.out.2.2
  have hz2 := World.block_lt_of_cell? _ _ y0
  cases hx : axisB x y
  · have HX := Lib.hid hx
    clear hx
    go_wp2_with fail
    exact bodyPost_ret (v := .tuple #[sp 0 0, .int .i64 70]) (by simp [results, Try.results10, go_sem, *]) rfl ⟨.inr (.inl ⟨HW.out, HX.out, rfl⟩), by go_grown⟩
  have HX := Lib.hid hx
  clear hx y0 y1 yf0 yf1 hz2
  obtain ⟨⟨z0, z1, z2, z3⟩, ⟨z4, z5⟩, _⟩ := HF2.out
  have q1 := World.block_lt_of_cell? _ _ z4
  go_wp2_with fail
  refine (rcross_any a b c d x y _ HW.out HX.out).mono ?_
  rintro e w3 ⟨rfl, hb2⟩
  have hB3 : Below w.heap.size w w3 := hB2.trans (hb2.mono hB2.size)
  have HF3 := Lib.hid (And.intro (HF2.out.1.later hb2) (And.intro (HF2.out.2.1.later hb2) (HF2.out.2.2.later hb2)))
  clear hb2 hB2 z0 z1 z2 z3 z4 z5 q1 HF2
  obtain ⟨z4, z5⟩ := HF3.out.2.1
  have q1 := World.block_lt_of_cell? _ _ z4
  obtain ⟨l, hl⟩ : ∃ u, crL a b c d x y = u := ⟨_, rfl⟩
  obtain ⟨g, hg⟩ : ∃ u, crG a b c d x y = u := ⟨_, rfl⟩
  rw [hl, hg]
  have HL := Lib.hid (And.intro hl hg)
  clear hl hg
  go_wp2_with fail
  refine (rlong_any x y _ HX.out).mono ?_
  rintro e w4 ⟨rfl, hb2⟩
  have hB4 : Below w.heap.size w w4 := hB3.trans (hb2.mono hB3.size)
  have HN := Lib.hid (And.intro (HF3.out.2.2.later hb2) (And.intro (HF3.out.2.1.later hb2) (HF3.out.1.later hb2)))
  clear hb2 hB3 z4 z5 q1 HF3
  obtain ⟨q, hq⟩ : ∃ u, lon x y = u := ⟨_, rfl⟩
  rw [hq]
  have HQ := Lib.hid hq
  obtain ⟨t1, t2, t3, t4, t5, t6, t7⟩ := acr_bd HW.out HX.out
  obtain ⟨l0, l1, _⟩ := lon_bd HX.out
  rw [HL.out.1] at t4 t5
  rw [HL.out.2] at t5 t6
  rw [hq] at l0 l1
  clear t1 t2 t3 t7 hq
  obtain ⟨a0, a1⟩ := sq_bd (m := l) (b := 4000000) t4 (by omega)
  obtain ⟨b0, b1⟩ := sq_bd (m := g) (b := 4000000) (by omega) t6
  obtain ⟨ll, hll⟩ : ∃ u, l * l = u := ⟨_, rfl⟩
  obtain ⟨gg, hgg⟩ : ∃ u, g * g = u := ⟨_, rfl⟩
  rw [hll] at a0 a1
  rw [hgg] at b0 b1
  have f1 : IntKind.i64.wrap ll = ll := IntWalk.i64_in _ ⟨by omega, by omega⟩
  have f2 : IntKind.i64.wrap gg = gg := IntWalk.i64_in _ ⟨by omega, by omega⟩
  obtain ⟨u, hu⟩ : ∃ u, ll / q = u := ⟨_, rfl⟩
  obtain ⟨v, hv⟩ : ∃ u, gg / q = u := ⟨_, rfl⟩
  have e1 : ll.tdiv q = u := by rw [Int.tdiv_eq_ediv_of_nonneg a0]; exact hu
  have e2 : gg.tdiv q = v := by rw [Int.tdiv_eq_ediv_of_nonneg b0]; exact hv
  have u0 : 0 ≤ u := by rw [← hu]; exact Int.ediv_nonneg a0 (by omega)
  have v0 : 0 ≤ v := by rw [← hv]; exact Int.ediv_nonneg b0 (by omega)
  have u1 : u ≤ ll := by rw [← hu]; exact Int.ediv_le_self _ a0
  have v1 : v ≤ gg := by rw [← hv]; exact Int.ediv_le_self _ b0
  have f3 : IntKind.i64.wrap u = u := IntWalk.i64_in _ ⟨by omega, by omega⟩
  have f4 : IntKind.i64.wrap v = v := IntWalk.i64_in _ ⟨by omega, by omega⟩
  have hne : ¬ q = 0 := by omega
  have HB := Lib.hid (show 0 ≤ u ∧ u ≤ 16000000000000 ∧ 0 ≤ v ∧ v ≤ 16000000000000 ∧ 0 < q ∧ q ≤ 2000000 ∧ 0 ≤ gg ∧ gg ≤ 16000000000000 from ⟨u0, by omega, v0, by omega, by omega, l1, b0, by omega⟩)
  have HP := Lib.hid (And.intro hll (And.intro hu (And.intro hgg hv)))
  clear hu hv a0 a1 b0 b1 u0 u1 v0 v1 l0 l1 t4 t5 t6
  generalize w4 = W at *
  have hBW := hB4
  clear hB4
  go_wp2_with fail
  go_cut [9] from 26 to 38 (fun v9 wr => RxC w wr v9 a b c d x y l g q)
  case first =>
    have hA : Below W.heap.size W W.drew := below_drewN (Below.refl _ _) 1
    refine AnyT.begin (fun w' => Below W.heap.size W w') 14 (by kernel_rfl) hA (fun hHeld => ?_)
    generalize World.drew W = wd at hA hHeld ⊢
    refine AnyT.take (i := 0) (oi := _) (v := ?_) rfl (by kernel_rfl) (by kernel_rfl) (by kernel_rfl) (by kernel_rfl) (fun _ _ _ h => h) (Or.inl ⟨by kernel_rfl, ?_⟩) (by assumption) ?_
    rotate_left 1
    · intro wz hSw; skip; go_simp; try with_reducible rfl
    try simp only [Act.put, List.setIfInBounds_toArray, List.set_cons_zero, List.set_cons_succ]
    refine AnyT.take (i := 1) (oi := _) (v := ?_) rfl (by kernel_rfl) (by kernel_rfl) (by kernel_rfl) (by kernel_rfl) (fun _ _ _ h => h) (Or.inl ⟨by kernel_rfl, ?_⟩) (by assumption) ?_
    rotate_left 1
    · intro wz hSw; skip; go_simp; try with_reducible rfl
    try simp only [Act.put, List.setIfInBounds_toArray, List.set_cons_zero, List.set_cons_succ]
    refine AnyT.take (i := 2) (oi := _) (v := ?_) rfl (by kernel_rfl) (by kernel_rfl) (by kernel_rfl) (by kernel_rfl) (fun _ _ _ h => h) (Or.inl ⟨by kernel_rfl, ?_⟩) (by assumption) ?_
    rotate_left 1
    · intro wz hSw; skip; go_simp; try with_reducible rfl
    try simp only [Act.put, List.setIfInBounds_toArray, List.set_cons_zero, List.set_cons_succ]
    refine AnyT.take (i := 3) (oi := _) (v := ?_) rfl (by kernel_rfl) (by kernel_rfl) (by kernel_rfl) (by kernel_rfl) (fun _ _ _ h => h) (Or.inl ⟨by kernel_rfl, ?_⟩) (by assumption) ?_
    rotate_left 1
    · intro wz hSw; skip; go_simp; try with_reducible rfl
    try simp only [Act.put, List.setIfInBounds_toArray, List.set_cons_zero, List.set_cons_succ]
    refine AnyT.take (i := 4) (oi := _) (v := ?_) rfl (by kernel_rfl) (by kernel_rfl) (by kernel_rfl) (by kernel_rfl) (fun _ _ _ h => h) (Or.inl ⟨by kernel_rfl, ?_⟩) (by assumption) ?_
    rotate_left 1
    · intro wz hSw; skip; go_simp; try with_reducible rfl
    try simp only [Act.put, List.setIfInBounds_toArray, List.set_cons_zero, List.set_cons_succ]
    refine AnyT.take (i := 6) (oi := _) (v := ?_) rfl (by kernel_rfl) (by kernel_rfl) (by kernel_rfl) (by kernel_rfl) (fun _ _ _ h => h) (Or.inl ⟨by kernel_rfl, ?_⟩) (by assumption) ?_
    rotate_left 1
    · intro wz hSw; skip; go_simp; try with_reducible rfl
    try simp only [Act.put, List.setIfInBounds_toArray, List.set_cons_zero, List.set_cons_succ]
    refine AnyT.take (i := 7) (oi := _) (v := ?_) rfl (by kernel_rfl) (by kernel_rfl) (by kernel_rfl) (by kernel_rfl) (fun _ _ _ h => h) (Or.inl ⟨by kernel_rfl, ?_⟩) (by assumption) ?_
    rotate_left 1
    · intro wz hSw; skip; go_simp; try with_reducible rfl
    try simp only [Act.put, List.setIfInBounds_toArray, List.set_cons_zero, List.set_cons_succ]
    refine AnyT.take (i := 8) (oi := _) (v := ?_) rfl (by kernel_rfl) (by kernel_rfl) (by kernel_rfl) (by kernel_rfl) (fun _ _ _ h => h) (Or.inl ⟨by kernel_rfl, ?_⟩) (by assumption) ?_
    rotate_left 1
    · intro wz hSw; skip; go_simp; try with_reducible rfl
    try simp only [Act.put, List.setIfInBounds_toArray, List.set_cons_zero, List.set_cons_succ]
    refine AnyT.take (i := 9) (oi := _) (v := ?_) rfl (by kernel_rfl) (by kernel_rfl) (by kernel_rfl) (by kernel_rfl) (fun _ _ _ h => h) (Or.inl ⟨by kernel_rfl, ?_⟩) (by assumption) ?_
    rotate_left 1
    · intro wz hSw; skip; go_simp; try with_reducible rfl
    try simp only [Act.put, List.setIfInBounds_toArray, List.set_cons_zero, List.set_cons_succ]
    refine AnyT.take (i := 10) (oi := _) (v := ?_) rfl (by kernel_rfl) (by kernel_rfl) (by kernel_rfl) (by kernel_rfl) (fun _ _ _ h => h) (Or.inl ⟨by kernel_rfl, ?_⟩) (by assumption) ?_
    rotate_left 1
    · intro wz hSw; skip; go_simp; try with_reducible rfl
    try simp only [Act.put, List.setIfInBounds_toArray, List.set_cons_zero, List.set_cons_succ]
    clear hHeld
    refine AnyT.some [5, 13] (by kernel_rfl) (by simp) (fun i hi => ?_)
    simp only [List.mem_cons, List.not_mem_nil, or_false] at hi
    rcases hi with rfl | rfl
    · skip
      refine AnyT.step (o := _) rfl (fun K hK => ?_)
      go_simp
      refine (rroot_any _ _ HB.out.1 HB.out.2.1).mono ?_
      rintro e w6 ⟨⟨r, rfl, hr⟩, rfl⟩
      have HDn := Lib.hid (rt_dn HB.out.2.2.2.2.1 (show IsRt (l * l / q) r by rw [HP.out.1, HP.out.2.1]; exact hr))
      clear hr
      go_wp2_with fail
      refine hK.out _ _ (fun _ => hA) ?_
      clear hK K
      try simp only [Act.put, List.setIfInBounds_toArray, List.set_cons_zero, List.set_cons_succ]
      refine AnyT.some [11, 13] (by kernel_rfl) (by simp) (fun i hi => ?_)
      simp only [List.mem_cons, List.not_mem_nil, or_false] at hi
      rcases hi with rfl | rfl
      · skip
        refine AnyT.step (o := _) rfl (fun K hK => ?_)
        go_simp
        refine (rroot_any _ _ HB.out.2.2.1 HB.out.2.2.2.1).mono ?_
        rintro e w6 ⟨⟨s, rfl, hs⟩, rfl⟩
        have HEn := Lib.hid (And.intro (rt_dn HB.out.2.2.2.2.1 (show IsRt (g * g / q) s by rw [HP.out.2.2.1, HP.out.2.2.2]; exact hs)) hs.2.1)
        clear hs
        go_wp2_with fail
        refine hK.out _ _ (fun _ => hA) ?_
        clear hK K
        try simp only [Act.put, List.setIfInBounds_toArray, List.set_cons_zero, List.set_cons_succ]
        refine AnyT.some [12, 13] (by kernel_rfl) (by simp) (fun i hi => ?_)
        simp only [List.mem_cons, List.not_mem_nil, or_false] at hi
        rcases hi with rfl | rfl
        · skip
          refine AnyT.step (o := _) rfl (fun K hK => ?_)
          go_simp
          refine hK.out _ _ (fun _ => hA) ?_
          clear hK K
          try simp only [Act.put, List.setIfInBounds_toArray, List.set_cons_zero, List.set_cons_succ]
          refine AnyT.one (i := 13) (o := _) rfl (by kernel_rfl) (fun K hK => ?_)
          go_simp
          obtain ⟨w9, B, e9, f9, hA9, hb9, nb, nn⟩ := box_new (t := 23) hA
          rw [e9, f9]
          clear e9 f9 hA
          have hA := hA9
          clear hA9 hb9
          refine hK.out _ _ (fun _ => hA) ?_
          clear hK K
          try simp only [Act.put, List.setIfInBounds_toArray, List.set_cons_zero, List.set_cons_succ]
          obtain ⟨x0, x1, xf0, xf1⟩ := nb
          refine AnyT.one (i := 14) (o := _) rfl (by kernel_rfl) (fun K hK => ?_)
          go_simp
          refine hK.out _ _ (fun h => absurd rfl h) ?_
          clear hK K
          refine AnyT.done (by kernel_rfl) ?_
          try simp only [Act.put, List.setIfInBounds_toArray, List.set_cons_zero, List.set_cons_succ]
          go_wp2_with fail
          go_meet
          case rel => exact ⟨B, r, s, rfl, hBW.trans (Below.mono (by go_grown : Below W.heap.size W _) hBW.size), HN.out.1.later (by go_grown), ⟨by go_cell, by go_cell⟩, by go_cell, by have := HN.out.1.lt; omega, HDn.out, HEn.out.1, HEn.out.2, HN.out.2.1.later (by go_grown), HN.out.2.2.later (by go_grown)⟩
        · skip
          refine AnyT.step (o := _) rfl (fun K hK => ?_)
          go_simp
          obtain ⟨w9, B, e9, f9, hA9, hb9, nb, nn⟩ := box_new (t := 23) hA
          rw [e9, f9]
          clear e9 f9 hA
          have hA := hA9
          clear hA9 hb9
          refine hK.out _ _ (fun _ => hA) ?_
          clear hK K
          try simp only [Act.put, List.setIfInBounds_toArray, List.set_cons_zero, List.set_cons_succ]
          refine AnyT.one (i := 12) (o := _) rfl (by kernel_rfl) (fun K hK => ?_)
          go_simp
          refine hK.out _ _ (fun _ => hA) ?_
          clear hK K
          try simp only [Act.put, List.setIfInBounds_toArray, List.set_cons_zero, List.set_cons_succ]
          obtain ⟨x0, x1, xf0, xf1⟩ := nb
          refine AnyT.one (i := 14) (o := _) rfl (by kernel_rfl) (fun K hK => ?_)
          go_simp
          refine hK.out _ _ (fun h => absurd rfl h) ?_
          clear hK K
          refine AnyT.done (by kernel_rfl) ?_
          try simp only [Act.put, List.setIfInBounds_toArray, List.set_cons_zero, List.set_cons_succ]
          go_wp2_with fail
          go_meet
          case rel => exact ⟨B, r, s, rfl, hBW.trans (Below.mono (by go_grown : Below W.heap.size W _) hBW.size), HN.out.1.later (by go_grown), ⟨by go_cell, by go_cell⟩, by go_cell, by have := HN.out.1.lt; omega, HDn.out, HEn.out.1, HEn.out.2, HN.out.2.1.later (by go_grown), HN.out.2.2.later (by go_grown)⟩
      · skip
        refine AnyT.step (o := _) rfl (fun K hK => ?_)
        go_simp
        obtain ⟨w9, B, e9, f9, hA9, hb9, nb, nn⟩ := box_new (t := 23) hA
        rw [e9, f9]
        clear e9 f9 hA
        have hA := hA9
        clear hA9 hb9
        refine hK.out _ _ (fun _ => hA) ?_
        clear hK K
        try simp only [Act.put, List.setIfInBounds_toArray, List.set_cons_zero, List.set_cons_succ]
        refine AnyT.one (i := 11) (o := _) rfl (by kernel_rfl) (fun K hK => ?_)
        go_simp
        refine (rroot_any _ _ HB.out.2.2.1 HB.out.2.2.2.1).mono ?_
        rintro e w6 ⟨⟨s, rfl, hs⟩, rfl⟩
        have HEn := Lib.hid (And.intro (rt_dn HB.out.2.2.2.2.1 (show IsRt (g * g / q) s by rw [HP.out.2.2.1, HP.out.2.2.2]; exact hs)) hs.2.1)
        clear hs
        go_wp2_with fail
        refine hK.out _ _ (fun _ => hA) ?_
        clear hK K
        try simp only [Act.put, List.setIfInBounds_toArray, List.set_cons_zero, List.set_cons_succ]
        refine AnyT.one (i := 12) (o := _) rfl (by kernel_rfl) (fun K hK => ?_)
        go_simp
        refine hK.out _ _ (fun _ => hA) ?_
        clear hK K
        try simp only [Act.put, List.setIfInBounds_toArray, List.set_cons_zero, List.set_cons_succ]
        obtain ⟨x0, x1, xf0, xf1⟩ := nb
        refine AnyT.one (i := 14) (o := _) rfl (by kernel_rfl) (fun K hK => ?_)
        go_simp
        refine hK.out _ _ (fun h => absurd rfl h) ?_
        clear hK K
        refine AnyT.done (by kernel_rfl) ?_
        try simp only [Act.put, List.setIfInBounds_toArray, List.set_cons_zero, List.set_cons_succ]
        go_wp2_with fail
        go_meet
        case rel => exact ⟨B, r, s, rfl, hBW.trans (Below.mono (by go_grown : Below W.heap.size W _) hBW.size), HN.out.1.later (by go_grown), ⟨by go_cell, by go_cell⟩, by go_cell, by have := HN.out.1.lt; omega, HDn.out, HEn.out.1, HEn.out.2, HN.out.2.1.later (by go_grown), HN.out.2.2.later (by go_grown)⟩
    · skip
      refine AnyT.step (o := _) rfl (fun K hK => ?_)
      go_simp
      obtain ⟨w9, B, e9, f9, hA9, hb9, nb, nn⟩ := box_new (t := 23) hA
      rw [e9, f9]
      clear e9 f9 hA
      have hA := hA9
      clear hA9 hb9
      refine hK.out _ _ (fun _ => hA) ?_
      clear hK K
      try simp only [Act.put, List.setIfInBounds_toArray, List.set_cons_zero, List.set_cons_succ]
      refine AnyT.one (i := 5) (o := _) rfl (by kernel_rfl) (fun K hK => ?_)
      go_simp
      refine (rroot_any _ _ HB.out.1 HB.out.2.1).mono ?_
      rintro e w6 ⟨⟨r, rfl, hr⟩, rfl⟩
      have HDn := Lib.hid (rt_dn HB.out.2.2.2.2.1 (show IsRt (l * l / q) r by rw [HP.out.1, HP.out.2.1]; exact hr))
      clear hr
      go_wp2_with fail
      refine hK.out _ _ (fun _ => hA) ?_
      clear hK K
      try simp only [Act.put, List.setIfInBounds_toArray, List.set_cons_zero, List.set_cons_succ]
      refine AnyT.one (i := 11) (o := _) rfl (by kernel_rfl) (fun K hK => ?_)
      go_simp
      refine (rroot_any _ _ HB.out.2.2.1 HB.out.2.2.2.1).mono ?_
      rintro e w6 ⟨⟨s, rfl, hs⟩, rfl⟩
      have HEn := Lib.hid (And.intro (rt_dn HB.out.2.2.2.2.1 (show IsRt (g * g / q) s by rw [HP.out.2.2.1, HP.out.2.2.2]; exact hs)) hs.2.1)
      clear hs
      go_wp2_with fail
      refine hK.out _ _ (fun _ => hA) ?_
      clear hK K
      try simp only [Act.put, List.setIfInBounds_toArray, List.set_cons_zero, List.set_cons_succ]
      refine AnyT.one (i := 12) (o := _) rfl (by kernel_rfl) (fun K hK => ?_)
      go_simp
      refine hK.out _ _ (fun _ => hA) ?_
      clear hK K
      try simp only [Act.put, List.setIfInBounds_toArray, List.set_cons_zero, List.set_cons_succ]
      obtain ⟨x0, x1, xf0, xf1⟩ := nb
      refine AnyT.one (i := 14) (o := _) rfl (by kernel_rfl) (fun K hK => ?_)
      go_simp
      refine hK.out _ _ (fun h => absurd rfl h) ?_
      clear hK K
      refine AnyT.done (by kernel_rfl) ?_
      try simp only [Act.put, List.setIfInBounds_toArray, List.set_cons_zero, List.set_cons_succ]
      go_wp2_with fail
      go_meet
      case rel => exact ⟨B, r, s, rfl, hBW.trans (Below.mono (by go_grown : Below W.heap.size W _) hBW.size), HN.out.1.later (by go_grown), ⟨by go_cell, by go_cell⟩, by go_cell, by have := HN.out.1.lt; omega, HDn.out, HEn.out.1, HEn.out.2, HN.out.2.1.later (by go_grown), HN.out.2.2.later (by go_grown)⟩
  case rest =>
    obtain ⟨B, r, s, rfl, hBV, hN, hT, hf1, hlt, hr, hs, hs4, hax, _⟩ := hcut
    generalize wc = V at *
    obtain ⟨m0, m1⟩ := hT
    obtain ⟨y0, y1, yf0, yf1⟩ := hN
    have q1 := World.block_lt_of_cell? _ _ m0
    have q2 := World.block_lt_of_cell? _ _ y0
    obtain ⟨s0, s1, s2⟩ := hs
    have s3 : s * s * q ≤ gg := by rw [← HP.out.2.2.1]; exact s1
    have s4 : 0 ≤ s * s * q := Int.mul_nonneg (sq_nonneg s) (by have := HB.out; omega)
    obtain ⟨r0, r1⟩ := sq_bd s0 hs4
    have HR := Lib.hid hr
    have HS := Lib.hid (show IsDn g q s from ⟨s0, s1, s2⟩)
    obtain ⟨ss, hss⟩ : ∃ u, s * s = u := ⟨_, rfl⟩
    rw [hss] at r0 r1 s3 s4
    obtain ⟨sq, hsq⟩ : ∃ u, ss * q = u := ⟨_, rfl⟩
    rw [hsq] at s3 s4
    have f5 : IntKind.i64.wrap ss = ss := IntWalk.i64_in _ ⟨by omega, by omega⟩
    have f6 : IntKind.i64.wrap sq = sq := IntWalk.i64_in _ ⟨by omega, by have := HB.out; omega⟩
    have f7 : IntKind.i64.wrap (s + 1) = s + 1 := IntWalk.i64_in _ ⟨by omega, by omega⟩
    have HSQ := Lib.hid (show s * s * q = sq by rw [hss, hsq])
    clear hr s1 s2 r0 r1 s3 s4 hax
    have hnb1 : w.heap.size + 1 + 1 ≠ B := by omega
    have hnb2 : B ≠ w.heap.size + 1 + 1 := by omega
    by_cases h : sq < gg
    · have HH := Lib.hid h
      go_wp2_with fail
      exact bodyPost_ret (v := .tuple #[sp r (s + 1), .int .i64 0]) (by simp [results, Try.results10, go_sem, *]) rfl ⟨.inr (.inr ⟨HW.out, HX.out, r, s + 1, rfl, by rw [HL.out.1, HQ.out]; exact HR.out, by rw [HL.out.2, HQ.out]; exact dn_up HS.out (by rw [HSQ.out, HP.out.2.2.1]; exact HH.out)⟩), by go_grown⟩
    · have HH := Lib.hid h
      go_wp2_with fail
      exact bodyPost_ret (v := .tuple #[sp r s, .int .i64 0]) (by simp [results, Try.results10, go_sem, *]) rfl ⟨.inr (.inr ⟨HW.out, HX.out, r, s, rfl, by rw [HL.out.1, HQ.out]; exact HR.out, by rw [HL.out.2, HQ.out]; exact dn_same HB.out.2.2.2.2.1 HS.out (by rw [HSQ.out, HP.out.2.2.1]; exact Int.not_lt.2 HH.out)⟩), by go_grown⟩
end Go.Proofs.Ytbkabgbkdggnhaa
