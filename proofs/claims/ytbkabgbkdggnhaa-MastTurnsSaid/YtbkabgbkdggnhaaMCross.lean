/- Package mast: times, crosswinds, isCalm, cmp.Or, Cross and Calm. -/
import Derived.Test.YtbkabgbkdggnhaaMSearch
import Derived.Test.YtbkabgbkdggnhaaTail2
namespace Go.Proofs.Ytbkabgbkdggnhaa
open Go.RowKit


set_option maxHeartbeats 1000000 in
theorem times_any (a b n : Int) (w : World) (ha : -2000 ≤ a) (hb : b ≤ 2000) (hab : a ≤ b) (hn0 : -1000 ≤ n) (hn1 : n ≤ 1000) :
    Calls Try.prog 87 #[sp a b, .int .i64 n] w fun e w' => e = .returned (sp (min (a * n) (b * n)) (max (a * n) (b * n))) ∧ Below w.heap.size w w' := by
  obtain ⟨p0, p1⟩ := mul_bd (y := n) (show -2000 ≤ a by omega) (show a ≤ 2000 by omega)
  obtain ⟨q0, q1⟩ := mul_bd (y := n) (show -2000 ≤ b by omega) (show b ≤ 2000 by omega)
  have hna : (n.natAbs : Int) ≤ 1000 := by omega
  obtain ⟨p, hp⟩ : ∃ p, a * n = p := ⟨_, rfl⟩
  obtain ⟨q, hq⟩ : ∃ q, b * n = q := ⟨_, rfl⟩
  rw [hp] at p0 p1 ⊢
  rw [hq] at q0 q1 ⊢
  have f : IntKind.i64.wrap p = p := IntWalk.i64_in _ ⟨by omega, by omega⟩
  have g : IntKind.i64.wrap q = q := IntWalk.i64_in _ ⟨by omega, by omega⟩
  clear p0 p1 q0 q1 hna
  go_enter Try.func87, Try.ntmps87
  go_wp2_with fail
  exact bodyPost_ret (v := sp (min p q) (max p q)) (by simp [results, Try.results87, go_sem, *]) rfl ⟨rfl, by go_grown⟩

/-- A new box of two numbers. -/
structure NewBox (w : World) (C : Nat) : Prop where
  c0 : w.cell? ⟨C, 0, none⟩ = some (.int .i64 0)
  c1 : w.cell? ⟨C, 1, none⟩ = some (.int .i64 0)
  f0 : w.frozen? ⟨C, 0, none⟩ = false
  f1 : w.frozen? ⟨C, 1, none⟩ = false
theorem NewBox.later {w w1 : World} {C : Nat} (k : NewBox w C) (hb : Below w.heap.size w w1) : NewBox w1 C :=
  have hz := World.block_lt_of_cell? _ _ k.c0
  ⟨cell_later hb k.c0, cell_later hb k.c1, by rw [(bcell hb).2 _ _ hz]; exact k.f0, by rw [(bcell hb).2 _ _ hz]; exact k.f1⟩
theorem NewBox.lt {w : World} {B : Nat} (k : NewBox w B) : B < w.heap.size := World.block_lt_of_cell? _ _ k.c0
/-- A box of two numbers, made in a region of W. -/
theorem box_new {W cur : World} {t : TypeId} (hA : Below W.heap.size W cur) :
    ∃ w9 B, cur.alloc (.cells #[.int .i64 0, .int .i64 0] t) = w9 ∧ cur.heap.size = B ∧ Below W.heap.size W w9 ∧ Below cur.heap.size cur w9 ∧ NewBox w9 B ∧ W.heap.size ≤ B :=
  ⟨_, _, rfl, rfl, hA.alloc hA.size _, (Below.refl _ _).alloc (Nat.le_refl _) _, ⟨by go_cell, by go_cell, by go_cell, by go_cell⟩, hA.size⟩
/-- What crosswinds keeps. -/
structure CrK (w wr : World) (a b c d x y : Int) : Prop where
  wind : Four wr w.heap.size a b c d
  axis : Two2 wr (w.heap.size + 1) x y
  res : NewBox wr (w.heap.size + 1 + 1)
theorem CrK.later {w wr w1 : World} {a b c d x y : Int} (k : CrK w wr a b c d x y) (hb : Below wr.heap.size wr w1) : CrK w w1 a b c d x y := ⟨k.wind.later hb, k.axis.later hb, k.res.later hb⟩
/-- Behind region 1: its two boxes. -/
def CrC (w wr : World) (v v' : Value) (a b c d x y : Int) (e f g h : Int) : Prop := ∃ B B' : Nat, v = .pointer (some ⟨B, 0, none⟩) ∧ v' = .pointer (some ⟨B', 0, none⟩) ∧ Below w.heap.size w wr ∧ CrK w wr a b c d x y ∧ Two2 wr B e f ∧ Two2 wr B' g h
/-- Behind region 3. -/
def CrE (w wr : World) (v v' : Value) (a b c d x y : Int) (l g : Int) : Prop := v = .int .i64 l ∧ v' = .int .i64 g ∧ Below w.heap.size w wr ∧ CrK w wr a b c d x y


set_option linter.unusedSimpArgs false in
set_option maxRecDepth 100000 in
set_option maxHeartbeats 8000000 in
theorem crosswinds_any (a b c d x y : Int) (w : World) (hw : windB a b c d = true) (hx : axisB x y = true) :
    Calls Try.prog 45 #[wd a b c d, sp x y] w fun e w' => (∃ r s, e = .returned (sp r s) ∧ CrossP a b c d x y r s ∧ s ≤ 4000) ∧ Below w.heap.size w w' := by
  obtain ⟨t1, t2, t3, t4, t5, t6, t7⟩ := acr_bd hw hx
  obtain ⟨l0, l1, l2, l3, l4, l5⟩ := lon_bd hx
  have HW := Lib.hid (windB_bd hw)
  have HY := Lib.hid (axisB_bd hx)
  have HC := Lib.hid t7
  have hc2 : crL a b c d x y * crL a b c d x y < 4000 * 4000 * lon x y := by have := sq_mono t4 t5; omega
  have HD := Lib.hid hc2
  clear t7 hc2 hw hx
  obtain ⟨e1, he1⟩ : ∃ u, min (a * y) (b * y) = u := ⟨_, rfl⟩
  obtain ⟨e2, he2⟩ : ∃ u, max (a * y) (b * y) = u := ⟨_, rfl⟩
  obtain ⟨e3, he3⟩ : ∃ u, min (c * (-x)) (d * (-x)) = u := ⟨_, rfl⟩
  obtain ⟨e4, he4⟩ : ∃ u, max (c * (-x)) (d * (-x)) = u := ⟨_, rfl⟩
  have HP := Lib.hid (And.intro he1 (And.intro he2 (And.intro he3 he4)))
  have hL : acrL a b c d x y = e1 + e3 := by unfold acrL; rw [he1, he3]
  have hH : acrH a b c d x y = e2 + e4 := by unfold acrH; rw [he2, he4]
  obtain ⟨l, hl⟩ : ∃ u, crL a b c d x y = u := ⟨_, rfl⟩
  obtain ⟨g, hg⟩ : ∃ u, crG a b c d x y = u := ⟨_, rfl⟩
  have HL := Lib.hid hl
  have HG := Lib.hid hg
  have HE : Hid (max 0 (max (e1 + e3) (-(e2 + e4))) = l ∧ max (-(e1 + e3)) (e2 + e4) = g) := Lib.hid ⟨by rw [← hl]; unfold crL; rw [hL, hH], by rw [← hg]; unfold crG; rw [hL, hH]⟩
  rw [hL, hH] at t1
  rw [hL] at t2
  rw [hH] at t3
  rw [hl] at t4 t5
  rw [hg] at t5 t6
  have hz3 : -1000 ≤ x ∧ x ≤ 1000 := ⟨HY.out.1, HY.out.2.1⟩
  obtain ⟨hz3, hz4⟩ := hz3
  have fx : IntKind.i64.wrap (-x) = -x := IntWalk.i64_in _ ⟨by omega, by omega⟩
  have HB : Hid (-4000000 ≤ e1 + e3 ∧ e2 + e4 ≤ 4000000 ∧ e1 + e3 ≤ e2 + e4 ∧ 0 ≤ l ∧ l ≤ g ∧ g ≤ 4000000) := Lib.hid ⟨t2, t3, t1, t4, t5, t6⟩
  have f1 : IntKind.i64.wrap (e1 + e3) = e1 + e3 := IntWalk.i64_in _ ⟨by omega, by omega⟩
  have f2 : IntKind.i64.wrap (e2 + e4) = e2 + e4 := IntWalk.i64_in _ ⟨by omega, by omega⟩
  have f3 : IntKind.i64.wrap (-(e1 + e3)) = -(e1 + e3) := IntWalk.i64_in _ ⟨by omega, by omega⟩
  have f4 : IntKind.i64.wrap (-(e2 + e4)) = -(e2 + e4) := IntWalk.i64_in _ ⟨by omega, by omega⟩
  have hlo : x * x + y * y = lon x y := rfl
  obtain ⟨xx, hxx⟩ : ∃ u, x * x = u := ⟨_, rfl⟩
  obtain ⟨yy, hyy⟩ : ∃ u, y * y = u := ⟨_, rfl⟩
  obtain ⟨q, hq⟩ : ∃ u, lon x y = u := ⟨_, rfl⟩
  have HQ := Lib.hid hq
  rw [hxx] at l2 l3
  rw [hyy] at l4 l5
  rw [hq] at l0 l1
  rw [hq, hxx, hyy] at hlo
  have fxx : IntKind.i64.wrap xx = xx := IntWalk.i64_in _ ⟨by omega, by omega⟩
  have fyy : IntKind.i64.wrap yy = yy := IntWalk.i64_in _ ⟨by omega, by omega⟩
  have fq : IntKind.i64.wrap q = q := IntWalk.i64_in _ ⟨by omega, by omega⟩
  have HXX := Lib.hid hxx
  have HYY := Lib.hid hyy
  have HLo := Lib.hid hlo
  clear he1 he2 he3 he4 hL hH hl hg t1 t2 t3 t4 t5 t6 hq hz3 hz4 hxx hyy hlo l2 l3 l4 l5
  go_enter Try.func45, Try.ntmps45
  go_wp2_with fail
  go_cut [5, 6] from 11 to 21 (fun v5 v6 wr => CrC w wr v5 v6 a b c d x y e1 e2 e3 e4)
  case first =>
    obtain ⟨W, hW⟩ : ∃ W, ((w.alloc (.cells #[.int .i64 a, .int .i64 b, .int .i64 c, .int .i64 d] 25)).alloc (.cells #[.int .i64 x, .int .i64 y] 27)).alloc (.cells #[.int .i64 0, .int .i64 0] 23) = W := ⟨_, rfl⟩
    have hX : CrK w W a b c d x y := by subst hW; exact ⟨⟨by go_cell, by go_cell, by go_cell, by go_cell⟩, ⟨by go_cell, by go_cell⟩, ⟨by go_cell, by go_cell, by go_cell, by go_cell⟩⟩
    have hBW : Below w.heap.size w W := by subst hW; go_grown
    rw [hW]
    have HX := Lib.hid hX
    clear hW hX
    have hA : Below W.heap.size W W.drew := below_drewN (Below.refl _ _) 1
    refine AnyT.begin (fun w' => Below W.heap.size W w') 14 (by kernel_rfl) hA (fun hHeld => ?_)
    generalize World.drew W = wd at hA hHeld ⊢
    refine AnyT.take (i := 0) (oi := _) (v := ?_) rfl (by kernel_rfl) (by kernel_rfl) (by kernel_rfl) (by kernel_rfl) (fun _ _ _ h => h) (Or.inl ⟨by kernel_rfl, ?_⟩) (by assumption) ?_
    rotate_left 1
    · intro wz hSw; skip; go_simp; try with_reducible rfl
    try simp only [Act.put, List.setIfInBounds_toArray, List.set_cons_zero, List.set_cons_succ]
    refine AnyT.take (i := 1) (oi := _) (v := ?_) rfl (by kernel_rfl) (by kernel_rfl) (by kernel_rfl) (by kernel_rfl) (fun _ _ _ h => h) (Or.inl ⟨by kernel_rfl, ?_⟩) (by assumption) ?_
    rotate_left 1
    · intro wz hSw; (have h1 := (HX.out.later hSw).wind.c0; have h2 := (HX.out.later hSw).wind.c1); go_simp; try with_reducible rfl
    try simp only [Act.put, List.setIfInBounds_toArray, List.set_cons_zero, List.set_cons_succ]
    refine AnyT.take (i := 2) (oi := _) (v := ?_) rfl (by kernel_rfl) (by kernel_rfl) (by kernel_rfl) (by kernel_rfl) (fun _ _ _ h => h) (Or.inl ⟨by kernel_rfl, ?_⟩) (by assumption) ?_
    rotate_left 1
    · intro wz hSw; skip; go_simp; try with_reducible rfl
    try simp only [Act.put, List.setIfInBounds_toArray, List.set_cons_zero, List.set_cons_succ]
    refine AnyT.take (i := 3) (oi := _) (v := ?_) rfl (by kernel_rfl) (by kernel_rfl) (by kernel_rfl) (by kernel_rfl) (fun _ _ _ h => h) (Or.inl ⟨by kernel_rfl, ?_⟩) (by assumption) ?_
    rotate_left 1
    · intro wz hSw; (have h1 := (HX.out.later hSw).axis.c1); go_simp; try with_reducible rfl
    try simp only [Act.put, List.setIfInBounds_toArray, List.set_cons_zero, List.set_cons_succ]
    refine AnyT.take (i := 5) (oi := _) (v := ?_) rfl (by kernel_rfl) (by kernel_rfl) (by kernel_rfl) (by kernel_rfl) (fun _ _ _ h => h) (Or.inl ⟨by kernel_rfl, ?_⟩) (by assumption) ?_
    rotate_left 1
    · intro wz hSw; skip; go_simp; try with_reducible rfl
    try simp only [Act.put, List.setIfInBounds_toArray, List.set_cons_zero, List.set_cons_succ]
    refine AnyT.take (i := 6) (oi := _) (v := ?_) rfl (by kernel_rfl) (by kernel_rfl) (by kernel_rfl) (by kernel_rfl) (fun _ _ _ h => h) (Or.inl ⟨by kernel_rfl, ?_⟩) (by assumption) ?_
    rotate_left 1
    · intro wz hSw; (have h1 := (HX.out.later hSw).wind.c2; have h2 := (HX.out.later hSw).wind.c3); go_simp; try with_reducible rfl
    try simp only [Act.put, List.setIfInBounds_toArray, List.set_cons_zero, List.set_cons_succ]
    refine AnyT.take (i := 7) (oi := _) (v := ?_) rfl (by kernel_rfl) (by kernel_rfl) (by kernel_rfl) (by kernel_rfl) (fun _ _ _ h => h) (Or.inl ⟨by kernel_rfl, ?_⟩) (by assumption) ?_
    rotate_left 1
    · intro wz hSw; skip; go_simp; try with_reducible rfl
    try simp only [Act.put, List.setIfInBounds_toArray, List.set_cons_zero, List.set_cons_succ]
    refine AnyT.take (i := 8) (oi := _) (v := ?_) rfl (by kernel_rfl) (by kernel_rfl) (by kernel_rfl) (by kernel_rfl) (fun _ _ _ h => h) (Or.inl ⟨by kernel_rfl, ?_⟩) (by assumption) ?_
    rotate_left 1
    · intro wz hSw; (have h1 := (HX.out.later hSw).axis.c0); go_simp; try with_reducible rfl
    try simp only [Act.put, List.setIfInBounds_toArray, List.set_cons_zero, List.set_cons_succ]
    refine AnyT.take (i := 9) (oi := _) (v := ?_) rfl (by kernel_rfl) (by kernel_rfl) (by kernel_rfl) (by kernel_rfl) (fun _ _ _ h => h) (Or.inl ⟨by kernel_rfl, ?_⟩) (by assumption) ?_
    rotate_left 1
    · intro wz hSw; skip; go_simp; try with_reducible rfl
    try simp only [Act.put, List.setIfInBounds_toArray, List.set_cons_zero, List.set_cons_succ]
    clear hHeld
    refine AnyT.some [4, 11, 12] (by kernel_rfl) (by simp) (fun i hi => ?_)
    simp only [List.mem_cons, List.not_mem_nil, or_false] at hi
    rcases hi with rfl | rfl | rfl
    · skip
      refine AnyT.step (o := _) rfl (fun K hK => ?_)
      go_simp
      refine (times_any a b y _ HW.out.1 HW.out.2.2.1 HW.out.2.1 HY.out.2.2.1 HY.out.2.2.2.1).mono ?_
      rintro e w6 ⟨rfl, hb6⟩
      rw [HP.out.1, HP.out.2.1]
      try replace nb6 := nb6.later hb6
      try replace nb7 := nb7.later hb6
      replace hA := two hA hb6
      go_wp2_with fail
      refine hK.out _ _ (fun _ => hA) ?_
      clear hK K hb6
      try simp only [Act.put, List.setIfInBounds_toArray, List.set_cons_zero, List.set_cons_succ]
      refine AnyT.some [10, 11, 12] (by kernel_rfl) (by simp) (fun i hi => ?_)
      simp only [List.mem_cons, List.not_mem_nil, or_false] at hi
      rcases hi with rfl | rfl | rfl
      · skip
        refine AnyT.step (o := _) rfl (fun K hK => ?_)
        go_simp
        refine (times_any c d (-x) _ HW.out.2.2.2.1 HW.out.2.2.2.2.2 HW.out.2.2.2.2.1 (by have := HY.out.2.1; omega) (by have := HY.out.1; omega)).mono ?_
        rintro e w6 ⟨rfl, hb6⟩
        rw [HP.out.2.2.1, HP.out.2.2.2]
        try replace nb6 := nb6.later hb6
        try replace nb7 := nb7.later hb6
        replace hA := two hA hb6
        go_wp2_with fail
        refine hK.out _ _ (fun _ => hA) ?_
        clear hK K hb6
        try simp only [Act.put, List.setIfInBounds_toArray, List.set_cons_zero, List.set_cons_succ]
        refine AnyT.some [11, 12] (by kernel_rfl) (by simp) (fun i hi => ?_)
        simp only [List.mem_cons, List.not_mem_nil, or_false] at hi
        rcases hi with rfl | rfl
        · skip
          refine AnyT.step (o := _) rfl (fun K hK => ?_)
          go_simp
          obtain ⟨w9, B6, e9, f9, hA9, hb9, nb6, ge6⟩ := box_new (t := 23) hA
          try have hne : B7 < B6 := (by have h0 := nb7.lt; omega)
          rw [e9, f9]
          clear e9 f9 hA
          have hA := hA9
          clear hA9
          try replace nb7 := nb7.later hb9
          clear hb9
          refine hK.out _ _ (fun _ => hA) ?_
          clear hK K
          try simp only [Act.put, List.setIfInBounds_toArray, List.set_cons_zero, List.set_cons_succ]
          refine AnyT.one (i := 12) (o := _) rfl (by kernel_rfl) (fun K hK => ?_)
          go_simp
          obtain ⟨w9, B7, e9, f9, hA9, hb9, nb7, ge7⟩ := box_new (t := 23) hA
          try have hne : B6 < B7 := (by have h0 := nb6.lt; omega)
          rw [e9, f9]
          clear e9 f9 hA
          have hA := hA9
          clear hA9
          try replace nb6 := nb6.later hb9
          clear hb9
          refine hK.out _ _ (fun _ => hA) ?_
          clear hK K
          try simp only [Act.put, List.setIfInBounds_toArray, List.set_cons_zero, List.set_cons_succ]
          obtain ⟨x0, x1, xf0, xf1⟩ := nb6
          obtain ⟨y0, y1, yf0, yf1⟩ := nb7
          have hne1 : B6 ≠ B7 := by omega
          have hne2 : B7 ≠ B6 := by omega
          refine AnyT.one (i := 13) (o := _) rfl (by kernel_rfl) (fun K hK => ?_)
          go_simp
          refine hK.out _ _ (fun _ => by go_grown) ?_
          clear hK K
          try simp only [Act.put, List.setIfInBounds_toArray, List.set_cons_zero, List.set_cons_succ]
          refine AnyT.one (i := 14) (o := _) rfl (by kernel_rfl) (fun K hK => ?_)
          go_simp
          refine hK.out _ _ (fun h => absurd rfl h) ?_
          clear hK K
          refine AnyT.done (by kernel_rfl) ?_
          try simp only [Act.put, List.setIfInBounds_toArray, List.set_cons_zero, List.set_cons_succ]
          go_wp2_with fail
          go_meet
          case rel => exact ⟨B6, B7, rfl, rfl, hBW.trans (Below.mono (by go_grown : Below W.heap.size W _) hBW.size), HX.out.later (by go_grown), ⟨by go_cell, by go_cell⟩, ⟨by go_cell, by go_cell⟩⟩
        · skip
          refine AnyT.step (o := _) rfl (fun K hK => ?_)
          go_simp
          obtain ⟨w9, B7, e9, f9, hA9, hb9, nb7, ge7⟩ := box_new (t := 23) hA
          try have hne : B6 < B7 := (by have h0 := nb6.lt; omega)
          rw [e9, f9]
          clear e9 f9 hA
          have hA := hA9
          clear hA9
          try replace nb6 := nb6.later hb9
          clear hb9
          refine hK.out _ _ (fun _ => hA) ?_
          clear hK K
          try simp only [Act.put, List.setIfInBounds_toArray, List.set_cons_zero, List.set_cons_succ]
          refine AnyT.one (i := 11) (o := _) rfl (by kernel_rfl) (fun K hK => ?_)
          go_simp
          obtain ⟨w9, B6, e9, f9, hA9, hb9, nb6, ge6⟩ := box_new (t := 23) hA
          try have hne : B7 < B6 := (by have h0 := nb7.lt; omega)
          rw [e9, f9]
          clear e9 f9 hA
          have hA := hA9
          clear hA9
          try replace nb7 := nb7.later hb9
          clear hb9
          refine hK.out _ _ (fun _ => hA) ?_
          clear hK K
          try simp only [Act.put, List.setIfInBounds_toArray, List.set_cons_zero, List.set_cons_succ]
          obtain ⟨x0, x1, xf0, xf1⟩ := nb6
          obtain ⟨y0, y1, yf0, yf1⟩ := nb7
          have hne1 : B6 ≠ B7 := by omega
          have hne2 : B7 ≠ B6 := by omega
          refine AnyT.one (i := 13) (o := _) rfl (by kernel_rfl) (fun K hK => ?_)
          go_simp
          refine hK.out _ _ (fun _ => by go_grown) ?_
          clear hK K
          try simp only [Act.put, List.setIfInBounds_toArray, List.set_cons_zero, List.set_cons_succ]
          refine AnyT.one (i := 14) (o := _) rfl (by kernel_rfl) (fun K hK => ?_)
          go_simp
          refine hK.out _ _ (fun h => absurd rfl h) ?_
          clear hK K
          refine AnyT.done (by kernel_rfl) ?_
          try simp only [Act.put, List.setIfInBounds_toArray, List.set_cons_zero, List.set_cons_succ]
          go_wp2_with fail
          go_meet
          case rel => exact ⟨B6, B7, rfl, rfl, hBW.trans (Below.mono (by go_grown : Below W.heap.size W _) hBW.size), HX.out.later (by go_grown), ⟨by go_cell, by go_cell⟩, ⟨by go_cell, by go_cell⟩⟩
      · skip
        refine AnyT.step (o := _) rfl (fun K hK => ?_)
        go_simp
        obtain ⟨w9, B6, e9, f9, hA9, hb9, nb6, ge6⟩ := box_new (t := 23) hA
        try have hne : B7 < B6 := (by have h0 := nb7.lt; omega)
        rw [e9, f9]
        clear e9 f9 hA
        have hA := hA9
        clear hA9
        try replace nb7 := nb7.later hb9
        clear hb9
        refine hK.out _ _ (fun _ => hA) ?_
        clear hK K
        try simp only [Act.put, List.setIfInBounds_toArray, List.set_cons_zero, List.set_cons_succ]
        refine AnyT.some [10, 12] (by kernel_rfl) (by simp) (fun i hi => ?_)
        simp only [List.mem_cons, List.not_mem_nil, or_false] at hi
        rcases hi with rfl | rfl
        · skip
          refine AnyT.step (o := _) rfl (fun K hK => ?_)
          go_simp
          refine (times_any c d (-x) _ HW.out.2.2.2.1 HW.out.2.2.2.2.2 HW.out.2.2.2.2.1 (by have := HY.out.2.1; omega) (by have := HY.out.1; omega)).mono ?_
          rintro e w6 ⟨rfl, hb6⟩
          rw [HP.out.2.2.1, HP.out.2.2.2]
          try replace nb6 := nb6.later hb6
          try replace nb7 := nb7.later hb6
          replace hA := two hA hb6
          go_wp2_with fail
          refine hK.out _ _ (fun _ => hA) ?_
          clear hK K hb6
          try simp only [Act.put, List.setIfInBounds_toArray, List.set_cons_zero, List.set_cons_succ]
          refine AnyT.one (i := 12) (o := _) rfl (by kernel_rfl) (fun K hK => ?_)
          go_simp
          obtain ⟨w9, B7, e9, f9, hA9, hb9, nb7, ge7⟩ := box_new (t := 23) hA
          try have hne : B6 < B7 := (by have h0 := nb6.lt; omega)
          rw [e9, f9]
          clear e9 f9 hA
          have hA := hA9
          clear hA9
          try replace nb6 := nb6.later hb9
          clear hb9
          refine hK.out _ _ (fun _ => hA) ?_
          clear hK K
          try simp only [Act.put, List.setIfInBounds_toArray, List.set_cons_zero, List.set_cons_succ]
          obtain ⟨x0, x1, xf0, xf1⟩ := nb6
          obtain ⟨y0, y1, yf0, yf1⟩ := nb7
          have hne1 : B6 ≠ B7 := by omega
          have hne2 : B7 ≠ B6 := by omega
          refine AnyT.one (i := 13) (o := _) rfl (by kernel_rfl) (fun K hK => ?_)
          go_simp
          refine hK.out _ _ (fun _ => by go_grown) ?_
          clear hK K
          try simp only [Act.put, List.setIfInBounds_toArray, List.set_cons_zero, List.set_cons_succ]
          refine AnyT.one (i := 14) (o := _) rfl (by kernel_rfl) (fun K hK => ?_)
          go_simp
          refine hK.out _ _ (fun h => absurd rfl h) ?_
          clear hK K
          refine AnyT.done (by kernel_rfl) ?_
          try simp only [Act.put, List.setIfInBounds_toArray, List.set_cons_zero, List.set_cons_succ]
          go_wp2_with fail
          go_meet
          case rel => exact ⟨B6, B7, rfl, rfl, hBW.trans (Below.mono (by go_grown : Below W.heap.size W _) hBW.size), HX.out.later (by go_grown), ⟨by go_cell, by go_cell⟩, ⟨by go_cell, by go_cell⟩⟩
        · skip
          refine AnyT.step (o := _) rfl (fun K hK => ?_)
          go_simp
          obtain ⟨w9, B7, e9, f9, hA9, hb9, nb7, ge7⟩ := box_new (t := 23) hA
          try have hne : B6 < B7 := (by have h0 := nb6.lt; omega)
          rw [e9, f9]
          clear e9 f9 hA
          have hA := hA9
          clear hA9
          try replace nb6 := nb6.later hb9
          clear hb9
          refine hK.out _ _ (fun _ => hA) ?_
          clear hK K
          try simp only [Act.put, List.setIfInBounds_toArray, List.set_cons_zero, List.set_cons_succ]
          refine AnyT.one (i := 10) (o := _) rfl (by kernel_rfl) (fun K hK => ?_)
          go_simp
          refine (times_any c d (-x) _ HW.out.2.2.2.1 HW.out.2.2.2.2.2 HW.out.2.2.2.2.1 (by have := HY.out.2.1; omega) (by have := HY.out.1; omega)).mono ?_
          rintro e w6 ⟨rfl, hb6⟩
          rw [HP.out.2.2.1, HP.out.2.2.2]
          try replace nb6 := nb6.later hb6
          try replace nb7 := nb7.later hb6
          replace hA := two hA hb6
          go_wp2_with fail
          refine hK.out _ _ (fun _ => hA) ?_
          clear hK K hb6
          try simp only [Act.put, List.setIfInBounds_toArray, List.set_cons_zero, List.set_cons_succ]
          obtain ⟨x0, x1, xf0, xf1⟩ := nb6
          obtain ⟨y0, y1, yf0, yf1⟩ := nb7
          have hne1 : B6 ≠ B7 := by omega
          have hne2 : B7 ≠ B6 := by omega
          refine AnyT.one (i := 13) (o := _) rfl (by kernel_rfl) (fun K hK => ?_)
          go_simp
          refine hK.out _ _ (fun _ => by go_grown) ?_
          clear hK K
          try simp only [Act.put, List.setIfInBounds_toArray, List.set_cons_zero, List.set_cons_succ]
          refine AnyT.one (i := 14) (o := _) rfl (by kernel_rfl) (fun K hK => ?_)
          go_simp
          refine hK.out _ _ (fun h => absurd rfl h) ?_
          clear hK K
          refine AnyT.done (by kernel_rfl) ?_
          try simp only [Act.put, List.setIfInBounds_toArray, List.set_cons_zero, List.set_cons_succ]
          go_wp2_with fail
          go_meet
          case rel => exact ⟨B6, B7, rfl, rfl, hBW.trans (Below.mono (by go_grown : Below W.heap.size W _) hBW.size), HX.out.later (by go_grown), ⟨by go_cell, by go_cell⟩, ⟨by go_cell, by go_cell⟩⟩
      · skip
        refine AnyT.step (o := _) rfl (fun K hK => ?_)
        go_simp
        obtain ⟨w9, B7, e9, f9, hA9, hb9, nb7, ge7⟩ := box_new (t := 23) hA
        try have hne : B6 < B7 := (by have h0 := nb6.lt; omega)
        rw [e9, f9]
        clear e9 f9 hA
        have hA := hA9
        clear hA9
        try replace nb6 := nb6.later hb9
        clear hb9
        refine hK.out _ _ (fun _ => hA) ?_
        clear hK K
        try simp only [Act.put, List.setIfInBounds_toArray, List.set_cons_zero, List.set_cons_succ]
        refine AnyT.some [10, 11] (by kernel_rfl) (by simp) (fun i hi => ?_)
        simp only [List.mem_cons, List.not_mem_nil, or_false] at hi
        rcases hi with rfl | rfl
        · skip
          refine AnyT.step (o := _) rfl (fun K hK => ?_)
          go_simp
          refine (times_any c d (-x) _ HW.out.2.2.2.1 HW.out.2.2.2.2.2 HW.out.2.2.2.2.1 (by have := HY.out.2.1; omega) (by have := HY.out.1; omega)).mono ?_
          rintro e w6 ⟨rfl, hb6⟩
          rw [HP.out.2.2.1, HP.out.2.2.2]
          try replace nb6 := nb6.later hb6
          try replace nb7 := nb7.later hb6
          replace hA := two hA hb6
          go_wp2_with fail
          refine hK.out _ _ (fun _ => hA) ?_
          clear hK K hb6
          try simp only [Act.put, List.setIfInBounds_toArray, List.set_cons_zero, List.set_cons_succ]
          refine AnyT.one (i := 11) (o := _) rfl (by kernel_rfl) (fun K hK => ?_)
          go_simp
          obtain ⟨w9, B6, e9, f9, hA9, hb9, nb6, ge6⟩ := box_new (t := 23) hA
          try have hne : B7 < B6 := (by have h0 := nb7.lt; omega)
          rw [e9, f9]
          clear e9 f9 hA
          have hA := hA9
          clear hA9
          try replace nb7 := nb7.later hb9
          clear hb9
          refine hK.out _ _ (fun _ => hA) ?_
          clear hK K
          try simp only [Act.put, List.setIfInBounds_toArray, List.set_cons_zero, List.set_cons_succ]
          obtain ⟨x0, x1, xf0, xf1⟩ := nb6
          obtain ⟨y0, y1, yf0, yf1⟩ := nb7
          have hne1 : B6 ≠ B7 := by omega
          have hne2 : B7 ≠ B6 := by omega
          refine AnyT.one (i := 13) (o := _) rfl (by kernel_rfl) (fun K hK => ?_)
          go_simp
          refine hK.out _ _ (fun _ => by go_grown) ?_
          clear hK K
          try simp only [Act.put, List.setIfInBounds_toArray, List.set_cons_zero, List.set_cons_succ]
          refine AnyT.one (i := 14) (o := _) rfl (by kernel_rfl) (fun K hK => ?_)
          go_simp
          refine hK.out _ _ (fun h => absurd rfl h) ?_
          clear hK K
          refine AnyT.done (by kernel_rfl) ?_
          try simp only [Act.put, List.setIfInBounds_toArray, List.set_cons_zero, List.set_cons_succ]
          go_wp2_with fail
          go_meet
          case rel => exact ⟨B6, B7, rfl, rfl, hBW.trans (Below.mono (by go_grown : Below W.heap.size W _) hBW.size), HX.out.later (by go_grown), ⟨by go_cell, by go_cell⟩, ⟨by go_cell, by go_cell⟩⟩
        · skip
          refine AnyT.step (o := _) rfl (fun K hK => ?_)
          go_simp
          obtain ⟨w9, B6, e9, f9, hA9, hb9, nb6, ge6⟩ := box_new (t := 23) hA
          try have hne : B7 < B6 := (by have h0 := nb7.lt; omega)
          rw [e9, f9]
          clear e9 f9 hA
          have hA := hA9
          clear hA9
          try replace nb7 := nb7.later hb9
          clear hb9
          refine hK.out _ _ (fun _ => hA) ?_
          clear hK K
          try simp only [Act.put, List.setIfInBounds_toArray, List.set_cons_zero, List.set_cons_succ]
          refine AnyT.one (i := 10) (o := _) rfl (by kernel_rfl) (fun K hK => ?_)
          go_simp
          refine (times_any c d (-x) _ HW.out.2.2.2.1 HW.out.2.2.2.2.2 HW.out.2.2.2.2.1 (by have := HY.out.2.1; omega) (by have := HY.out.1; omega)).mono ?_
          rintro e w6 ⟨rfl, hb6⟩
          rw [HP.out.2.2.1, HP.out.2.2.2]
          try replace nb6 := nb6.later hb6
          try replace nb7 := nb7.later hb6
          replace hA := two hA hb6
          go_wp2_with fail
          refine hK.out _ _ (fun _ => hA) ?_
          clear hK K hb6
          try simp only [Act.put, List.setIfInBounds_toArray, List.set_cons_zero, List.set_cons_succ]
          obtain ⟨x0, x1, xf0, xf1⟩ := nb6
          obtain ⟨y0, y1, yf0, yf1⟩ := nb7
          have hne1 : B6 ≠ B7 := by omega
          have hne2 : B7 ≠ B6 := by omega
          refine AnyT.one (i := 13) (o := _) rfl (by kernel_rfl) (fun K hK => ?_)
          go_simp
          refine hK.out _ _ (fun _ => by go_grown) ?_
          clear hK K
          try simp only [Act.put, List.setIfInBounds_toArray, List.set_cons_zero, List.set_cons_succ]
          refine AnyT.one (i := 14) (o := _) rfl (by kernel_rfl) (fun K hK => ?_)
          go_simp
          refine hK.out _ _ (fun h => absurd rfl h) ?_
          clear hK K
          refine AnyT.done (by kernel_rfl) ?_
          try simp only [Act.put, List.setIfInBounds_toArray, List.set_cons_zero, List.set_cons_succ]
          go_wp2_with fail
          go_meet
          case rel => exact ⟨B6, B7, rfl, rfl, hBW.trans (Below.mono (by go_grown : Below W.heap.size W _) hBW.size), HX.out.later (by go_grown), ⟨by go_cell, by go_cell⟩, ⟨by go_cell, by go_cell⟩⟩
    · skip
      refine AnyT.step (o := _) rfl (fun K hK => ?_)
      go_simp
      obtain ⟨w9, B6, e9, f9, hA9, hb9, nb6, ge6⟩ := box_new (t := 23) hA
      try have hne : B7 < B6 := (by have h0 := nb7.lt; omega)
      rw [e9, f9]
      clear e9 f9 hA
      have hA := hA9
      clear hA9
      try replace nb7 := nb7.later hb9
      clear hb9
      refine hK.out _ _ (fun _ => hA) ?_
      clear hK K
      try simp only [Act.put, List.setIfInBounds_toArray, List.set_cons_zero, List.set_cons_succ]
      refine AnyT.some [4, 12] (by kernel_rfl) (by simp) (fun i hi => ?_)
      simp only [List.mem_cons, List.not_mem_nil, or_false] at hi
      rcases hi with rfl | rfl
      · skip
        refine AnyT.step (o := _) rfl (fun K hK => ?_)
        go_simp
        refine (times_any a b y _ HW.out.1 HW.out.2.2.1 HW.out.2.1 HY.out.2.2.1 HY.out.2.2.2.1).mono ?_
        rintro e w6 ⟨rfl, hb6⟩
        rw [HP.out.1, HP.out.2.1]
        try replace nb6 := nb6.later hb6
        try replace nb7 := nb7.later hb6
        replace hA := two hA hb6
        go_wp2_with fail
        refine hK.out _ _ (fun _ => hA) ?_
        clear hK K hb6
        try simp only [Act.put, List.setIfInBounds_toArray, List.set_cons_zero, List.set_cons_succ]
        refine AnyT.some [10, 12] (by kernel_rfl) (by simp) (fun i hi => ?_)
        simp only [List.mem_cons, List.not_mem_nil, or_false] at hi
        rcases hi with rfl | rfl
        · skip
          refine AnyT.step (o := _) rfl (fun K hK => ?_)
          go_simp
          refine (times_any c d (-x) _ HW.out.2.2.2.1 HW.out.2.2.2.2.2 HW.out.2.2.2.2.1 (by have := HY.out.2.1; omega) (by have := HY.out.1; omega)).mono ?_
          rintro e w6 ⟨rfl, hb6⟩
          rw [HP.out.2.2.1, HP.out.2.2.2]
          try replace nb6 := nb6.later hb6
          try replace nb7 := nb7.later hb6
          replace hA := two hA hb6
          go_wp2_with fail
          refine hK.out _ _ (fun _ => hA) ?_
          clear hK K hb6
          try simp only [Act.put, List.setIfInBounds_toArray, List.set_cons_zero, List.set_cons_succ]
          refine AnyT.one (i := 12) (o := _) rfl (by kernel_rfl) (fun K hK => ?_)
          go_simp
          obtain ⟨w9, B7, e9, f9, hA9, hb9, nb7, ge7⟩ := box_new (t := 23) hA
          try have hne : B6 < B7 := (by have h0 := nb6.lt; omega)
          rw [e9, f9]
          clear e9 f9 hA
          have hA := hA9
          clear hA9
          try replace nb6 := nb6.later hb9
          clear hb9
          refine hK.out _ _ (fun _ => hA) ?_
          clear hK K
          try simp only [Act.put, List.setIfInBounds_toArray, List.set_cons_zero, List.set_cons_succ]
          obtain ⟨x0, x1, xf0, xf1⟩ := nb6
          obtain ⟨y0, y1, yf0, yf1⟩ := nb7
          have hne1 : B6 ≠ B7 := by omega
          have hne2 : B7 ≠ B6 := by omega
          refine AnyT.one (i := 13) (o := _) rfl (by kernel_rfl) (fun K hK => ?_)
          go_simp
          refine hK.out _ _ (fun _ => by go_grown) ?_
          clear hK K
          try simp only [Act.put, List.setIfInBounds_toArray, List.set_cons_zero, List.set_cons_succ]
          refine AnyT.one (i := 14) (o := _) rfl (by kernel_rfl) (fun K hK => ?_)
          go_simp
          refine hK.out _ _ (fun h => absurd rfl h) ?_
          clear hK K
          refine AnyT.done (by kernel_rfl) ?_
          try simp only [Act.put, List.setIfInBounds_toArray, List.set_cons_zero, List.set_cons_succ]
          go_wp2_with fail
          go_meet
          case rel => exact ⟨B6, B7, rfl, rfl, hBW.trans (Below.mono (by go_grown : Below W.heap.size W _) hBW.size), HX.out.later (by go_grown), ⟨by go_cell, by go_cell⟩, ⟨by go_cell, by go_cell⟩⟩
        · skip
          refine AnyT.step (o := _) rfl (fun K hK => ?_)
          go_simp
          obtain ⟨w9, B7, e9, f9, hA9, hb9, nb7, ge7⟩ := box_new (t := 23) hA
          try have hne : B6 < B7 := (by have h0 := nb6.lt; omega)
          rw [e9, f9]
          clear e9 f9 hA
          have hA := hA9
          clear hA9
          try replace nb6 := nb6.later hb9
          clear hb9
          refine hK.out _ _ (fun _ => hA) ?_
          clear hK K
          try simp only [Act.put, List.setIfInBounds_toArray, List.set_cons_zero, List.set_cons_succ]
          refine AnyT.one (i := 10) (o := _) rfl (by kernel_rfl) (fun K hK => ?_)
          go_simp
          refine (times_any c d (-x) _ HW.out.2.2.2.1 HW.out.2.2.2.2.2 HW.out.2.2.2.2.1 (by have := HY.out.2.1; omega) (by have := HY.out.1; omega)).mono ?_
          rintro e w6 ⟨rfl, hb6⟩
          rw [HP.out.2.2.1, HP.out.2.2.2]
          try replace nb6 := nb6.later hb6
          try replace nb7 := nb7.later hb6
          replace hA := two hA hb6
          go_wp2_with fail
          refine hK.out _ _ (fun _ => hA) ?_
          clear hK K hb6
          try simp only [Act.put, List.setIfInBounds_toArray, List.set_cons_zero, List.set_cons_succ]
          obtain ⟨x0, x1, xf0, xf1⟩ := nb6
          obtain ⟨y0, y1, yf0, yf1⟩ := nb7
          have hne1 : B6 ≠ B7 := by omega
          have hne2 : B7 ≠ B6 := by omega
          refine AnyT.one (i := 13) (o := _) rfl (by kernel_rfl) (fun K hK => ?_)
          go_simp
          refine hK.out _ _ (fun _ => by go_grown) ?_
          clear hK K
          try simp only [Act.put, List.setIfInBounds_toArray, List.set_cons_zero, List.set_cons_succ]
          refine AnyT.one (i := 14) (o := _) rfl (by kernel_rfl) (fun K hK => ?_)
          go_simp
          refine hK.out _ _ (fun h => absurd rfl h) ?_
          clear hK K
          refine AnyT.done (by kernel_rfl) ?_
          try simp only [Act.put, List.setIfInBounds_toArray, List.set_cons_zero, List.set_cons_succ]
          go_wp2_with fail
          go_meet
          case rel => exact ⟨B6, B7, rfl, rfl, hBW.trans (Below.mono (by go_grown : Below W.heap.size W _) hBW.size), HX.out.later (by go_grown), ⟨by go_cell, by go_cell⟩, ⟨by go_cell, by go_cell⟩⟩
      · skip
        refine AnyT.step (o := _) rfl (fun K hK => ?_)
        go_simp
        obtain ⟨w9, B7, e9, f9, hA9, hb9, nb7, ge7⟩ := box_new (t := 23) hA
        try have hne : B6 < B7 := (by have h0 := nb6.lt; omega)
        rw [e9, f9]
        clear e9 f9 hA
        have hA := hA9
        clear hA9
        try replace nb6 := nb6.later hb9
        clear hb9
        refine hK.out _ _ (fun _ => hA) ?_
        clear hK K
        try simp only [Act.put, List.setIfInBounds_toArray, List.set_cons_zero, List.set_cons_succ]
        refine AnyT.one (i := 4) (o := _) rfl (by kernel_rfl) (fun K hK => ?_)
        go_simp
        refine (times_any a b y _ HW.out.1 HW.out.2.2.1 HW.out.2.1 HY.out.2.2.1 HY.out.2.2.2.1).mono ?_
        rintro e w6 ⟨rfl, hb6⟩
        rw [HP.out.1, HP.out.2.1]
        try replace nb6 := nb6.later hb6
        try replace nb7 := nb7.later hb6
        replace hA := two hA hb6
        go_wp2_with fail
        refine hK.out _ _ (fun _ => hA) ?_
        clear hK K hb6
        try simp only [Act.put, List.setIfInBounds_toArray, List.set_cons_zero, List.set_cons_succ]
        refine AnyT.one (i := 10) (o := _) rfl (by kernel_rfl) (fun K hK => ?_)
        go_simp
        refine (times_any c d (-x) _ HW.out.2.2.2.1 HW.out.2.2.2.2.2 HW.out.2.2.2.2.1 (by have := HY.out.2.1; omega) (by have := HY.out.1; omega)).mono ?_
        rintro e w6 ⟨rfl, hb6⟩
        rw [HP.out.2.2.1, HP.out.2.2.2]
        try replace nb6 := nb6.later hb6
        try replace nb7 := nb7.later hb6
        replace hA := two hA hb6
        go_wp2_with fail
        refine hK.out _ _ (fun _ => hA) ?_
        clear hK K hb6
        try simp only [Act.put, List.setIfInBounds_toArray, List.set_cons_zero, List.set_cons_succ]
        obtain ⟨x0, x1, xf0, xf1⟩ := nb6
        obtain ⟨y0, y1, yf0, yf1⟩ := nb7
        have hne1 : B6 ≠ B7 := by omega
        have hne2 : B7 ≠ B6 := by omega
        refine AnyT.one (i := 13) (o := _) rfl (by kernel_rfl) (fun K hK => ?_)
        go_simp
        refine hK.out _ _ (fun _ => by go_grown) ?_
        clear hK K
        try simp only [Act.put, List.setIfInBounds_toArray, List.set_cons_zero, List.set_cons_succ]
        refine AnyT.one (i := 14) (o := _) rfl (by kernel_rfl) (fun K hK => ?_)
        go_simp
        refine hK.out _ _ (fun h => absurd rfl h) ?_
        clear hK K
        refine AnyT.done (by kernel_rfl) ?_
        try simp only [Act.put, List.setIfInBounds_toArray, List.set_cons_zero, List.set_cons_succ]
        go_wp2_with fail
        go_meet
        case rel => exact ⟨B6, B7, rfl, rfl, hBW.trans (Below.mono (by go_grown : Below W.heap.size W _) hBW.size), HX.out.later (by go_grown), ⟨by go_cell, by go_cell⟩, ⟨by go_cell, by go_cell⟩⟩
    · skip
      refine AnyT.step (o := _) rfl (fun K hK => ?_)
      go_simp
      obtain ⟨w9, B7, e9, f9, hA9, hb9, nb7, ge7⟩ := box_new (t := 23) hA
      try have hne : B6 < B7 := (by have h0 := nb6.lt; omega)
      rw [e9, f9]
      clear e9 f9 hA
      have hA := hA9
      clear hA9
      try replace nb6 := nb6.later hb9
      clear hb9
      refine hK.out _ _ (fun _ => hA) ?_
      clear hK K
      try simp only [Act.put, List.setIfInBounds_toArray, List.set_cons_zero, List.set_cons_succ]
      refine AnyT.some [4, 11] (by kernel_rfl) (by simp) (fun i hi => ?_)
      simp only [List.mem_cons, List.not_mem_nil, or_false] at hi
      rcases hi with rfl | rfl
      · skip
        refine AnyT.step (o := _) rfl (fun K hK => ?_)
        go_simp
        refine (times_any a b y _ HW.out.1 HW.out.2.2.1 HW.out.2.1 HY.out.2.2.1 HY.out.2.2.2.1).mono ?_
        rintro e w6 ⟨rfl, hb6⟩
        rw [HP.out.1, HP.out.2.1]
        try replace nb6 := nb6.later hb6
        try replace nb7 := nb7.later hb6
        replace hA := two hA hb6
        go_wp2_with fail
        refine hK.out _ _ (fun _ => hA) ?_
        clear hK K hb6
        try simp only [Act.put, List.setIfInBounds_toArray, List.set_cons_zero, List.set_cons_succ]
        refine AnyT.some [10, 11] (by kernel_rfl) (by simp) (fun i hi => ?_)
        simp only [List.mem_cons, List.not_mem_nil, or_false] at hi
        rcases hi with rfl | rfl
        · skip
          refine AnyT.step (o := _) rfl (fun K hK => ?_)
          go_simp
          refine (times_any c d (-x) _ HW.out.2.2.2.1 HW.out.2.2.2.2.2 HW.out.2.2.2.2.1 (by have := HY.out.2.1; omega) (by have := HY.out.1; omega)).mono ?_
          rintro e w6 ⟨rfl, hb6⟩
          rw [HP.out.2.2.1, HP.out.2.2.2]
          try replace nb6 := nb6.later hb6
          try replace nb7 := nb7.later hb6
          replace hA := two hA hb6
          go_wp2_with fail
          refine hK.out _ _ (fun _ => hA) ?_
          clear hK K hb6
          try simp only [Act.put, List.setIfInBounds_toArray, List.set_cons_zero, List.set_cons_succ]
          refine AnyT.one (i := 11) (o := _) rfl (by kernel_rfl) (fun K hK => ?_)
          go_simp
          obtain ⟨w9, B6, e9, f9, hA9, hb9, nb6, ge6⟩ := box_new (t := 23) hA
          try have hne : B7 < B6 := (by have h0 := nb7.lt; omega)
          rw [e9, f9]
          clear e9 f9 hA
          have hA := hA9
          clear hA9
          try replace nb7 := nb7.later hb9
          clear hb9
          refine hK.out _ _ (fun _ => hA) ?_
          clear hK K
          try simp only [Act.put, List.setIfInBounds_toArray, List.set_cons_zero, List.set_cons_succ]
          obtain ⟨x0, x1, xf0, xf1⟩ := nb6
          obtain ⟨y0, y1, yf0, yf1⟩ := nb7
          have hne1 : B6 ≠ B7 := by omega
          have hne2 : B7 ≠ B6 := by omega
          refine AnyT.one (i := 13) (o := _) rfl (by kernel_rfl) (fun K hK => ?_)
          go_simp
          refine hK.out _ _ (fun _ => by go_grown) ?_
          clear hK K
          try simp only [Act.put, List.setIfInBounds_toArray, List.set_cons_zero, List.set_cons_succ]
          refine AnyT.one (i := 14) (o := _) rfl (by kernel_rfl) (fun K hK => ?_)
          go_simp
          refine hK.out _ _ (fun h => absurd rfl h) ?_
          clear hK K
          refine AnyT.done (by kernel_rfl) ?_
          try simp only [Act.put, List.setIfInBounds_toArray, List.set_cons_zero, List.set_cons_succ]
          go_wp2_with fail
          go_meet
          case rel => exact ⟨B6, B7, rfl, rfl, hBW.trans (Below.mono (by go_grown : Below W.heap.size W _) hBW.size), HX.out.later (by go_grown), ⟨by go_cell, by go_cell⟩, ⟨by go_cell, by go_cell⟩⟩
        · skip
          refine AnyT.step (o := _) rfl (fun K hK => ?_)
          go_simp
          obtain ⟨w9, B6, e9, f9, hA9, hb9, nb6, ge6⟩ := box_new (t := 23) hA
          try have hne : B7 < B6 := (by have h0 := nb7.lt; omega)
          rw [e9, f9]
          clear e9 f9 hA
          have hA := hA9
          clear hA9
          try replace nb7 := nb7.later hb9
          clear hb9
          refine hK.out _ _ (fun _ => hA) ?_
          clear hK K
          try simp only [Act.put, List.setIfInBounds_toArray, List.set_cons_zero, List.set_cons_succ]
          refine AnyT.one (i := 10) (o := _) rfl (by kernel_rfl) (fun K hK => ?_)
          go_simp
          refine (times_any c d (-x) _ HW.out.2.2.2.1 HW.out.2.2.2.2.2 HW.out.2.2.2.2.1 (by have := HY.out.2.1; omega) (by have := HY.out.1; omega)).mono ?_
          rintro e w6 ⟨rfl, hb6⟩
          rw [HP.out.2.2.1, HP.out.2.2.2]
          try replace nb6 := nb6.later hb6
          try replace nb7 := nb7.later hb6
          replace hA := two hA hb6
          go_wp2_with fail
          refine hK.out _ _ (fun _ => hA) ?_
          clear hK K hb6
          try simp only [Act.put, List.setIfInBounds_toArray, List.set_cons_zero, List.set_cons_succ]
          obtain ⟨x0, x1, xf0, xf1⟩ := nb6
          obtain ⟨y0, y1, yf0, yf1⟩ := nb7
          have hne1 : B6 ≠ B7 := by omega
          have hne2 : B7 ≠ B6 := by omega
          refine AnyT.one (i := 13) (o := _) rfl (by kernel_rfl) (fun K hK => ?_)
          go_simp
          refine hK.out _ _ (fun _ => by go_grown) ?_
          clear hK K
          try simp only [Act.put, List.setIfInBounds_toArray, List.set_cons_zero, List.set_cons_succ]
          refine AnyT.one (i := 14) (o := _) rfl (by kernel_rfl) (fun K hK => ?_)
          go_simp
          refine hK.out _ _ (fun h => absurd rfl h) ?_
          clear hK K
          refine AnyT.done (by kernel_rfl) ?_
          try simp only [Act.put, List.setIfInBounds_toArray, List.set_cons_zero, List.set_cons_succ]
          go_wp2_with fail
          go_meet
          case rel => exact ⟨B6, B7, rfl, rfl, hBW.trans (Below.mono (by go_grown : Below W.heap.size W _) hBW.size), HX.out.later (by go_grown), ⟨by go_cell, by go_cell⟩, ⟨by go_cell, by go_cell⟩⟩
      · skip
        refine AnyT.step (o := _) rfl (fun K hK => ?_)
        go_simp
        obtain ⟨w9, B6, e9, f9, hA9, hb9, nb6, ge6⟩ := box_new (t := 23) hA
        try have hne : B7 < B6 := (by have h0 := nb7.lt; omega)
        rw [e9, f9]
        clear e9 f9 hA
        have hA := hA9
        clear hA9
        try replace nb7 := nb7.later hb9
        clear hb9
        refine hK.out _ _ (fun _ => hA) ?_
        clear hK K
        try simp only [Act.put, List.setIfInBounds_toArray, List.set_cons_zero, List.set_cons_succ]
        refine AnyT.one (i := 4) (o := _) rfl (by kernel_rfl) (fun K hK => ?_)
        go_simp
        refine (times_any a b y _ HW.out.1 HW.out.2.2.1 HW.out.2.1 HY.out.2.2.1 HY.out.2.2.2.1).mono ?_
        rintro e w6 ⟨rfl, hb6⟩
        rw [HP.out.1, HP.out.2.1]
        try replace nb6 := nb6.later hb6
        try replace nb7 := nb7.later hb6
        replace hA := two hA hb6
        go_wp2_with fail
        refine hK.out _ _ (fun _ => hA) ?_
        clear hK K hb6
        try simp only [Act.put, List.setIfInBounds_toArray, List.set_cons_zero, List.set_cons_succ]
        refine AnyT.one (i := 10) (o := _) rfl (by kernel_rfl) (fun K hK => ?_)
        go_simp
        refine (times_any c d (-x) _ HW.out.2.2.2.1 HW.out.2.2.2.2.2 HW.out.2.2.2.2.1 (by have := HY.out.2.1; omega) (by have := HY.out.1; omega)).mono ?_
        rintro e w6 ⟨rfl, hb6⟩
        rw [HP.out.2.2.1, HP.out.2.2.2]
        try replace nb6 := nb6.later hb6
        try replace nb7 := nb7.later hb6
        replace hA := two hA hb6
        go_wp2_with fail
        refine hK.out _ _ (fun _ => hA) ?_
        clear hK K hb6
        try simp only [Act.put, List.setIfInBounds_toArray, List.set_cons_zero, List.set_cons_succ]
        obtain ⟨x0, x1, xf0, xf1⟩ := nb6
        obtain ⟨y0, y1, yf0, yf1⟩ := nb7
        have hne1 : B6 ≠ B7 := by omega
        have hne2 : B7 ≠ B6 := by omega
        refine AnyT.one (i := 13) (o := _) rfl (by kernel_rfl) (fun K hK => ?_)
        go_simp
        refine hK.out _ _ (fun _ => by go_grown) ?_
        clear hK K
        try simp only [Act.put, List.setIfInBounds_toArray, List.set_cons_zero, List.set_cons_succ]
        refine AnyT.one (i := 14) (o := _) rfl (by kernel_rfl) (fun K hK => ?_)
        go_simp
        refine hK.out _ _ (fun h => absurd rfl h) ?_
        clear hK K
        refine AnyT.done (by kernel_rfl) ?_
        try simp only [Act.put, List.setIfInBounds_toArray, List.set_cons_zero, List.set_cons_succ]
        go_wp2_with fail
        go_meet
        case rel => exact ⟨B6, B7, rfl, rfl, hBW.trans (Below.mono (by go_grown : Below W.heap.size W _) hBW.size), HX.out.later (by go_grown), ⟨by go_cell, by go_cell⟩, ⟨by go_cell, by go_cell⟩⟩
  case rest =>
    obtain ⟨B4, B5, rfl, rfl, hBW, hX, hm, hk⟩ := hcut
    generalize wc = W at *
    have HX := Lib.hid hX
    obtain ⟨m0, m1⟩ := hm
    obtain ⟨n0, n1⟩ := hk
    have q1 := World.block_lt_of_cell? _ _ m0
    have q2 := World.block_lt_of_cell? _ _ n0
    clear hX
    go_wp2_with fail
    go_cut [8, 9] from 33 to 44 (fun v8 v9 wr => CrE w wr v8 v9 a b c d x y l g)
    case first =>
      go_region
      go_wp2_with fail
      all_goals
        go_meet
        case rel => exact ⟨by rw [← HE.out.1]; congr 1; omega, by rw [← HE.out.2], hBW.trans (Below.mono (by go_grown : Below W.heap.size W _) hBW.size), HX.out.later (by go_grown)⟩
    case rest =>
      obtain ⟨rfl, rfl, hBV, hX⟩ := hcut
      generalize wc = V at *
      have a0 := hX.axis.c0
      have a1 := hX.axis.c1
      have hq1 := hX.axis.lt
      have HX := Lib.hid hX
      clear hX
      have hxx := HXX.out
      have hyy := HYY.out
      have hlo := HLo.out
      go_wp2_with fail
      clear hxx hyy hlo fxx fyy a0 a1
      refine (down_any l q _ HB.out.2.2.2.1 (by have := HB.out; omega) (by omega) l1 (by rw [← HL.out, ← HQ.out]; exact HD.out)).mono ?_
      rintro e w1 ⟨⟨r, rfl, hr, hr2⟩, hb1⟩
      have HR := Lib.hid hr
      have hB1 : Below w.heap.size w w1 := hBV.trans (hb1.mono hBV.size)
      have HX1 := Lib.hid (HX.out.later hb1)
      clear hr hb1 HX hBV
      go_wp2_with fail
      refine (up_any g q _ (by have := HB.out; omega) HB.out.2.2.2.2.2 (by omega) l1 (by rw [← HG.out, ← HQ.out]; exact HC.out)).mono ?_
      rintro e w2 ⟨⟨s, rfl, hs, hs2⟩, hb2⟩
      have HS := Lib.hid hs
      have hB2 : Below w.heap.size w w2 := hB1.trans (hb2.mono hB1.size)
      obtain ⟨y0, y1, yf0, yf1⟩ := (HX1.out.later hb2).res
      have q3 := World.block_lt_of_cell? _ _ y0
      clear hs hb2 HX1 hB1
      go_wp2_with fail
      exact bodyPost_ret (v := sp r s) (by simp [results, Try.results45, go_sem, *]) rfl ⟨⟨r, s, rfl, by unfold CrossP; rw [HL.out, HG.out, HQ.out]; exact ⟨HR.out, HS.out⟩, hs2⟩, by go_grown⟩
end Go.Proofs.Ytbkabgbkdggnhaa
