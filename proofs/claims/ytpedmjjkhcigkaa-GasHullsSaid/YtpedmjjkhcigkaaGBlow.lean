/- Package gas: blow. -/
import Derived.Test.YtpedmjjkhcigkaaGInw
import Derived.Test.YtpedmjjkhcigkaaTail2
namespace Go.Proofs.Ytpedmjjkhcigkaa
open Go.RowKit

theorem NewBox.lt {w : World} {B : Nat} (k : NewBox w B) : B < w.heap.size := World.block_lt_of_cell? _ _ k.c0
/-- A box of two numbers, made in a region of W. -/
theorem box_new {W cur : World} {t : TypeId} (hA : Below W.heap.size W cur) :
    ∃ w9 B, cur.alloc (.cells #[.int .i64 0, .int .i64 0] t) = w9 ∧ cur.heap.size = B ∧ Below W.heap.size W w9 ∧ Below cur.heap.size cur w9 ∧ NewBox w9 B ∧ W.heap.size ≤ B :=
  ⟨_, _, rfl, rfl, hA.alloc hA.size _, (Below.refl _ _).alloc (Nat.le_refl _) _, ⟨by go_cell, by go_cell, by go_cell, by go_cell⟩, hA.size⟩
/-- What blow keeps while it asks for extremes. -/
structure BlW (w wr : World) (rm gs w0 w1 bl bg ls ms p0 p1 t0 t1 : Int) : Prop where
  hull : Eight wr w.heap.size rm gs w0 w1 bl bg ls ms
  air : Four wr (w.heap.size + 1) p0 p1 t0 t1
  res : NewBox wr (w.heap.size + 1 + 1)
theorem BlW.later {w wr w1' : World} {rm gs w0 w1 bl bg ls ms p0 p1 t0 t1 : Int} (k : BlW w wr rm gs w0 w1 bl bg ls ms p0 p1 t0 t1) (hb : Below wr.heap.size wr w1') : BlW w w1' rm gs w0 w1 bl bg ls ms p0 p1 t0 t1 := ⟨k.hull.later hb, k.air.later hb, k.res.later hb⟩
/-- Behind a region: its two boxes. -/
def BlC (w wr : World) (v v' : Value) (rm gs w0 w1 bl bg ls ms p0 p1 t0 t1 : Int) (a b c d : Int) : Prop := ∃ B B' : Nat, v = .pointer (some ⟨B, 0, none⟩) ∧ v' = .pointer (some ⟨B', 0, none⟩) ∧ Below w.heap.size w wr ∧ BlW w wr rm gs w0 w1 bl bg ls ms p0 p1 t0 t1 ∧ Two2 wr B a b ∧ Two2 wr B' c d
def BlD (w wr : World) (v v' v7 : Value) (rm gs w0 w1 bl bg ls ms p0 p1 t0 t1 : Int) (a b c d e f : Int) : Prop := BlC w wr v v' rm gs w0 w1 bl bg ls ms p0 p1 t0 t1 a b c d ∧ ∃ B : Nat, v7 = .pointer (some ⟨B, 0, none⟩) ∧ Two2 wr B e f

theorem blow_gives {rm gs w0 w1 bl bg ls ms p0 p1 t0 t1 : Int} (hh : hullB rm gs w0 w1 bl bg ls ms = true) (ha : airB p0 p1 t0 t1 = true) (ov : Int) (ho0 : 0 ≤ ov) (ho1 : ov ≤ 500) :
    Fairs (blowR rm gs ov) ((p0, t0, w0) :: mos p0 p1 t0 t1 w0 w1) ∧
    ∀ (O Y : Nat) {W : World}, W.cell? ⟨O, 0, none⟩ = some (.int .i64 ov) → Eight W Y rm gs w0 w1 bl bg ls ms → GivesBlow O Y (blowR rm gs ov) ((p0, t0, w0) :: mos p0 p1 t0 t1 w0 w1) W := by
  obtain ⟨⟨r0, r1⟩, ⟨g0, g1⟩, ⟨x0, x1, x2⟩, ⟨b0, b1, b2⟩, l0, l1, l2⟩ := hull_ok hh
  obtain ⟨⟨p0', p1', p2'⟩, t0', t1', t2'⟩ := air_ok ha
  refine ⟨(blow_bound r0 r1 g0 g1 ho0 ho1 (by omega) p1' p2' t0' t1' t2' x0 x1 x2).fairs (by omega), fun O Y W hO hY x hx w' hb' => ?_⟩
  obtain ⟨h1, h2, h3⟩ := mos_mem hx
  exact blow1_any Y rm gs w0 w1 bl bg ls ms x.1 x.2.1 x.2.2 O ov w' (hY.later hb') (cell_later hb' hO) r0 r1 g0 g1 (by omega) (by omega) (by omega) (by omega) (by omega) (by omega) ho0 ho1
/-- What blow returns. -/
def blowP (rm gs w0 w1 bg ls ms p0 p1 t0 t1 : Int) : Int × Int := (max (cl (blowX rm gs ls p0 p1 t0 t1 w0 w1).2.1 (blowX rm gs ls p0 p1 t0 t1 w0 w1).2.2) 0, min (fl (blowX rm gs ms p0 p1 t0 t1 w0 w1).1.1 (blowX rm gs ms p0 p1 t0 t1 w0 w1).1.2) bg)

set_option linter.unusedSimpArgs false in
set_option maxRecDepth 100000 in
set_option maxHeartbeats 8000000 in
theorem blow_any (rm gs w0 w1' bl bg ls ms p0 p1 t0 t1 : Int) (w : World) (hh : hullB rm gs w0 w1' bl bg ls ms = true) (ha : airB p0 p1 t0 t1 = true) :
    Calls Try.prog 93 #[hullV rm gs w0 w1' bl bg ls ms, airV p0 p1 t0 t1] w fun e w' => e = .returned (sp (blowP rm gs w0 w1' bg ls ms p0 p1 t0 t1).1 (blowP rm gs w0 w1' bg ls ms p0 p1 t0 t1).2) ∧ Below w.heap.size w w' := by
  obtain ⟨⟨r0, r1⟩, ⟨g0, g1⟩, ⟨x0, x1, x2⟩, ⟨b0, b1, b2⟩, l0, l1, l2⟩ := hull_ok hh
  obtain ⟨⟨p0', p1', p2'⟩, t0', t1', t2'⟩ := air_ok ha
  obtain ⟨hFL, hSL⟩ := blow_gives hh ha ls l0 (by omega)
  obtain ⟨hFM, hSM⟩ := blow_gives hh ha ms (by omega) l2
  have hBL := blow_bound (rm := rm) (gs := gs) (ov := ls) (p0 := p0) (p1 := p1) (t0 := t0) (t1 := t1) (w0 := w0) (w1 := w1') r0 r1 g0 g1 l0 (by omega) (by omega) p1' p2' t0' t1' t2' x0 x1 x2
  have hBM := blow_bound (rm := rm) (gs := gs) (ov := ms) (p0 := p0) (p1 := p1) (t0 := t0) (t1 := t1) (w0 := w0) (w1 := w1') r0 r1 g0 g1 (by omega) l2 (by omega) p1' p2' t0' t1' t2' x0 x1 x2
  obtain ⟨E, hEL⟩ : ∃ x, blowX rm gs ls p0 p1 t0 t1 w0 w1' = x := ⟨_, rfl⟩
  obtain ⟨⟨k1, k2⟩, k3, k4⟩ := E
  obtain ⟨E, hEM⟩ : ∃ x, blowX rm gs ms p0 p1 t0 t1 w0 w1' = x := ⟨_, rfl⟩
  obtain ⟨⟨z1, z2⟩, z3, z4⟩ := E
  obtain ⟨_, i1, i2, i3, i4⟩ := hBL.ends hEL
  obtain ⟨⟨j1, j2, j3, j4⟩, _⟩ := hBM.ends hEM
  have hfk : Fair k3 := ⟨by omega, by omega⟩
  have hfz : Fair z1 := ⟨by omega, by omega⟩
  have hres : blowP rm gs w0 w1' bg ls ms p0 p1 t0 t1 = (max (cl k3 k4) 0, min (fl z1 z2) bg) := by unfold blowP; rw [hEL, hEM]
  rw [hres]
  obtain ⟨lo, hlo⟩ : ∃ x, cl k3 k4 = x := ⟨_, rfl⟩
  obtain ⟨hi, hhi⟩ : ∃ x, fl z1 z2 = x := ⟨_, rfl⟩
  rw [hlo, hhi]
  have HLo := Lib.hid hlo
  have HHi := Lib.hid hhi
  have HFK := Lib.hid hfk
  have HFZ := Lib.hid hfz
  have HI : Hid ((1 ≤ k4 ∧ k4 ≤ 4611686018427387904) ∧ (1 ≤ z2 ∧ z2 ≤ 4611686018427387904)) := Lib.hid ⟨⟨i3, by omega⟩, j3, by omega⟩
  have HEL := Lib.hid (show exOf (blowR rm gs ls) (p0, t0, w0) (mos p0 p1 t0 t1 w0 w1') = _ from hEL)
  have HEM := Lib.hid (show exOf (blowR rm gs ms) (p0, t0, w0) (mos p0 p1 t0 t1 w0 w1') = _ from hEM)
  have HFL := Lib.hid hFL
  have HFM := Lib.hid hFM
  have HSL := Lib.hid @hSL
  have HSM := Lib.hid @hSM
  have hmf := makeFunc_run
  clear hres hlo hhi hEL hEM hFL hFM hSL hSM hBL hBM hfk hfz i1 i2 i3 i4 j1 j2 j3 j4 hh ha r0 r1 g0 g1 x0 x1 x2 b0 b1 b2 l0 l1 l2 p0' p1' p2' t0' t1' t2'
  go_enter Try.func93, Try.ntmps93
  go_wp2_with fail
  go_cut [6, 7] from 12 to 22 (fun v6 v7 wr => BlC w wr v6 v7 rm gs w0 w1' bl bg ls ms p0 p1 t0 t1 k1 k2 k3 k4)
  case first =>
    obtain ⟨W, hW⟩ : ∃ W, ((w.alloc (.cells #[.int .i64 rm, .int .i64 gs, .int .i64 w0, .int .i64 w1', .int .i64 bl, .int .i64 bg, .int .i64 ls, .int .i64 ms] 45)).alloc (.cells #[.int .i64 p0, .int .i64 p1, .int .i64 t0, .int .i64 t1] 27)).alloc (.cells #[.int .i64 0, .int .i64 0] 23) = W := ⟨_, rfl⟩
    have hX : BlW w W rm gs w0 w1' bl bg ls ms p0 p1 t0 t1 := by subst hW; exact ⟨⟨by go_cell, by go_cell, by go_cell, by go_cell, by go_cell, by go_cell, by go_cell, by go_cell⟩, ⟨by go_cell, by go_cell, by go_cell, by go_cell⟩, ⟨by go_cell, by go_cell, by go_cell, by go_cell⟩⟩
    have hBW : Below w.heap.size w W := by subst hW; go_grown
    rw [hW]
    have HX := Lib.hid hX
    clear hW hX hmf
    have hA : Below W.heap.size W W.drew := below_drewN (Below.refl _ _) 1
    refine AnyT.begin (fun w' => Below W.heap.size W w') 14 (by kernel_rfl) hA (fun hHeld => ?_)
    generalize World.drew W = wd at hA hHeld ⊢
    refine AnyT.take (i := 0) (oi := _) (v := ?_) rfl (by kernel_rfl) (by kernel_rfl) (by kernel_rfl) (by kernel_rfl) (fun _ _ _ h => h) (Or.inl ⟨by kernel_rfl, ?_⟩) (by assumption) ?_
    rotate_left 1
    · intro wz hSw; skip; go_simp; try with_reducible rfl
    try simp only [Act.put, List.setIfInBounds_toArray, List.set_cons_zero, List.set_cons_succ]
    refine AnyT.take (i := 1) (oi := _) (v := ?_) rfl (by kernel_rfl) (by kernel_rfl) (by kernel_rfl) (by kernel_rfl) (fun _ _ _ h => h) (Or.inl ⟨by kernel_rfl, ?_⟩) (by assumption) ?_
    rotate_left 1
    · intro wz hSw; skip; go_simp; try with_reducible rfl
    try simp only [Act.put, List.setIfInBounds_toArray, List.set_cons_zero, List.set_cons_succ]
    refine AnyT.take (i := 2) (oi := _) (v := ?_) rfl (by kernel_rfl) (by kernel_rfl) (by kernel_rfl) (by kernel_rfl) (fun _ _ _ h => h) (Or.inl ⟨by kernel_rfl, ?_⟩) (by assumption) ?_
    rotate_left 1
    · intro wz hSw; have h1 := (HX.out.later hSw).hull.c6; go_simp; try with_reducible rfl
    try simp only [Act.put, List.setIfInBounds_toArray, List.set_cons_zero, List.set_cons_succ]
    refine AnyT.take (i := 4) (oi := _) (v := ?_) rfl (by kernel_rfl) (by kernel_rfl) (by kernel_rfl) (by kernel_rfl) (fun _ _ _ h => h) (Or.inl ⟨by kernel_rfl, ?_⟩) (by assumption) ?_
    rotate_left 1
    · intro wz hSw; (have h1 := (HX.out.later hSw).air.c0; have h2 := (HX.out.later hSw).air.c1; have h3 := (HX.out.later hSw).air.c2; have h4 := (HX.out.later hSw).air.c3); go_simp; try with_reducible rfl
    try simp only [Act.put, List.setIfInBounds_toArray, List.set_cons_zero, List.set_cons_succ]
    refine AnyT.take (i := 5) (oi := _) (v := ?_) rfl (by kernel_rfl) (by kernel_rfl) (by kernel_rfl) (by kernel_rfl) (fun _ _ _ h => h) (Or.inl ⟨by kernel_rfl, ?_⟩) (by assumption) ?_
    rotate_left 1
    · intro wz hSw; skip; go_simp; try with_reducible rfl
    try simp only [Act.put, List.setIfInBounds_toArray, List.set_cons_zero, List.set_cons_succ]
    refine AnyT.take (i := 6) (oi := _) (v := ?_) rfl (by kernel_rfl) (by kernel_rfl) (by kernel_rfl) (by kernel_rfl) (fun _ _ _ h => h) (Or.inl ⟨by kernel_rfl, ?_⟩) (by assumption) ?_
    rotate_left 1
    · intro wz hSw; (have h1 := (HX.out.later hSw).hull.c2; have h2 := (HX.out.later hSw).hull.c3); go_simp; try with_reducible rfl
    try simp only [Act.put, List.setIfInBounds_toArray, List.set_cons_zero, List.set_cons_succ]
    clear hHeld
    refine AnyT.some [3, 11, 12] (by kernel_rfl) (by simp) (fun i hi => ?_)
    simp only [List.mem_cons, List.not_mem_nil, or_false] at hi
    rcases hi with rfl | rfl | rfl
    · skip
      refine AnyT.step (o := _) rfl (fun K hK => ?_)
      go_simp
      refine (blow1f_any w.heap.size ls _).mono ?_
      rintro e w6 ⟨O, rfl, gO, hb6⟩
      have fO := gO
      clear gO
      try replace nb6 := nb6.later hb6
      try replace nb7 := nb7.later hb6
      try replace fO := cell_later hb6 fO
      replace hA := two hA hb6
      go_wp2_with fail
      refine hK.out _ _ (fun _ => hA) ?_
      clear hK K hb6
      try simp only [Act.put, List.setIfInBounds_toArray, List.set_cons_zero, List.set_cons_succ]
      refine AnyT.some [7, 11, 12] (by kernel_rfl) (by simp) (fun i hi => ?_)
      simp only [List.mem_cons, List.not_mem_nil, or_false] at hi
      rcases hi with rfl | rfl | rfl
      · skip
        refine AnyT.step (o := _) rfl (fun K hK => ?_)
        go_simp
        refine (reach_Blow O w.heap.size (blowR rm gs ls) p0 p1 t0 t1 w0 w1' _ (HSL.out O _ fO (HX.out.later hA).hull) HFL.out).mono ?_
        rintro e w7 ⟨rfl, hb6⟩
        rw [HEL.out]
        try replace nb6 := nb6.later hb6
        try replace nb7 := nb7.later hb6
        try replace fO := cell_later hb6 fO
        replace hA := two hA hb6
        go_wp2_with fail
        refine hK.out _ _ (fun _ => hA) ?_
        clear hK K hb6
        try simp only [Act.put, List.setIfInBounds_toArray, List.set_cons_zero, List.set_cons_succ]
        refine AnyT.take (i := 8) (oi := _) (v := ?_) rfl (by kernel_rfl) (by kernel_rfl) (by kernel_rfl) (by kernel_rfl) (fun _ _ _ h => h) (Or.inl ⟨by kernel_rfl, ?_⟩) (by assumption) ?_
        rotate_left 1
        · intro wz hSw; skip; go_simp; try with_reducible rfl
        try simp only [Act.put, List.setIfInBounds_toArray, List.set_cons_zero, List.set_cons_succ]
        refine AnyT.take (i := 9) (oi := _) (v := ?_) rfl (by kernel_rfl) (by kernel_rfl) (by kernel_rfl) (by kernel_rfl) (fun _ _ _ h => h) (Or.inl ⟨by kernel_rfl, ?_⟩) (by assumption) ?_
        rotate_left 1
        · intro wz hSw; skip; go_simp; try with_reducible rfl
        try simp only [Act.put, List.setIfInBounds_toArray, List.set_cons_zero, List.set_cons_succ]
        refine AnyT.take (i := 10) (oi := _) (v := ?_) rfl (by kernel_rfl) (by kernel_rfl) (by kernel_rfl) (by kernel_rfl) (fun _ _ _ h => h) (Or.inl ⟨by kernel_rfl, ?_⟩) (by assumption) ?_
        rotate_left 1
        · intro wz hSw; skip; go_simp; try with_reducible rfl
        try simp only [Act.put, List.setIfInBounds_toArray, List.set_cons_zero, List.set_cons_succ]
        refine AnyT.some [11, 12] (by kernel_rfl) (by simp) (fun i hi => ?_)
        simp only [List.mem_cons, List.not_mem_nil, or_false] at hi
        rcases hi with rfl | rfl
        · skip
          refine AnyT.step (o := _) rfl (fun K hK => ?_)
          go_simp
          obtain ⟨w9, B6, e9, f9, hA9, hb9, nb6, ge6⟩ := box_new (t := 127) hA
          try have hne : B7 < B6 := (by have h0 := nb7.lt; omega)
          rw [e9, f9]
          clear e9 f9 hA
          have hA := hA9
          clear hA9
          try replace nb7 := nb7.later hb9
          try replace fO := cell_later hb9 fO
          clear hb9
          refine hK.out _ _ (fun _ => hA) ?_
          clear hK K
          try simp only [Act.put, List.setIfInBounds_toArray, List.set_cons_zero, List.set_cons_succ]
          refine AnyT.one (i := 12) (o := _) rfl (by kernel_rfl) (fun K hK => ?_)
          go_simp
          obtain ⟨w9, B7, e9, f9, hA9, hb9, nb7, ge7⟩ := box_new (t := 127) hA
          try have hne : B6 < B7 := (by have h0 := nb6.lt; omega)
          rw [e9, f9]
          clear e9 f9 hA
          have hA := hA9
          clear hA9
          try replace nb6 := nb6.later hb9
          try replace fO := cell_later hb9 fO
          clear hb9
          refine hK.out _ _ (fun _ => hA) ?_
          clear hK K
          try simp only [Act.put, List.setIfInBounds_toArray, List.set_cons_zero, List.set_cons_succ]
          obtain ⟨x0, x1, xf0, xf1⟩ := nb6
          obtain ⟨y0, y1, yf0, yf1⟩ := nb7
          have hne1 : B6 ≠ B7 := by omega
          have hne2 : B7 ≠ B6 := by omega
          refine AnyT.one (i := 13) (o := _) rfl (by kernel_rfl) (fun K hK => ?_)
          go_simp
          refine hK.out _ _ (fun _ => by go_grown) ?_
          clear hK K
          try simp only [Act.put, List.setIfInBounds_toArray, List.set_cons_zero, List.set_cons_succ]
          refine AnyT.one (i := 14) (o := _) rfl (by kernel_rfl) (fun K hK => ?_)
          go_simp
          refine hK.out _ _ (fun h => absurd rfl h) ?_
          clear hK K
          refine AnyT.done (by kernel_rfl) ?_
          try simp only [Act.put, List.setIfInBounds_toArray, List.set_cons_zero, List.set_cons_succ]
          go_wp2_with fail
          go_meet
          case rel => exact ⟨B6, B7, rfl, rfl, hBW.trans (Below.mono (by go_grown : Below W.heap.size W _) hBW.size), HX.out.later (by go_grown), ⟨by go_cell, by go_cell⟩, ⟨by go_cell, by go_cell⟩⟩
        · skip
          refine AnyT.step (o := _) rfl (fun K hK => ?_)
          go_simp
          obtain ⟨w9, B7, e9, f9, hA9, hb9, nb7, ge7⟩ := box_new (t := 127) hA
          try have hne : B6 < B7 := (by have h0 := nb6.lt; omega)
          rw [e9, f9]
          clear e9 f9 hA
          have hA := hA9
          clear hA9
          try replace nb6 := nb6.later hb9
          try replace fO := cell_later hb9 fO
          clear hb9
          refine hK.out _ _ (fun _ => hA) ?_
          clear hK K
          try simp only [Act.put, List.setIfInBounds_toArray, List.set_cons_zero, List.set_cons_succ]
          refine AnyT.one (i := 11) (o := _) rfl (by kernel_rfl) (fun K hK => ?_)
          go_simp
          obtain ⟨w9, B6, e9, f9, hA9, hb9, nb6, ge6⟩ := box_new (t := 127) hA
          try have hne : B7 < B6 := (by have h0 := nb7.lt; omega)
          rw [e9, f9]
          clear e9 f9 hA
          have hA := hA9
          clear hA9
          try replace nb7 := nb7.later hb9
          try replace fO := cell_later hb9 fO
          clear hb9
          refine hK.out _ _ (fun _ => hA) ?_
          clear hK K
          try simp only [Act.put, List.setIfInBounds_toArray, List.set_cons_zero, List.set_cons_succ]
          obtain ⟨x0, x1, xf0, xf1⟩ := nb6
          obtain ⟨y0, y1, yf0, yf1⟩ := nb7
          have hne1 : B6 ≠ B7 := by omega
          have hne2 : B7 ≠ B6 := by omega
          refine AnyT.one (i := 13) (o := _) rfl (by kernel_rfl) (fun K hK => ?_)
          go_simp
          refine hK.out _ _ (fun _ => by go_grown) ?_
          clear hK K
          try simp only [Act.put, List.setIfInBounds_toArray, List.set_cons_zero, List.set_cons_succ]
          refine AnyT.one (i := 14) (o := _) rfl (by kernel_rfl) (fun K hK => ?_)
          go_simp
          refine hK.out _ _ (fun h => absurd rfl h) ?_
          clear hK K
          refine AnyT.done (by kernel_rfl) ?_
          try simp only [Act.put, List.setIfInBounds_toArray, List.set_cons_zero, List.set_cons_succ]
          go_wp2_with fail
          go_meet
          case rel => exact ⟨B6, B7, rfl, rfl, hBW.trans (Below.mono (by go_grown : Below W.heap.size W _) hBW.size), HX.out.later (by go_grown), ⟨by go_cell, by go_cell⟩, ⟨by go_cell, by go_cell⟩⟩
      · skip
        refine AnyT.step (o := _) rfl (fun K hK => ?_)
        go_simp
        obtain ⟨w9, B6, e9, f9, hA9, hb9, nb6, ge6⟩ := box_new (t := 127) hA
        try have hne : B7 < B6 := (by have h0 := nb7.lt; omega)
        rw [e9, f9]
        clear e9 f9 hA
        have hA := hA9
        clear hA9
        try replace nb7 := nb7.later hb9
        try replace fO := cell_later hb9 fO
        clear hb9
        refine hK.out _ _ (fun _ => hA) ?_
        clear hK K
        try simp only [Act.put, List.setIfInBounds_toArray, List.set_cons_zero, List.set_cons_succ]
        refine AnyT.some [7, 12] (by kernel_rfl) (by simp) (fun i hi => ?_)
        simp only [List.mem_cons, List.not_mem_nil, or_false] at hi
        rcases hi with rfl | rfl
        · skip
          refine AnyT.step (o := _) rfl (fun K hK => ?_)
          go_simp
          refine (reach_Blow O w.heap.size (blowR rm gs ls) p0 p1 t0 t1 w0 w1' _ (HSL.out O _ fO (HX.out.later hA).hull) HFL.out).mono ?_
          rintro e w7 ⟨rfl, hb6⟩
          rw [HEL.out]
          try replace nb6 := nb6.later hb6
          try replace nb7 := nb7.later hb6
          try replace fO := cell_later hb6 fO
          replace hA := two hA hb6
          go_wp2_with fail
          refine hK.out _ _ (fun _ => hA) ?_
          clear hK K hb6
          try simp only [Act.put, List.setIfInBounds_toArray, List.set_cons_zero, List.set_cons_succ]
          refine AnyT.take (i := 8) (oi := _) (v := ?_) rfl (by kernel_rfl) (by kernel_rfl) (by kernel_rfl) (by kernel_rfl) (fun _ _ _ h => h) (Or.inl ⟨by kernel_rfl, ?_⟩) (by assumption) ?_
          rotate_left 1
          · intro wz hSw; skip; go_simp; try with_reducible rfl
          try simp only [Act.put, List.setIfInBounds_toArray, List.set_cons_zero, List.set_cons_succ]
          refine AnyT.take (i := 9) (oi := _) (v := ?_) rfl (by kernel_rfl) (by kernel_rfl) (by kernel_rfl) (by kernel_rfl) (fun _ _ _ h => h) (Or.inl ⟨by kernel_rfl, ?_⟩) (by assumption) ?_
          rotate_left 1
          · intro wz hSw; skip; go_simp; try with_reducible rfl
          try simp only [Act.put, List.setIfInBounds_toArray, List.set_cons_zero, List.set_cons_succ]
          refine AnyT.take (i := 10) (oi := _) (v := ?_) rfl (by kernel_rfl) (by kernel_rfl) (by kernel_rfl) (by kernel_rfl) (fun _ _ _ h => h) (Or.inl ⟨by kernel_rfl, ?_⟩) (by assumption) ?_
          rotate_left 1
          · intro wz hSw; skip; go_simp; try with_reducible rfl
          try simp only [Act.put, List.setIfInBounds_toArray, List.set_cons_zero, List.set_cons_succ]
          refine AnyT.one (i := 12) (o := _) rfl (by kernel_rfl) (fun K hK => ?_)
          go_simp
          obtain ⟨w9, B7, e9, f9, hA9, hb9, nb7, ge7⟩ := box_new (t := 127) hA
          try have hne : B6 < B7 := (by have h0 := nb6.lt; omega)
          rw [e9, f9]
          clear e9 f9 hA
          have hA := hA9
          clear hA9
          try replace nb6 := nb6.later hb9
          try replace fO := cell_later hb9 fO
          clear hb9
          refine hK.out _ _ (fun _ => hA) ?_
          clear hK K
          try simp only [Act.put, List.setIfInBounds_toArray, List.set_cons_zero, List.set_cons_succ]
          obtain ⟨x0, x1, xf0, xf1⟩ := nb6
          obtain ⟨y0, y1, yf0, yf1⟩ := nb7
          have hne1 : B6 ≠ B7 := by omega
          have hne2 : B7 ≠ B6 := by omega
          refine AnyT.one (i := 13) (o := _) rfl (by kernel_rfl) (fun K hK => ?_)
          go_simp
          refine hK.out _ _ (fun _ => by go_grown) ?_
          clear hK K
          try simp only [Act.put, List.setIfInBounds_toArray, List.set_cons_zero, List.set_cons_succ]
          refine AnyT.one (i := 14) (o := _) rfl (by kernel_rfl) (fun K hK => ?_)
          go_simp
          refine hK.out _ _ (fun h => absurd rfl h) ?_
          clear hK K
          refine AnyT.done (by kernel_rfl) ?_
          try simp only [Act.put, List.setIfInBounds_toArray, List.set_cons_zero, List.set_cons_succ]
          go_wp2_with fail
          go_meet
          case rel => exact ⟨B6, B7, rfl, rfl, hBW.trans (Below.mono (by go_grown : Below W.heap.size W _) hBW.size), HX.out.later (by go_grown), ⟨by go_cell, by go_cell⟩, ⟨by go_cell, by go_cell⟩⟩
        · skip
          refine AnyT.step (o := _) rfl (fun K hK => ?_)
          go_simp
          obtain ⟨w9, B7, e9, f9, hA9, hb9, nb7, ge7⟩ := box_new (t := 127) hA
          try have hne : B6 < B7 := (by have h0 := nb6.lt; omega)
          rw [e9, f9]
          clear e9 f9 hA
          have hA := hA9
          clear hA9
          try replace nb6 := nb6.later hb9
          try replace fO := cell_later hb9 fO
          clear hb9
          refine hK.out _ _ (fun _ => hA) ?_
          clear hK K
          try simp only [Act.put, List.setIfInBounds_toArray, List.set_cons_zero, List.set_cons_succ]
          refine AnyT.one (i := 7) (o := _) rfl (by kernel_rfl) (fun K hK => ?_)
          go_simp
          refine (reach_Blow O w.heap.size (blowR rm gs ls) p0 p1 t0 t1 w0 w1' _ (HSL.out O _ fO (HX.out.later hA).hull) HFL.out).mono ?_
          rintro e w7 ⟨rfl, hb6⟩
          rw [HEL.out]
          try replace nb6 := nb6.later hb6
          try replace nb7 := nb7.later hb6
          try replace fO := cell_later hb6 fO
          replace hA := two hA hb6
          go_wp2_with fail
          refine hK.out _ _ (fun _ => hA) ?_
          clear hK K hb6
          try simp only [Act.put, List.setIfInBounds_toArray, List.set_cons_zero, List.set_cons_succ]
          refine AnyT.take (i := 8) (oi := _) (v := ?_) rfl (by kernel_rfl) (by kernel_rfl) (by kernel_rfl) (by kernel_rfl) (fun _ _ _ h => h) (Or.inl ⟨by kernel_rfl, ?_⟩) (by assumption) ?_
          rotate_left 1
          · intro wz hSw; skip; go_simp; try with_reducible rfl
          try simp only [Act.put, List.setIfInBounds_toArray, List.set_cons_zero, List.set_cons_succ]
          refine AnyT.take (i := 9) (oi := _) (v := ?_) rfl (by kernel_rfl) (by kernel_rfl) (by kernel_rfl) (by kernel_rfl) (fun _ _ _ h => h) (Or.inl ⟨by kernel_rfl, ?_⟩) (by assumption) ?_
          rotate_left 1
          · intro wz hSw; skip; go_simp; try with_reducible rfl
          try simp only [Act.put, List.setIfInBounds_toArray, List.set_cons_zero, List.set_cons_succ]
          refine AnyT.take (i := 10) (oi := _) (v := ?_) rfl (by kernel_rfl) (by kernel_rfl) (by kernel_rfl) (by kernel_rfl) (fun _ _ _ h => h) (Or.inl ⟨by kernel_rfl, ?_⟩) (by assumption) ?_
          rotate_left 1
          · intro wz hSw; skip; go_simp; try with_reducible rfl
          try simp only [Act.put, List.setIfInBounds_toArray, List.set_cons_zero, List.set_cons_succ]
          obtain ⟨x0, x1, xf0, xf1⟩ := nb6
          obtain ⟨y0, y1, yf0, yf1⟩ := nb7
          have hne1 : B6 ≠ B7 := by omega
          have hne2 : B7 ≠ B6 := by omega
          refine AnyT.one (i := 13) (o := _) rfl (by kernel_rfl) (fun K hK => ?_)
          go_simp
          refine hK.out _ _ (fun _ => by go_grown) ?_
          clear hK K
          try simp only [Act.put, List.setIfInBounds_toArray, List.set_cons_zero, List.set_cons_succ]
          refine AnyT.one (i := 14) (o := _) rfl (by kernel_rfl) (fun K hK => ?_)
          go_simp
          refine hK.out _ _ (fun h => absurd rfl h) ?_
          clear hK K
          refine AnyT.done (by kernel_rfl) ?_
          try simp only [Act.put, List.setIfInBounds_toArray, List.set_cons_zero, List.set_cons_succ]
          go_wp2_with fail
          go_meet
          case rel => exact ⟨B6, B7, rfl, rfl, hBW.trans (Below.mono (by go_grown : Below W.heap.size W _) hBW.size), HX.out.later (by go_grown), ⟨by go_cell, by go_cell⟩, ⟨by go_cell, by go_cell⟩⟩
      · skip
        refine AnyT.step (o := _) rfl (fun K hK => ?_)
        go_simp
        obtain ⟨w9, B7, e9, f9, hA9, hb9, nb7, ge7⟩ := box_new (t := 127) hA
        try have hne : B6 < B7 := (by have h0 := nb6.lt; omega)
        rw [e9, f9]
        clear e9 f9 hA
        have hA := hA9
        clear hA9
        try replace nb6 := nb6.later hb9
        try replace fO := cell_later hb9 fO
        clear hb9
        refine hK.out _ _ (fun _ => hA) ?_
        clear hK K
        try simp only [Act.put, List.setIfInBounds_toArray, List.set_cons_zero, List.set_cons_succ]
        refine AnyT.some [7, 11] (by kernel_rfl) (by simp) (fun i hi => ?_)
        simp only [List.mem_cons, List.not_mem_nil, or_false] at hi
        rcases hi with rfl | rfl
        · skip
          refine AnyT.step (o := _) rfl (fun K hK => ?_)
          go_simp
          refine (reach_Blow O w.heap.size (blowR rm gs ls) p0 p1 t0 t1 w0 w1' _ (HSL.out O _ fO (HX.out.later hA).hull) HFL.out).mono ?_
          rintro e w7 ⟨rfl, hb6⟩
          rw [HEL.out]
          try replace nb6 := nb6.later hb6
          try replace nb7 := nb7.later hb6
          try replace fO := cell_later hb6 fO
          replace hA := two hA hb6
          go_wp2_with fail
          refine hK.out _ _ (fun _ => hA) ?_
          clear hK K hb6
          try simp only [Act.put, List.setIfInBounds_toArray, List.set_cons_zero, List.set_cons_succ]
          refine AnyT.take (i := 8) (oi := _) (v := ?_) rfl (by kernel_rfl) (by kernel_rfl) (by kernel_rfl) (by kernel_rfl) (fun _ _ _ h => h) (Or.inl ⟨by kernel_rfl, ?_⟩) (by assumption) ?_
          rotate_left 1
          · intro wz hSw; skip; go_simp; try with_reducible rfl
          try simp only [Act.put, List.setIfInBounds_toArray, List.set_cons_zero, List.set_cons_succ]
          refine AnyT.take (i := 9) (oi := _) (v := ?_) rfl (by kernel_rfl) (by kernel_rfl) (by kernel_rfl) (by kernel_rfl) (fun _ _ _ h => h) (Or.inl ⟨by kernel_rfl, ?_⟩) (by assumption) ?_
          rotate_left 1
          · intro wz hSw; skip; go_simp; try with_reducible rfl
          try simp only [Act.put, List.setIfInBounds_toArray, List.set_cons_zero, List.set_cons_succ]
          refine AnyT.take (i := 10) (oi := _) (v := ?_) rfl (by kernel_rfl) (by kernel_rfl) (by kernel_rfl) (by kernel_rfl) (fun _ _ _ h => h) (Or.inl ⟨by kernel_rfl, ?_⟩) (by assumption) ?_
          rotate_left 1
          · intro wz hSw; skip; go_simp; try with_reducible rfl
          try simp only [Act.put, List.setIfInBounds_toArray, List.set_cons_zero, List.set_cons_succ]
          refine AnyT.one (i := 11) (o := _) rfl (by kernel_rfl) (fun K hK => ?_)
          go_simp
          obtain ⟨w9, B6, e9, f9, hA9, hb9, nb6, ge6⟩ := box_new (t := 127) hA
          try have hne : B7 < B6 := (by have h0 := nb7.lt; omega)
          rw [e9, f9]
          clear e9 f9 hA
          have hA := hA9
          clear hA9
          try replace nb7 := nb7.later hb9
          try replace fO := cell_later hb9 fO
          clear hb9
          refine hK.out _ _ (fun _ => hA) ?_
          clear hK K
          try simp only [Act.put, List.setIfInBounds_toArray, List.set_cons_zero, List.set_cons_succ]
          obtain ⟨x0, x1, xf0, xf1⟩ := nb6
          obtain ⟨y0, y1, yf0, yf1⟩ := nb7
          have hne1 : B6 ≠ B7 := by omega
          have hne2 : B7 ≠ B6 := by omega
          refine AnyT.one (i := 13) (o := _) rfl (by kernel_rfl) (fun K hK => ?_)
          go_simp
          refine hK.out _ _ (fun _ => by go_grown) ?_
          clear hK K
          try simp only [Act.put, List.setIfInBounds_toArray, List.set_cons_zero, List.set_cons_succ]
          refine AnyT.one (i := 14) (o := _) rfl (by kernel_rfl) (fun K hK => ?_)
          go_simp
          refine hK.out _ _ (fun h => absurd rfl h) ?_
          clear hK K
          refine AnyT.done (by kernel_rfl) ?_
          try simp only [Act.put, List.setIfInBounds_toArray, List.set_cons_zero, List.set_cons_succ]
          go_wp2_with fail
          go_meet
          case rel => exact ⟨B6, B7, rfl, rfl, hBW.trans (Below.mono (by go_grown : Below W.heap.size W _) hBW.size), HX.out.later (by go_grown), ⟨by go_cell, by go_cell⟩, ⟨by go_cell, by go_cell⟩⟩
        · skip
          refine AnyT.step (o := _) rfl (fun K hK => ?_)
          go_simp
          obtain ⟨w9, B6, e9, f9, hA9, hb9, nb6, ge6⟩ := box_new (t := 127) hA
          try have hne : B7 < B6 := (by have h0 := nb7.lt; omega)
          rw [e9, f9]
          clear e9 f9 hA
          have hA := hA9
          clear hA9
          try replace nb7 := nb7.later hb9
          try replace fO := cell_later hb9 fO
          clear hb9
          refine hK.out _ _ (fun _ => hA) ?_
          clear hK K
          try simp only [Act.put, List.setIfInBounds_toArray, List.set_cons_zero, List.set_cons_succ]
          refine AnyT.one (i := 7) (o := _) rfl (by kernel_rfl) (fun K hK => ?_)
          go_simp
          refine (reach_Blow O w.heap.size (blowR rm gs ls) p0 p1 t0 t1 w0 w1' _ (HSL.out O _ fO (HX.out.later hA).hull) HFL.out).mono ?_
          rintro e w7 ⟨rfl, hb6⟩
          rw [HEL.out]
          try replace nb6 := nb6.later hb6
          try replace nb7 := nb7.later hb6
          try replace fO := cell_later hb6 fO
          replace hA := two hA hb6
          go_wp2_with fail
          refine hK.out _ _ (fun _ => hA) ?_
          clear hK K hb6
          try simp only [Act.put, List.setIfInBounds_toArray, List.set_cons_zero, List.set_cons_succ]
          refine AnyT.take (i := 8) (oi := _) (v := ?_) rfl (by kernel_rfl) (by kernel_rfl) (by kernel_rfl) (by kernel_rfl) (fun _ _ _ h => h) (Or.inl ⟨by kernel_rfl, ?_⟩) (by assumption) ?_
          rotate_left 1
          · intro wz hSw; skip; go_simp; try with_reducible rfl
          try simp only [Act.put, List.setIfInBounds_toArray, List.set_cons_zero, List.set_cons_succ]
          refine AnyT.take (i := 9) (oi := _) (v := ?_) rfl (by kernel_rfl) (by kernel_rfl) (by kernel_rfl) (by kernel_rfl) (fun _ _ _ h => h) (Or.inl ⟨by kernel_rfl, ?_⟩) (by assumption) ?_
          rotate_left 1
          · intro wz hSw; skip; go_simp; try with_reducible rfl
          try simp only [Act.put, List.setIfInBounds_toArray, List.set_cons_zero, List.set_cons_succ]
          refine AnyT.take (i := 10) (oi := _) (v := ?_) rfl (by kernel_rfl) (by kernel_rfl) (by kernel_rfl) (by kernel_rfl) (fun _ _ _ h => h) (Or.inl ⟨by kernel_rfl, ?_⟩) (by assumption) ?_
          rotate_left 1
          · intro wz hSw; skip; go_simp; try with_reducible rfl
          try simp only [Act.put, List.setIfInBounds_toArray, List.set_cons_zero, List.set_cons_succ]
          obtain ⟨x0, x1, xf0, xf1⟩ := nb6
          obtain ⟨y0, y1, yf0, yf1⟩ := nb7
          have hne1 : B6 ≠ B7 := by omega
          have hne2 : B7 ≠ B6 := by omega
          refine AnyT.one (i := 13) (o := _) rfl (by kernel_rfl) (fun K hK => ?_)
          go_simp
          refine hK.out _ _ (fun _ => by go_grown) ?_
          clear hK K
          try simp only [Act.put, List.setIfInBounds_toArray, List.set_cons_zero, List.set_cons_succ]
          refine AnyT.one (i := 14) (o := _) rfl (by kernel_rfl) (fun K hK => ?_)
          go_simp
          refine hK.out _ _ (fun h => absurd rfl h) ?_
          clear hK K
          refine AnyT.done (by kernel_rfl) ?_
          try simp only [Act.put, List.setIfInBounds_toArray, List.set_cons_zero, List.set_cons_succ]
          go_wp2_with fail
          go_meet
          case rel => exact ⟨B6, B7, rfl, rfl, hBW.trans (Below.mono (by go_grown : Below W.heap.size W _) hBW.size), HX.out.later (by go_grown), ⟨by go_cell, by go_cell⟩, ⟨by go_cell, by go_cell⟩⟩
    · skip
      refine AnyT.step (o := _) rfl (fun K hK => ?_)
      go_simp
      obtain ⟨w9, B6, e9, f9, hA9, hb9, nb6, ge6⟩ := box_new (t := 127) hA
      try have hne : B7 < B6 := (by have h0 := nb7.lt; omega)
      rw [e9, f9]
      clear e9 f9 hA
      have hA := hA9
      clear hA9
      try replace nb7 := nb7.later hb9
      try replace fO := cell_later hb9 fO
      clear hb9
      refine hK.out _ _ (fun _ => hA) ?_
      clear hK K
      try simp only [Act.put, List.setIfInBounds_toArray, List.set_cons_zero, List.set_cons_succ]
      refine AnyT.some [3, 12] (by kernel_rfl) (by simp) (fun i hi => ?_)
      simp only [List.mem_cons, List.not_mem_nil, or_false] at hi
      rcases hi with rfl | rfl
      · skip
        refine AnyT.step (o := _) rfl (fun K hK => ?_)
        go_simp
        refine (blow1f_any w.heap.size ls _).mono ?_
        rintro e w6 ⟨O, rfl, gO, hb6⟩
        have fO := gO
        clear gO
        try replace nb6 := nb6.later hb6
        try replace nb7 := nb7.later hb6
        try replace fO := cell_later hb6 fO
        replace hA := two hA hb6
        go_wp2_with fail
        refine hK.out _ _ (fun _ => hA) ?_
        clear hK K hb6
        try simp only [Act.put, List.setIfInBounds_toArray, List.set_cons_zero, List.set_cons_succ]
        refine AnyT.some [7, 12] (by kernel_rfl) (by simp) (fun i hi => ?_)
        simp only [List.mem_cons, List.not_mem_nil, or_false] at hi
        rcases hi with rfl | rfl
        · skip
          refine AnyT.step (o := _) rfl (fun K hK => ?_)
          go_simp
          refine (reach_Blow O w.heap.size (blowR rm gs ls) p0 p1 t0 t1 w0 w1' _ (HSL.out O _ fO (HX.out.later hA).hull) HFL.out).mono ?_
          rintro e w7 ⟨rfl, hb6⟩
          rw [HEL.out]
          try replace nb6 := nb6.later hb6
          try replace nb7 := nb7.later hb6
          try replace fO := cell_later hb6 fO
          replace hA := two hA hb6
          go_wp2_with fail
          refine hK.out _ _ (fun _ => hA) ?_
          clear hK K hb6
          try simp only [Act.put, List.setIfInBounds_toArray, List.set_cons_zero, List.set_cons_succ]
          refine AnyT.take (i := 8) (oi := _) (v := ?_) rfl (by kernel_rfl) (by kernel_rfl) (by kernel_rfl) (by kernel_rfl) (fun _ _ _ h => h) (Or.inl ⟨by kernel_rfl, ?_⟩) (by assumption) ?_
          rotate_left 1
          · intro wz hSw; skip; go_simp; try with_reducible rfl
          try simp only [Act.put, List.setIfInBounds_toArray, List.set_cons_zero, List.set_cons_succ]
          refine AnyT.take (i := 9) (oi := _) (v := ?_) rfl (by kernel_rfl) (by kernel_rfl) (by kernel_rfl) (by kernel_rfl) (fun _ _ _ h => h) (Or.inl ⟨by kernel_rfl, ?_⟩) (by assumption) ?_
          rotate_left 1
          · intro wz hSw; skip; go_simp; try with_reducible rfl
          try simp only [Act.put, List.setIfInBounds_toArray, List.set_cons_zero, List.set_cons_succ]
          refine AnyT.take (i := 10) (oi := _) (v := ?_) rfl (by kernel_rfl) (by kernel_rfl) (by kernel_rfl) (by kernel_rfl) (fun _ _ _ h => h) (Or.inl ⟨by kernel_rfl, ?_⟩) (by assumption) ?_
          rotate_left 1
          · intro wz hSw; skip; go_simp; try with_reducible rfl
          try simp only [Act.put, List.setIfInBounds_toArray, List.set_cons_zero, List.set_cons_succ]
          refine AnyT.one (i := 12) (o := _) rfl (by kernel_rfl) (fun K hK => ?_)
          go_simp
          obtain ⟨w9, B7, e9, f9, hA9, hb9, nb7, ge7⟩ := box_new (t := 127) hA
          try have hne : B6 < B7 := (by have h0 := nb6.lt; omega)
          rw [e9, f9]
          clear e9 f9 hA
          have hA := hA9
          clear hA9
          try replace nb6 := nb6.later hb9
          try replace fO := cell_later hb9 fO
          clear hb9
          refine hK.out _ _ (fun _ => hA) ?_
          clear hK K
          try simp only [Act.put, List.setIfInBounds_toArray, List.set_cons_zero, List.set_cons_succ]
          obtain ⟨x0, x1, xf0, xf1⟩ := nb6
          obtain ⟨y0, y1, yf0, yf1⟩ := nb7
          have hne1 : B6 ≠ B7 := by omega
          have hne2 : B7 ≠ B6 := by omega
          refine AnyT.one (i := 13) (o := _) rfl (by kernel_rfl) (fun K hK => ?_)
          go_simp
          refine hK.out _ _ (fun _ => by go_grown) ?_
          clear hK K
          try simp only [Act.put, List.setIfInBounds_toArray, List.set_cons_zero, List.set_cons_succ]
          refine AnyT.one (i := 14) (o := _) rfl (by kernel_rfl) (fun K hK => ?_)
          go_simp
          refine hK.out _ _ (fun h => absurd rfl h) ?_
          clear hK K
          refine AnyT.done (by kernel_rfl) ?_
          try simp only [Act.put, List.setIfInBounds_toArray, List.set_cons_zero, List.set_cons_succ]
          go_wp2_with fail
          go_meet
          case rel => exact ⟨B6, B7, rfl, rfl, hBW.trans (Below.mono (by go_grown : Below W.heap.size W _) hBW.size), HX.out.later (by go_grown), ⟨by go_cell, by go_cell⟩, ⟨by go_cell, by go_cell⟩⟩
        · skip
          refine AnyT.step (o := _) rfl (fun K hK => ?_)
          go_simp
          obtain ⟨w9, B7, e9, f9, hA9, hb9, nb7, ge7⟩ := box_new (t := 127) hA
          try have hne : B6 < B7 := (by have h0 := nb6.lt; omega)
          rw [e9, f9]
          clear e9 f9 hA
          have hA := hA9
          clear hA9
          try replace nb6 := nb6.later hb9
          try replace fO := cell_later hb9 fO
          clear hb9
          refine hK.out _ _ (fun _ => hA) ?_
          clear hK K
          try simp only [Act.put, List.setIfInBounds_toArray, List.set_cons_zero, List.set_cons_succ]
          refine AnyT.one (i := 7) (o := _) rfl (by kernel_rfl) (fun K hK => ?_)
          go_simp
          refine (reach_Blow O w.heap.size (blowR rm gs ls) p0 p1 t0 t1 w0 w1' _ (HSL.out O _ fO (HX.out.later hA).hull) HFL.out).mono ?_
          rintro e w7 ⟨rfl, hb6⟩
          rw [HEL.out]
          try replace nb6 := nb6.later hb6
          try replace nb7 := nb7.later hb6
          try replace fO := cell_later hb6 fO
          replace hA := two hA hb6
          go_wp2_with fail
          refine hK.out _ _ (fun _ => hA) ?_
          clear hK K hb6
          try simp only [Act.put, List.setIfInBounds_toArray, List.set_cons_zero, List.set_cons_succ]
          refine AnyT.take (i := 8) (oi := _) (v := ?_) rfl (by kernel_rfl) (by kernel_rfl) (by kernel_rfl) (by kernel_rfl) (fun _ _ _ h => h) (Or.inl ⟨by kernel_rfl, ?_⟩) (by assumption) ?_
          rotate_left 1
          · intro wz hSw; skip; go_simp; try with_reducible rfl
          try simp only [Act.put, List.setIfInBounds_toArray, List.set_cons_zero, List.set_cons_succ]
          refine AnyT.take (i := 9) (oi := _) (v := ?_) rfl (by kernel_rfl) (by kernel_rfl) (by kernel_rfl) (by kernel_rfl) (fun _ _ _ h => h) (Or.inl ⟨by kernel_rfl, ?_⟩) (by assumption) ?_
          rotate_left 1
          · intro wz hSw; skip; go_simp; try with_reducible rfl
          try simp only [Act.put, List.setIfInBounds_toArray, List.set_cons_zero, List.set_cons_succ]
          refine AnyT.take (i := 10) (oi := _) (v := ?_) rfl (by kernel_rfl) (by kernel_rfl) (by kernel_rfl) (by kernel_rfl) (fun _ _ _ h => h) (Or.inl ⟨by kernel_rfl, ?_⟩) (by assumption) ?_
          rotate_left 1
          · intro wz hSw; skip; go_simp; try with_reducible rfl
          try simp only [Act.put, List.setIfInBounds_toArray, List.set_cons_zero, List.set_cons_succ]
          obtain ⟨x0, x1, xf0, xf1⟩ := nb6
          obtain ⟨y0, y1, yf0, yf1⟩ := nb7
          have hne1 : B6 ≠ B7 := by omega
          have hne2 : B7 ≠ B6 := by omega
          refine AnyT.one (i := 13) (o := _) rfl (by kernel_rfl) (fun K hK => ?_)
          go_simp
          refine hK.out _ _ (fun _ => by go_grown) ?_
          clear hK K
          try simp only [Act.put, List.setIfInBounds_toArray, List.set_cons_zero, List.set_cons_succ]
          refine AnyT.one (i := 14) (o := _) rfl (by kernel_rfl) (fun K hK => ?_)
          go_simp
          refine hK.out _ _ (fun h => absurd rfl h) ?_
          clear hK K
          refine AnyT.done (by kernel_rfl) ?_
          try simp only [Act.put, List.setIfInBounds_toArray, List.set_cons_zero, List.set_cons_succ]
          go_wp2_with fail
          go_meet
          case rel => exact ⟨B6, B7, rfl, rfl, hBW.trans (Below.mono (by go_grown : Below W.heap.size W _) hBW.size), HX.out.later (by go_grown), ⟨by go_cell, by go_cell⟩, ⟨by go_cell, by go_cell⟩⟩
      · skip
        refine AnyT.step (o := _) rfl (fun K hK => ?_)
        go_simp
        obtain ⟨w9, B7, e9, f9, hA9, hb9, nb7, ge7⟩ := box_new (t := 127) hA
        try have hne : B6 < B7 := (by have h0 := nb6.lt; omega)
        rw [e9, f9]
        clear e9 f9 hA
        have hA := hA9
        clear hA9
        try replace nb6 := nb6.later hb9
        try replace fO := cell_later hb9 fO
        clear hb9
        refine hK.out _ _ (fun _ => hA) ?_
        clear hK K
        try simp only [Act.put, List.setIfInBounds_toArray, List.set_cons_zero, List.set_cons_succ]
        refine AnyT.one (i := 3) (o := _) rfl (by kernel_rfl) (fun K hK => ?_)
        go_simp
        refine (blow1f_any w.heap.size ls _).mono ?_
        rintro e w6 ⟨O, rfl, gO, hb6⟩
        have fO := gO
        clear gO
        try replace nb6 := nb6.later hb6
        try replace nb7 := nb7.later hb6
        try replace fO := cell_later hb6 fO
        replace hA := two hA hb6
        go_wp2_with fail
        refine hK.out _ _ (fun _ => hA) ?_
        clear hK K hb6
        try simp only [Act.put, List.setIfInBounds_toArray, List.set_cons_zero, List.set_cons_succ]
        refine AnyT.one (i := 7) (o := _) rfl (by kernel_rfl) (fun K hK => ?_)
        go_simp
        refine (reach_Blow O w.heap.size (blowR rm gs ls) p0 p1 t0 t1 w0 w1' _ (HSL.out O _ fO (HX.out.later hA).hull) HFL.out).mono ?_
        rintro e w7 ⟨rfl, hb6⟩
        rw [HEL.out]
        try replace nb6 := nb6.later hb6
        try replace nb7 := nb7.later hb6
        try replace fO := cell_later hb6 fO
        replace hA := two hA hb6
        go_wp2_with fail
        refine hK.out _ _ (fun _ => hA) ?_
        clear hK K hb6
        try simp only [Act.put, List.setIfInBounds_toArray, List.set_cons_zero, List.set_cons_succ]
        refine AnyT.take (i := 8) (oi := _) (v := ?_) rfl (by kernel_rfl) (by kernel_rfl) (by kernel_rfl) (by kernel_rfl) (fun _ _ _ h => h) (Or.inl ⟨by kernel_rfl, ?_⟩) (by assumption) ?_
        rotate_left 1
        · intro wz hSw; skip; go_simp; try with_reducible rfl
        try simp only [Act.put, List.setIfInBounds_toArray, List.set_cons_zero, List.set_cons_succ]
        refine AnyT.take (i := 9) (oi := _) (v := ?_) rfl (by kernel_rfl) (by kernel_rfl) (by kernel_rfl) (by kernel_rfl) (fun _ _ _ h => h) (Or.inl ⟨by kernel_rfl, ?_⟩) (by assumption) ?_
        rotate_left 1
        · intro wz hSw; skip; go_simp; try with_reducible rfl
        try simp only [Act.put, List.setIfInBounds_toArray, List.set_cons_zero, List.set_cons_succ]
        refine AnyT.take (i := 10) (oi := _) (v := ?_) rfl (by kernel_rfl) (by kernel_rfl) (by kernel_rfl) (by kernel_rfl) (fun _ _ _ h => h) (Or.inl ⟨by kernel_rfl, ?_⟩) (by assumption) ?_
        rotate_left 1
        · intro wz hSw; skip; go_simp; try with_reducible rfl
        try simp only [Act.put, List.setIfInBounds_toArray, List.set_cons_zero, List.set_cons_succ]
        obtain ⟨x0, x1, xf0, xf1⟩ := nb6
        obtain ⟨y0, y1, yf0, yf1⟩ := nb7
        have hne1 : B6 ≠ B7 := by omega
        have hne2 : B7 ≠ B6 := by omega
        refine AnyT.one (i := 13) (o := _) rfl (by kernel_rfl) (fun K hK => ?_)
        go_simp
        refine hK.out _ _ (fun _ => by go_grown) ?_
        clear hK K
        try simp only [Act.put, List.setIfInBounds_toArray, List.set_cons_zero, List.set_cons_succ]
        refine AnyT.one (i := 14) (o := _) rfl (by kernel_rfl) (fun K hK => ?_)
        go_simp
        refine hK.out _ _ (fun h => absurd rfl h) ?_
        clear hK K
        refine AnyT.done (by kernel_rfl) ?_
        try simp only [Act.put, List.setIfInBounds_toArray, List.set_cons_zero, List.set_cons_succ]
        go_wp2_with fail
        go_meet
        case rel => exact ⟨B6, B7, rfl, rfl, hBW.trans (Below.mono (by go_grown : Below W.heap.size W _) hBW.size), HX.out.later (by go_grown), ⟨by go_cell, by go_cell⟩, ⟨by go_cell, by go_cell⟩⟩
    · skip
      refine AnyT.step (o := _) rfl (fun K hK => ?_)
      go_simp
      obtain ⟨w9, B7, e9, f9, hA9, hb9, nb7, ge7⟩ := box_new (t := 127) hA
      try have hne : B6 < B7 := (by have h0 := nb6.lt; omega)
      rw [e9, f9]
      clear e9 f9 hA
      have hA := hA9
      clear hA9
      try replace nb6 := nb6.later hb9
      try replace fO := cell_later hb9 fO
      clear hb9
      refine hK.out _ _ (fun _ => hA) ?_
      clear hK K
      try simp only [Act.put, List.setIfInBounds_toArray, List.set_cons_zero, List.set_cons_succ]
      refine AnyT.some [3, 11] (by kernel_rfl) (by simp) (fun i hi => ?_)
      simp only [List.mem_cons, List.not_mem_nil, or_false] at hi
      rcases hi with rfl | rfl
      · skip
        refine AnyT.step (o := _) rfl (fun K hK => ?_)
        go_simp
        refine (blow1f_any w.heap.size ls _).mono ?_
        rintro e w6 ⟨O, rfl, gO, hb6⟩
        have fO := gO
        clear gO
        try replace nb6 := nb6.later hb6
        try replace nb7 := nb7.later hb6
        try replace fO := cell_later hb6 fO
        replace hA := two hA hb6
        go_wp2_with fail
        refine hK.out _ _ (fun _ => hA) ?_
        clear hK K hb6
        try simp only [Act.put, List.setIfInBounds_toArray, List.set_cons_zero, List.set_cons_succ]
        refine AnyT.some [7, 11] (by kernel_rfl) (by simp) (fun i hi => ?_)
        simp only [List.mem_cons, List.not_mem_nil, or_false] at hi
        rcases hi with rfl | rfl
        · skip
          refine AnyT.step (o := _) rfl (fun K hK => ?_)
          go_simp
          refine (reach_Blow O w.heap.size (blowR rm gs ls) p0 p1 t0 t1 w0 w1' _ (HSL.out O _ fO (HX.out.later hA).hull) HFL.out).mono ?_
          rintro e w7 ⟨rfl, hb6⟩
          rw [HEL.out]
          try replace nb6 := nb6.later hb6
          try replace nb7 := nb7.later hb6
          try replace fO := cell_later hb6 fO
          replace hA := two hA hb6
          go_wp2_with fail
          refine hK.out _ _ (fun _ => hA) ?_
          clear hK K hb6
          try simp only [Act.put, List.setIfInBounds_toArray, List.set_cons_zero, List.set_cons_succ]
          refine AnyT.take (i := 8) (oi := _) (v := ?_) rfl (by kernel_rfl) (by kernel_rfl) (by kernel_rfl) (by kernel_rfl) (fun _ _ _ h => h) (Or.inl ⟨by kernel_rfl, ?_⟩) (by assumption) ?_
          rotate_left 1
          · intro wz hSw; skip; go_simp; try with_reducible rfl
          try simp only [Act.put, List.setIfInBounds_toArray, List.set_cons_zero, List.set_cons_succ]
          refine AnyT.take (i := 9) (oi := _) (v := ?_) rfl (by kernel_rfl) (by kernel_rfl) (by kernel_rfl) (by kernel_rfl) (fun _ _ _ h => h) (Or.inl ⟨by kernel_rfl, ?_⟩) (by assumption) ?_
          rotate_left 1
          · intro wz hSw; skip; go_simp; try with_reducible rfl
          try simp only [Act.put, List.setIfInBounds_toArray, List.set_cons_zero, List.set_cons_succ]
          refine AnyT.take (i := 10) (oi := _) (v := ?_) rfl (by kernel_rfl) (by kernel_rfl) (by kernel_rfl) (by kernel_rfl) (fun _ _ _ h => h) (Or.inl ⟨by kernel_rfl, ?_⟩) (by assumption) ?_
          rotate_left 1
          · intro wz hSw; skip; go_simp; try with_reducible rfl
          try simp only [Act.put, List.setIfInBounds_toArray, List.set_cons_zero, List.set_cons_succ]
          refine AnyT.one (i := 11) (o := _) rfl (by kernel_rfl) (fun K hK => ?_)
          go_simp
          obtain ⟨w9, B6, e9, f9, hA9, hb9, nb6, ge6⟩ := box_new (t := 127) hA
          try have hne : B7 < B6 := (by have h0 := nb7.lt; omega)
          rw [e9, f9]
          clear e9 f9 hA
          have hA := hA9
          clear hA9
          try replace nb7 := nb7.later hb9
          try replace fO := cell_later hb9 fO
          clear hb9
          refine hK.out _ _ (fun _ => hA) ?_
          clear hK K
          try simp only [Act.put, List.setIfInBounds_toArray, List.set_cons_zero, List.set_cons_succ]
          obtain ⟨x0, x1, xf0, xf1⟩ := nb6
          obtain ⟨y0, y1, yf0, yf1⟩ := nb7
          have hne1 : B6 ≠ B7 := by omega
          have hne2 : B7 ≠ B6 := by omega
          refine AnyT.one (i := 13) (o := _) rfl (by kernel_rfl) (fun K hK => ?_)
          go_simp
          refine hK.out _ _ (fun _ => by go_grown) ?_
          clear hK K
          try simp only [Act.put, List.setIfInBounds_toArray, List.set_cons_zero, List.set_cons_succ]
          refine AnyT.one (i := 14) (o := _) rfl (by kernel_rfl) (fun K hK => ?_)
          go_simp
          refine hK.out _ _ (fun h => absurd rfl h) ?_
          clear hK K
          refine AnyT.done (by kernel_rfl) ?_
          try simp only [Act.put, List.setIfInBounds_toArray, List.set_cons_zero, List.set_cons_succ]
          go_wp2_with fail
          go_meet
          case rel => exact ⟨B6, B7, rfl, rfl, hBW.trans (Below.mono (by go_grown : Below W.heap.size W _) hBW.size), HX.out.later (by go_grown), ⟨by go_cell, by go_cell⟩, ⟨by go_cell, by go_cell⟩⟩
        · skip
          refine AnyT.step (o := _) rfl (fun K hK => ?_)
          go_simp
          obtain ⟨w9, B6, e9, f9, hA9, hb9, nb6, ge6⟩ := box_new (t := 127) hA
          try have hne : B7 < B6 := (by have h0 := nb7.lt; omega)
          rw [e9, f9]
          clear e9 f9 hA
          have hA := hA9
          clear hA9
          try replace nb7 := nb7.later hb9
          try replace fO := cell_later hb9 fO
          clear hb9
          refine hK.out _ _ (fun _ => hA) ?_
          clear hK K
          try simp only [Act.put, List.setIfInBounds_toArray, List.set_cons_zero, List.set_cons_succ]
          refine AnyT.one (i := 7) (o := _) rfl (by kernel_rfl) (fun K hK => ?_)
          go_simp
          refine (reach_Blow O w.heap.size (blowR rm gs ls) p0 p1 t0 t1 w0 w1' _ (HSL.out O _ fO (HX.out.later hA).hull) HFL.out).mono ?_
          rintro e w7 ⟨rfl, hb6⟩
          rw [HEL.out]
          try replace nb6 := nb6.later hb6
          try replace nb7 := nb7.later hb6
          try replace fO := cell_later hb6 fO
          replace hA := two hA hb6
          go_wp2_with fail
          refine hK.out _ _ (fun _ => hA) ?_
          clear hK K hb6
          try simp only [Act.put, List.setIfInBounds_toArray, List.set_cons_zero, List.set_cons_succ]
          refine AnyT.take (i := 8) (oi := _) (v := ?_) rfl (by kernel_rfl) (by kernel_rfl) (by kernel_rfl) (by kernel_rfl) (fun _ _ _ h => h) (Or.inl ⟨by kernel_rfl, ?_⟩) (by assumption) ?_
          rotate_left 1
          · intro wz hSw; skip; go_simp; try with_reducible rfl
          try simp only [Act.put, List.setIfInBounds_toArray, List.set_cons_zero, List.set_cons_succ]
          refine AnyT.take (i := 9) (oi := _) (v := ?_) rfl (by kernel_rfl) (by kernel_rfl) (by kernel_rfl) (by kernel_rfl) (fun _ _ _ h => h) (Or.inl ⟨by kernel_rfl, ?_⟩) (by assumption) ?_
          rotate_left 1
          · intro wz hSw; skip; go_simp; try with_reducible rfl
          try simp only [Act.put, List.setIfInBounds_toArray, List.set_cons_zero, List.set_cons_succ]
          refine AnyT.take (i := 10) (oi := _) (v := ?_) rfl (by kernel_rfl) (by kernel_rfl) (by kernel_rfl) (by kernel_rfl) (fun _ _ _ h => h) (Or.inl ⟨by kernel_rfl, ?_⟩) (by assumption) ?_
          rotate_left 1
          · intro wz hSw; skip; go_simp; try with_reducible rfl
          try simp only [Act.put, List.setIfInBounds_toArray, List.set_cons_zero, List.set_cons_succ]
          obtain ⟨x0, x1, xf0, xf1⟩ := nb6
          obtain ⟨y0, y1, yf0, yf1⟩ := nb7
          have hne1 : B6 ≠ B7 := by omega
          have hne2 : B7 ≠ B6 := by omega
          refine AnyT.one (i := 13) (o := _) rfl (by kernel_rfl) (fun K hK => ?_)
          go_simp
          refine hK.out _ _ (fun _ => by go_grown) ?_
          clear hK K
          try simp only [Act.put, List.setIfInBounds_toArray, List.set_cons_zero, List.set_cons_succ]
          refine AnyT.one (i := 14) (o := _) rfl (by kernel_rfl) (fun K hK => ?_)
          go_simp
          refine hK.out _ _ (fun h => absurd rfl h) ?_
          clear hK K
          refine AnyT.done (by kernel_rfl) ?_
          try simp only [Act.put, List.setIfInBounds_toArray, List.set_cons_zero, List.set_cons_succ]
          go_wp2_with fail
          go_meet
          case rel => exact ⟨B6, B7, rfl, rfl, hBW.trans (Below.mono (by go_grown : Below W.heap.size W _) hBW.size), HX.out.later (by go_grown), ⟨by go_cell, by go_cell⟩, ⟨by go_cell, by go_cell⟩⟩
      · skip
        refine AnyT.step (o := _) rfl (fun K hK => ?_)
        go_simp
        obtain ⟨w9, B6, e9, f9, hA9, hb9, nb6, ge6⟩ := box_new (t := 127) hA
        try have hne : B7 < B6 := (by have h0 := nb7.lt; omega)
        rw [e9, f9]
        clear e9 f9 hA
        have hA := hA9
        clear hA9
        try replace nb7 := nb7.later hb9
        try replace fO := cell_later hb9 fO
        clear hb9
        refine hK.out _ _ (fun _ => hA) ?_
        clear hK K
        try simp only [Act.put, List.setIfInBounds_toArray, List.set_cons_zero, List.set_cons_succ]
        refine AnyT.one (i := 3) (o := _) rfl (by kernel_rfl) (fun K hK => ?_)
        go_simp
        refine (blow1f_any w.heap.size ls _).mono ?_
        rintro e w6 ⟨O, rfl, gO, hb6⟩
        have fO := gO
        clear gO
        try replace nb6 := nb6.later hb6
        try replace nb7 := nb7.later hb6
        try replace fO := cell_later hb6 fO
        replace hA := two hA hb6
        go_wp2_with fail
        refine hK.out _ _ (fun _ => hA) ?_
        clear hK K hb6
        try simp only [Act.put, List.setIfInBounds_toArray, List.set_cons_zero, List.set_cons_succ]
        refine AnyT.one (i := 7) (o := _) rfl (by kernel_rfl) (fun K hK => ?_)
        go_simp
        refine (reach_Blow O w.heap.size (blowR rm gs ls) p0 p1 t0 t1 w0 w1' _ (HSL.out O _ fO (HX.out.later hA).hull) HFL.out).mono ?_
        rintro e w7 ⟨rfl, hb6⟩
        rw [HEL.out]
        try replace nb6 := nb6.later hb6
        try replace nb7 := nb7.later hb6
        try replace fO := cell_later hb6 fO
        replace hA := two hA hb6
        go_wp2_with fail
        refine hK.out _ _ (fun _ => hA) ?_
        clear hK K hb6
        try simp only [Act.put, List.setIfInBounds_toArray, List.set_cons_zero, List.set_cons_succ]
        refine AnyT.take (i := 8) (oi := _) (v := ?_) rfl (by kernel_rfl) (by kernel_rfl) (by kernel_rfl) (by kernel_rfl) (fun _ _ _ h => h) (Or.inl ⟨by kernel_rfl, ?_⟩) (by assumption) ?_
        rotate_left 1
        · intro wz hSw; skip; go_simp; try with_reducible rfl
        try simp only [Act.put, List.setIfInBounds_toArray, List.set_cons_zero, List.set_cons_succ]
        refine AnyT.take (i := 9) (oi := _) (v := ?_) rfl (by kernel_rfl) (by kernel_rfl) (by kernel_rfl) (by kernel_rfl) (fun _ _ _ h => h) (Or.inl ⟨by kernel_rfl, ?_⟩) (by assumption) ?_
        rotate_left 1
        · intro wz hSw; skip; go_simp; try with_reducible rfl
        try simp only [Act.put, List.setIfInBounds_toArray, List.set_cons_zero, List.set_cons_succ]
        refine AnyT.take (i := 10) (oi := _) (v := ?_) rfl (by kernel_rfl) (by kernel_rfl) (by kernel_rfl) (by kernel_rfl) (fun _ _ _ h => h) (Or.inl ⟨by kernel_rfl, ?_⟩) (by assumption) ?_
        rotate_left 1
        · intro wz hSw; skip; go_simp; try with_reducible rfl
        try simp only [Act.put, List.setIfInBounds_toArray, List.set_cons_zero, List.set_cons_succ]
        obtain ⟨x0, x1, xf0, xf1⟩ := nb6
        obtain ⟨y0, y1, yf0, yf1⟩ := nb7
        have hne1 : B6 ≠ B7 := by omega
        have hne2 : B7 ≠ B6 := by omega
        refine AnyT.one (i := 13) (o := _) rfl (by kernel_rfl) (fun K hK => ?_)
        go_simp
        refine hK.out _ _ (fun _ => by go_grown) ?_
        clear hK K
        try simp only [Act.put, List.setIfInBounds_toArray, List.set_cons_zero, List.set_cons_succ]
        refine AnyT.one (i := 14) (o := _) rfl (by kernel_rfl) (fun K hK => ?_)
        go_simp
        refine hK.out _ _ (fun h => absurd rfl h) ?_
        clear hK K
        refine AnyT.done (by kernel_rfl) ?_
        try simp only [Act.put, List.setIfInBounds_toArray, List.set_cons_zero, List.set_cons_succ]
        go_wp2_with fail
        go_meet
        case rel => exact ⟨B6, B7, rfl, rfl, hBW.trans (Below.mono (by go_grown : Below W.heap.size W _) hBW.size), HX.out.later (by go_grown), ⟨by go_cell, by go_cell⟩, ⟨by go_cell, by go_cell⟩⟩
  case rest =>
    obtain ⟨B4, B5, rfl, rfl, hBW, hX, _, ht⟩ := hcut
    generalize wc = W at *
    have HX := Lib.hid hX
    have HT := Lib.hid ht
    clear hX ht hmf
    go_wp2_with fail
    go_cut [8, 9] from 23 to 33 (fun v8 v9 wr => BlD w wr v8 v9 (.pointer (some ⟨B5, 0, none⟩)) rm gs w0 w1' bl bg ls ms p0 p1 t0 t1 z1 z2 z3 z4 k3 k4)
    case first =>
      have hA : Below W.heap.size W W.drew := below_drewN (Below.refl _ _) 1
      refine AnyT.begin (fun w' => Below W.heap.size W w') 14 (by kernel_rfl) hA (fun hHeld => ?_)
      generalize World.drew W = wd at hA hHeld ⊢
      refine AnyT.take (i := 0) (oi := _) (v := ?_) rfl (by kernel_rfl) (by kernel_rfl) (by kernel_rfl) (by kernel_rfl) (fun _ _ _ h => h) (Or.inl ⟨by kernel_rfl, ?_⟩) (by assumption) ?_
      rotate_left 1
      · intro wz hSw; skip; go_simp; try with_reducible rfl
      try simp only [Act.put, List.setIfInBounds_toArray, List.set_cons_zero, List.set_cons_succ]
      refine AnyT.take (i := 1) (oi := _) (v := ?_) rfl (by kernel_rfl) (by kernel_rfl) (by kernel_rfl) (by kernel_rfl) (fun _ _ _ h => h) (Or.inl ⟨by kernel_rfl, ?_⟩) (by assumption) ?_
      rotate_left 1
      · intro wz hSw; skip; go_simp; try with_reducible rfl
      try simp only [Act.put, List.setIfInBounds_toArray, List.set_cons_zero, List.set_cons_succ]
      refine AnyT.take (i := 2) (oi := _) (v := ?_) rfl (by kernel_rfl) (by kernel_rfl) (by kernel_rfl) (by kernel_rfl) (fun _ _ _ h => h) (Or.inl ⟨by kernel_rfl, ?_⟩) (by assumption) ?_
      rotate_left 1
      · intro wz hSw; have h1 := (HX.out.later hSw).hull.c7; go_simp; try with_reducible rfl
      try simp only [Act.put, List.setIfInBounds_toArray, List.set_cons_zero, List.set_cons_succ]
      refine AnyT.take (i := 4) (oi := _) (v := ?_) rfl (by kernel_rfl) (by kernel_rfl) (by kernel_rfl) (by kernel_rfl) (fun _ _ _ h => h) (Or.inl ⟨by kernel_rfl, ?_⟩) (by assumption) ?_
      rotate_left 1
      · intro wz hSw; (have h1 := (HX.out.later hSw).air.c0; have h2 := (HX.out.later hSw).air.c1; have h3 := (HX.out.later hSw).air.c2; have h4 := (HX.out.later hSw).air.c3); go_simp; try with_reducible rfl
      try simp only [Act.put, List.setIfInBounds_toArray, List.set_cons_zero, List.set_cons_succ]
      refine AnyT.take (i := 5) (oi := _) (v := ?_) rfl (by kernel_rfl) (by kernel_rfl) (by kernel_rfl) (by kernel_rfl) (fun _ _ _ h => h) (Or.inl ⟨by kernel_rfl, ?_⟩) (by assumption) ?_
      rotate_left 1
      · intro wz hSw; skip; go_simp; try with_reducible rfl
      try simp only [Act.put, List.setIfInBounds_toArray, List.set_cons_zero, List.set_cons_succ]
      refine AnyT.take (i := 6) (oi := _) (v := ?_) rfl (by kernel_rfl) (by kernel_rfl) (by kernel_rfl) (by kernel_rfl) (fun _ _ _ h => h) (Or.inl ⟨by kernel_rfl, ?_⟩) (by assumption) ?_
      rotate_left 1
      · intro wz hSw; (have h1 := (HX.out.later hSw).hull.c2; have h2 := (HX.out.later hSw).hull.c3); go_simp; try with_reducible rfl
      try simp only [Act.put, List.setIfInBounds_toArray, List.set_cons_zero, List.set_cons_succ]
      clear hHeld
      refine AnyT.some [3, 11, 12] (by kernel_rfl) (by simp) (fun i hi => ?_)
      simp only [List.mem_cons, List.not_mem_nil, or_false] at hi
      rcases hi with rfl | rfl | rfl
      · skip
        refine AnyT.step (o := _) rfl (fun K hK => ?_)
        go_simp
        refine (blow1f_any w.heap.size ms _).mono ?_
        rintro e w6 ⟨O, rfl, gO, hb6⟩
        have fO := gO
        clear gO
        try replace nb6 := nb6.later hb6
        try replace nb7 := nb7.later hb6
        try replace fO := cell_later hb6 fO
        replace hA := two hA hb6
        go_wp2_with fail
        refine hK.out _ _ (fun _ => hA) ?_
        clear hK K hb6
        try simp only [Act.put, List.setIfInBounds_toArray, List.set_cons_zero, List.set_cons_succ]
        refine AnyT.some [7, 11, 12] (by kernel_rfl) (by simp) (fun i hi => ?_)
        simp only [List.mem_cons, List.not_mem_nil, or_false] at hi
        rcases hi with rfl | rfl | rfl
        · skip
          refine AnyT.step (o := _) rfl (fun K hK => ?_)
          go_simp
          refine (reach_Blow O w.heap.size (blowR rm gs ms) p0 p1 t0 t1 w0 w1' _ (HSM.out O _ fO (HX.out.later hA).hull) HFM.out).mono ?_
          rintro e w7 ⟨rfl, hb6⟩
          rw [HEM.out]
          try replace nb6 := nb6.later hb6
          try replace nb7 := nb7.later hb6
          try replace fO := cell_later hb6 fO
          replace hA := two hA hb6
          go_wp2_with fail
          refine hK.out _ _ (fun _ => hA) ?_
          clear hK K hb6
          try simp only [Act.put, List.setIfInBounds_toArray, List.set_cons_zero, List.set_cons_succ]
          refine AnyT.take (i := 8) (oi := _) (v := ?_) rfl (by kernel_rfl) (by kernel_rfl) (by kernel_rfl) (by kernel_rfl) (fun _ _ _ h => h) (Or.inl ⟨by kernel_rfl, ?_⟩) (by assumption) ?_
          rotate_left 1
          · intro wz hSw; skip; go_simp; try with_reducible rfl
          try simp only [Act.put, List.setIfInBounds_toArray, List.set_cons_zero, List.set_cons_succ]
          refine AnyT.take (i := 9) (oi := _) (v := ?_) rfl (by kernel_rfl) (by kernel_rfl) (by kernel_rfl) (by kernel_rfl) (fun _ _ _ h => h) (Or.inl ⟨by kernel_rfl, ?_⟩) (by assumption) ?_
          rotate_left 1
          · intro wz hSw; skip; go_simp; try with_reducible rfl
          try simp only [Act.put, List.setIfInBounds_toArray, List.set_cons_zero, List.set_cons_succ]
          refine AnyT.take (i := 10) (oi := _) (v := ?_) rfl (by kernel_rfl) (by kernel_rfl) (by kernel_rfl) (by kernel_rfl) (fun _ _ _ h => h) (Or.inl ⟨by kernel_rfl, ?_⟩) (by assumption) ?_
          rotate_left 1
          · intro wz hSw; skip; go_simp; try with_reducible rfl
          try simp only [Act.put, List.setIfInBounds_toArray, List.set_cons_zero, List.set_cons_succ]
          refine AnyT.some [11, 12] (by kernel_rfl) (by simp) (fun i hi => ?_)
          simp only [List.mem_cons, List.not_mem_nil, or_false] at hi
          rcases hi with rfl | rfl
          · skip
            refine AnyT.step (o := _) rfl (fun K hK => ?_)
            go_simp
            obtain ⟨w9, B6, e9, f9, hA9, hb9, nb6, ge6⟩ := box_new (t := 127) hA
            try have hne : B7 < B6 := (by have h0 := nb7.lt; omega)
            rw [e9, f9]
            clear e9 f9 hA
            have hA := hA9
            clear hA9
            try replace nb7 := nb7.later hb9
            try replace fO := cell_later hb9 fO
            clear hb9
            refine hK.out _ _ (fun _ => hA) ?_
            clear hK K
            try simp only [Act.put, List.setIfInBounds_toArray, List.set_cons_zero, List.set_cons_succ]
            refine AnyT.one (i := 12) (o := _) rfl (by kernel_rfl) (fun K hK => ?_)
            go_simp
            obtain ⟨w9, B7, e9, f9, hA9, hb9, nb7, ge7⟩ := box_new (t := 127) hA
            try have hne : B6 < B7 := (by have h0 := nb6.lt; omega)
            rw [e9, f9]
            clear e9 f9 hA
            have hA := hA9
            clear hA9
            try replace nb6 := nb6.later hb9
            try replace fO := cell_later hb9 fO
            clear hb9
            refine hK.out _ _ (fun _ => hA) ?_
            clear hK K
            try simp only [Act.put, List.setIfInBounds_toArray, List.set_cons_zero, List.set_cons_succ]
            obtain ⟨x0, x1, xf0, xf1⟩ := nb6
            obtain ⟨y0, y1, yf0, yf1⟩ := nb7
            have hne1 : B6 ≠ B7 := by omega
            have hne2 : B7 ≠ B6 := by omega
            refine AnyT.one (i := 13) (o := _) rfl (by kernel_rfl) (fun K hK => ?_)
            go_simp
            refine hK.out _ _ (fun _ => by go_grown) ?_
            clear hK K
            try simp only [Act.put, List.setIfInBounds_toArray, List.set_cons_zero, List.set_cons_succ]
            refine AnyT.one (i := 14) (o := _) rfl (by kernel_rfl) (fun K hK => ?_)
            go_simp
            refine hK.out _ _ (fun h => absurd rfl h) ?_
            clear hK K
            refine AnyT.done (by kernel_rfl) ?_
            try simp only [Act.put, List.setIfInBounds_toArray, List.set_cons_zero, List.set_cons_succ]
            go_wp2_with fail
            go_meet
            case rel => exact ⟨⟨B6, B7, rfl, rfl, hBW.trans (Below.mono (by go_grown : Below W.heap.size W _) hBW.size), HX.out.later (by go_grown), ⟨by go_cell, by go_cell⟩, ⟨by go_cell, by go_cell⟩⟩, B5, rfl, HT.out.later (by go_grown)⟩
          · skip
            refine AnyT.step (o := _) rfl (fun K hK => ?_)
            go_simp
            obtain ⟨w9, B7, e9, f9, hA9, hb9, nb7, ge7⟩ := box_new (t := 127) hA
            try have hne : B6 < B7 := (by have h0 := nb6.lt; omega)
            rw [e9, f9]
            clear e9 f9 hA
            have hA := hA9
            clear hA9
            try replace nb6 := nb6.later hb9
            try replace fO := cell_later hb9 fO
            clear hb9
            refine hK.out _ _ (fun _ => hA) ?_
            clear hK K
            try simp only [Act.put, List.setIfInBounds_toArray, List.set_cons_zero, List.set_cons_succ]
            refine AnyT.one (i := 11) (o := _) rfl (by kernel_rfl) (fun K hK => ?_)
            go_simp
            obtain ⟨w9, B6, e9, f9, hA9, hb9, nb6, ge6⟩ := box_new (t := 127) hA
            try have hne : B7 < B6 := (by have h0 := nb7.lt; omega)
            rw [e9, f9]
            clear e9 f9 hA
            have hA := hA9
            clear hA9
            try replace nb7 := nb7.later hb9
            try replace fO := cell_later hb9 fO
            clear hb9
            refine hK.out _ _ (fun _ => hA) ?_
            clear hK K
            try simp only [Act.put, List.setIfInBounds_toArray, List.set_cons_zero, List.set_cons_succ]
            obtain ⟨x0, x1, xf0, xf1⟩ := nb6
            obtain ⟨y0, y1, yf0, yf1⟩ := nb7
            have hne1 : B6 ≠ B7 := by omega
            have hne2 : B7 ≠ B6 := by omega
            refine AnyT.one (i := 13) (o := _) rfl (by kernel_rfl) (fun K hK => ?_)
            go_simp
            refine hK.out _ _ (fun _ => by go_grown) ?_
            clear hK K
            try simp only [Act.put, List.setIfInBounds_toArray, List.set_cons_zero, List.set_cons_succ]
            refine AnyT.one (i := 14) (o := _) rfl (by kernel_rfl) (fun K hK => ?_)
            go_simp
            refine hK.out _ _ (fun h => absurd rfl h) ?_
            clear hK K
            refine AnyT.done (by kernel_rfl) ?_
            try simp only [Act.put, List.setIfInBounds_toArray, List.set_cons_zero, List.set_cons_succ]
            go_wp2_with fail
            go_meet
            case rel => exact ⟨⟨B6, B7, rfl, rfl, hBW.trans (Below.mono (by go_grown : Below W.heap.size W _) hBW.size), HX.out.later (by go_grown), ⟨by go_cell, by go_cell⟩, ⟨by go_cell, by go_cell⟩⟩, B5, rfl, HT.out.later (by go_grown)⟩
        · skip
          refine AnyT.step (o := _) rfl (fun K hK => ?_)
          go_simp
          obtain ⟨w9, B6, e9, f9, hA9, hb9, nb6, ge6⟩ := box_new (t := 127) hA
          try have hne : B7 < B6 := (by have h0 := nb7.lt; omega)
          rw [e9, f9]
          clear e9 f9 hA
          have hA := hA9
          clear hA9
          try replace nb7 := nb7.later hb9
          try replace fO := cell_later hb9 fO
          clear hb9
          refine hK.out _ _ (fun _ => hA) ?_
          clear hK K
          try simp only [Act.put, List.setIfInBounds_toArray, List.set_cons_zero, List.set_cons_succ]
          refine AnyT.some [7, 12] (by kernel_rfl) (by simp) (fun i hi => ?_)
          simp only [List.mem_cons, List.not_mem_nil, or_false] at hi
          rcases hi with rfl | rfl
          · skip
            refine AnyT.step (o := _) rfl (fun K hK => ?_)
            go_simp
            refine (reach_Blow O w.heap.size (blowR rm gs ms) p0 p1 t0 t1 w0 w1' _ (HSM.out O _ fO (HX.out.later hA).hull) HFM.out).mono ?_
            rintro e w7 ⟨rfl, hb6⟩
            rw [HEM.out]
            try replace nb6 := nb6.later hb6
            try replace nb7 := nb7.later hb6
            try replace fO := cell_later hb6 fO
            replace hA := two hA hb6
            go_wp2_with fail
            refine hK.out _ _ (fun _ => hA) ?_
            clear hK K hb6
            try simp only [Act.put, List.setIfInBounds_toArray, List.set_cons_zero, List.set_cons_succ]
            refine AnyT.take (i := 8) (oi := _) (v := ?_) rfl (by kernel_rfl) (by kernel_rfl) (by kernel_rfl) (by kernel_rfl) (fun _ _ _ h => h) (Or.inl ⟨by kernel_rfl, ?_⟩) (by assumption) ?_
            rotate_left 1
            · intro wz hSw; skip; go_simp; try with_reducible rfl
            try simp only [Act.put, List.setIfInBounds_toArray, List.set_cons_zero, List.set_cons_succ]
            refine AnyT.take (i := 9) (oi := _) (v := ?_) rfl (by kernel_rfl) (by kernel_rfl) (by kernel_rfl) (by kernel_rfl) (fun _ _ _ h => h) (Or.inl ⟨by kernel_rfl, ?_⟩) (by assumption) ?_
            rotate_left 1
            · intro wz hSw; skip; go_simp; try with_reducible rfl
            try simp only [Act.put, List.setIfInBounds_toArray, List.set_cons_zero, List.set_cons_succ]
            refine AnyT.take (i := 10) (oi := _) (v := ?_) rfl (by kernel_rfl) (by kernel_rfl) (by kernel_rfl) (by kernel_rfl) (fun _ _ _ h => h) (Or.inl ⟨by kernel_rfl, ?_⟩) (by assumption) ?_
            rotate_left 1
            · intro wz hSw; skip; go_simp; try with_reducible rfl
            try simp only [Act.put, List.setIfInBounds_toArray, List.set_cons_zero, List.set_cons_succ]
            refine AnyT.one (i := 12) (o := _) rfl (by kernel_rfl) (fun K hK => ?_)
            go_simp
            obtain ⟨w9, B7, e9, f9, hA9, hb9, nb7, ge7⟩ := box_new (t := 127) hA
            try have hne : B6 < B7 := (by have h0 := nb6.lt; omega)
            rw [e9, f9]
            clear e9 f9 hA
            have hA := hA9
            clear hA9
            try replace nb6 := nb6.later hb9
            try replace fO := cell_later hb9 fO
            clear hb9
            refine hK.out _ _ (fun _ => hA) ?_
            clear hK K
            try simp only [Act.put, List.setIfInBounds_toArray, List.set_cons_zero, List.set_cons_succ]
            obtain ⟨x0, x1, xf0, xf1⟩ := nb6
            obtain ⟨y0, y1, yf0, yf1⟩ := nb7
            have hne1 : B6 ≠ B7 := by omega
            have hne2 : B7 ≠ B6 := by omega
            refine AnyT.one (i := 13) (o := _) rfl (by kernel_rfl) (fun K hK => ?_)
            go_simp
            refine hK.out _ _ (fun _ => by go_grown) ?_
            clear hK K
            try simp only [Act.put, List.setIfInBounds_toArray, List.set_cons_zero, List.set_cons_succ]
            refine AnyT.one (i := 14) (o := _) rfl (by kernel_rfl) (fun K hK => ?_)
            go_simp
            refine hK.out _ _ (fun h => absurd rfl h) ?_
            clear hK K
            refine AnyT.done (by kernel_rfl) ?_
            try simp only [Act.put, List.setIfInBounds_toArray, List.set_cons_zero, List.set_cons_succ]
            go_wp2_with fail
            go_meet
            case rel => exact ⟨⟨B6, B7, rfl, rfl, hBW.trans (Below.mono (by go_grown : Below W.heap.size W _) hBW.size), HX.out.later (by go_grown), ⟨by go_cell, by go_cell⟩, ⟨by go_cell, by go_cell⟩⟩, B5, rfl, HT.out.later (by go_grown)⟩
          · skip
            refine AnyT.step (o := _) rfl (fun K hK => ?_)
            go_simp
            obtain ⟨w9, B7, e9, f9, hA9, hb9, nb7, ge7⟩ := box_new (t := 127) hA
            try have hne : B6 < B7 := (by have h0 := nb6.lt; omega)
            rw [e9, f9]
            clear e9 f9 hA
            have hA := hA9
            clear hA9
            try replace nb6 := nb6.later hb9
            try replace fO := cell_later hb9 fO
            clear hb9
            refine hK.out _ _ (fun _ => hA) ?_
            clear hK K
            try simp only [Act.put, List.setIfInBounds_toArray, List.set_cons_zero, List.set_cons_succ]
            refine AnyT.one (i := 7) (o := _) rfl (by kernel_rfl) (fun K hK => ?_)
            go_simp
            refine (reach_Blow O w.heap.size (blowR rm gs ms) p0 p1 t0 t1 w0 w1' _ (HSM.out O _ fO (HX.out.later hA).hull) HFM.out).mono ?_
            rintro e w7 ⟨rfl, hb6⟩
            rw [HEM.out]
            try replace nb6 := nb6.later hb6
            try replace nb7 := nb7.later hb6
            try replace fO := cell_later hb6 fO
            replace hA := two hA hb6
            go_wp2_with fail
            refine hK.out _ _ (fun _ => hA) ?_
            clear hK K hb6
            try simp only [Act.put, List.setIfInBounds_toArray, List.set_cons_zero, List.set_cons_succ]
            refine AnyT.take (i := 8) (oi := _) (v := ?_) rfl (by kernel_rfl) (by kernel_rfl) (by kernel_rfl) (by kernel_rfl) (fun _ _ _ h => h) (Or.inl ⟨by kernel_rfl, ?_⟩) (by assumption) ?_
            rotate_left 1
            · intro wz hSw; skip; go_simp; try with_reducible rfl
            try simp only [Act.put, List.setIfInBounds_toArray, List.set_cons_zero, List.set_cons_succ]
            refine AnyT.take (i := 9) (oi := _) (v := ?_) rfl (by kernel_rfl) (by kernel_rfl) (by kernel_rfl) (by kernel_rfl) (fun _ _ _ h => h) (Or.inl ⟨by kernel_rfl, ?_⟩) (by assumption) ?_
            rotate_left 1
            · intro wz hSw; skip; go_simp; try with_reducible rfl
            try simp only [Act.put, List.setIfInBounds_toArray, List.set_cons_zero, List.set_cons_succ]
            refine AnyT.take (i := 10) (oi := _) (v := ?_) rfl (by kernel_rfl) (by kernel_rfl) (by kernel_rfl) (by kernel_rfl) (fun _ _ _ h => h) (Or.inl ⟨by kernel_rfl, ?_⟩) (by assumption) ?_
            rotate_left 1
            · intro wz hSw; skip; go_simp; try with_reducible rfl
            try simp only [Act.put, List.setIfInBounds_toArray, List.set_cons_zero, List.set_cons_succ]
            obtain ⟨x0, x1, xf0, xf1⟩ := nb6
            obtain ⟨y0, y1, yf0, yf1⟩ := nb7
            have hne1 : B6 ≠ B7 := by omega
            have hne2 : B7 ≠ B6 := by omega
            refine AnyT.one (i := 13) (o := _) rfl (by kernel_rfl) (fun K hK => ?_)
            go_simp
            refine hK.out _ _ (fun _ => by go_grown) ?_
            clear hK K
            try simp only [Act.put, List.setIfInBounds_toArray, List.set_cons_zero, List.set_cons_succ]
            refine AnyT.one (i := 14) (o := _) rfl (by kernel_rfl) (fun K hK => ?_)
            go_simp
            refine hK.out _ _ (fun h => absurd rfl h) ?_
            clear hK K
            refine AnyT.done (by kernel_rfl) ?_
            try simp only [Act.put, List.setIfInBounds_toArray, List.set_cons_zero, List.set_cons_succ]
            go_wp2_with fail
            go_meet
            case rel => exact ⟨⟨B6, B7, rfl, rfl, hBW.trans (Below.mono (by go_grown : Below W.heap.size W _) hBW.size), HX.out.later (by go_grown), ⟨by go_cell, by go_cell⟩, ⟨by go_cell, by go_cell⟩⟩, B5, rfl, HT.out.later (by go_grown)⟩
        · skip
          refine AnyT.step (o := _) rfl (fun K hK => ?_)
          go_simp
          obtain ⟨w9, B7, e9, f9, hA9, hb9, nb7, ge7⟩ := box_new (t := 127) hA
          try have hne : B6 < B7 := (by have h0 := nb6.lt; omega)
          rw [e9, f9]
          clear e9 f9 hA
          have hA := hA9
          clear hA9
          try replace nb6 := nb6.later hb9
          try replace fO := cell_later hb9 fO
          clear hb9
          refine hK.out _ _ (fun _ => hA) ?_
          clear hK K
          try simp only [Act.put, List.setIfInBounds_toArray, List.set_cons_zero, List.set_cons_succ]
          refine AnyT.some [7, 11] (by kernel_rfl) (by simp) (fun i hi => ?_)
          simp only [List.mem_cons, List.not_mem_nil, or_false] at hi
          rcases hi with rfl | rfl
          · skip
            refine AnyT.step (o := _) rfl (fun K hK => ?_)
            go_simp
            refine (reach_Blow O w.heap.size (blowR rm gs ms) p0 p1 t0 t1 w0 w1' _ (HSM.out O _ fO (HX.out.later hA).hull) HFM.out).mono ?_
            rintro e w7 ⟨rfl, hb6⟩
            rw [HEM.out]
            try replace nb6 := nb6.later hb6
            try replace nb7 := nb7.later hb6
            try replace fO := cell_later hb6 fO
            replace hA := two hA hb6
            go_wp2_with fail
            refine hK.out _ _ (fun _ => hA) ?_
            clear hK K hb6
            try simp only [Act.put, List.setIfInBounds_toArray, List.set_cons_zero, List.set_cons_succ]
            refine AnyT.take (i := 8) (oi := _) (v := ?_) rfl (by kernel_rfl) (by kernel_rfl) (by kernel_rfl) (by kernel_rfl) (fun _ _ _ h => h) (Or.inl ⟨by kernel_rfl, ?_⟩) (by assumption) ?_
            rotate_left 1
            · intro wz hSw; skip; go_simp; try with_reducible rfl
            try simp only [Act.put, List.setIfInBounds_toArray, List.set_cons_zero, List.set_cons_succ]
            refine AnyT.take (i := 9) (oi := _) (v := ?_) rfl (by kernel_rfl) (by kernel_rfl) (by kernel_rfl) (by kernel_rfl) (fun _ _ _ h => h) (Or.inl ⟨by kernel_rfl, ?_⟩) (by assumption) ?_
            rotate_left 1
            · intro wz hSw; skip; go_simp; try with_reducible rfl
            try simp only [Act.put, List.setIfInBounds_toArray, List.set_cons_zero, List.set_cons_succ]
            refine AnyT.take (i := 10) (oi := _) (v := ?_) rfl (by kernel_rfl) (by kernel_rfl) (by kernel_rfl) (by kernel_rfl) (fun _ _ _ h => h) (Or.inl ⟨by kernel_rfl, ?_⟩) (by assumption) ?_
            rotate_left 1
            · intro wz hSw; skip; go_simp; try with_reducible rfl
            try simp only [Act.put, List.setIfInBounds_toArray, List.set_cons_zero, List.set_cons_succ]
            refine AnyT.one (i := 11) (o := _) rfl (by kernel_rfl) (fun K hK => ?_)
            go_simp
            obtain ⟨w9, B6, e9, f9, hA9, hb9, nb6, ge6⟩ := box_new (t := 127) hA
            try have hne : B7 < B6 := (by have h0 := nb7.lt; omega)
            rw [e9, f9]
            clear e9 f9 hA
            have hA := hA9
            clear hA9
            try replace nb7 := nb7.later hb9
            try replace fO := cell_later hb9 fO
            clear hb9
            refine hK.out _ _ (fun _ => hA) ?_
            clear hK K
            try simp only [Act.put, List.setIfInBounds_toArray, List.set_cons_zero, List.set_cons_succ]
            obtain ⟨x0, x1, xf0, xf1⟩ := nb6
            obtain ⟨y0, y1, yf0, yf1⟩ := nb7
            have hne1 : B6 ≠ B7 := by omega
            have hne2 : B7 ≠ B6 := by omega
            refine AnyT.one (i := 13) (o := _) rfl (by kernel_rfl) (fun K hK => ?_)
            go_simp
            refine hK.out _ _ (fun _ => by go_grown) ?_
            clear hK K
            try simp only [Act.put, List.setIfInBounds_toArray, List.set_cons_zero, List.set_cons_succ]
            refine AnyT.one (i := 14) (o := _) rfl (by kernel_rfl) (fun K hK => ?_)
            go_simp
            refine hK.out _ _ (fun h => absurd rfl h) ?_
            clear hK K
            refine AnyT.done (by kernel_rfl) ?_
            try simp only [Act.put, List.setIfInBounds_toArray, List.set_cons_zero, List.set_cons_succ]
            go_wp2_with fail
            go_meet
            case rel => exact ⟨⟨B6, B7, rfl, rfl, hBW.trans (Below.mono (by go_grown : Below W.heap.size W _) hBW.size), HX.out.later (by go_grown), ⟨by go_cell, by go_cell⟩, ⟨by go_cell, by go_cell⟩⟩, B5, rfl, HT.out.later (by go_grown)⟩
          · skip
            refine AnyT.step (o := _) rfl (fun K hK => ?_)
            go_simp
            obtain ⟨w9, B6, e9, f9, hA9, hb9, nb6, ge6⟩ := box_new (t := 127) hA
            try have hne : B7 < B6 := (by have h0 := nb7.lt; omega)
            rw [e9, f9]
            clear e9 f9 hA
            have hA := hA9
            clear hA9
            try replace nb7 := nb7.later hb9
            try replace fO := cell_later hb9 fO
            clear hb9
            refine hK.out _ _ (fun _ => hA) ?_
            clear hK K
            try simp only [Act.put, List.setIfInBounds_toArray, List.set_cons_zero, List.set_cons_succ]
            refine AnyT.one (i := 7) (o := _) rfl (by kernel_rfl) (fun K hK => ?_)
            go_simp
            refine (reach_Blow O w.heap.size (blowR rm gs ms) p0 p1 t0 t1 w0 w1' _ (HSM.out O _ fO (HX.out.later hA).hull) HFM.out).mono ?_
            rintro e w7 ⟨rfl, hb6⟩
            rw [HEM.out]
            try replace nb6 := nb6.later hb6
            try replace nb7 := nb7.later hb6
            try replace fO := cell_later hb6 fO
            replace hA := two hA hb6
            go_wp2_with fail
            refine hK.out _ _ (fun _ => hA) ?_
            clear hK K hb6
            try simp only [Act.put, List.setIfInBounds_toArray, List.set_cons_zero, List.set_cons_succ]
            refine AnyT.take (i := 8) (oi := _) (v := ?_) rfl (by kernel_rfl) (by kernel_rfl) (by kernel_rfl) (by kernel_rfl) (fun _ _ _ h => h) (Or.inl ⟨by kernel_rfl, ?_⟩) (by assumption) ?_
            rotate_left 1
            · intro wz hSw; skip; go_simp; try with_reducible rfl
            try simp only [Act.put, List.setIfInBounds_toArray, List.set_cons_zero, List.set_cons_succ]
            refine AnyT.take (i := 9) (oi := _) (v := ?_) rfl (by kernel_rfl) (by kernel_rfl) (by kernel_rfl) (by kernel_rfl) (fun _ _ _ h => h) (Or.inl ⟨by kernel_rfl, ?_⟩) (by assumption) ?_
            rotate_left 1
            · intro wz hSw; skip; go_simp; try with_reducible rfl
            try simp only [Act.put, List.setIfInBounds_toArray, List.set_cons_zero, List.set_cons_succ]
            refine AnyT.take (i := 10) (oi := _) (v := ?_) rfl (by kernel_rfl) (by kernel_rfl) (by kernel_rfl) (by kernel_rfl) (fun _ _ _ h => h) (Or.inl ⟨by kernel_rfl, ?_⟩) (by assumption) ?_
            rotate_left 1
            · intro wz hSw; skip; go_simp; try with_reducible rfl
            try simp only [Act.put, List.setIfInBounds_toArray, List.set_cons_zero, List.set_cons_succ]
            obtain ⟨x0, x1, xf0, xf1⟩ := nb6
            obtain ⟨y0, y1, yf0, yf1⟩ := nb7
            have hne1 : B6 ≠ B7 := by omega
            have hne2 : B7 ≠ B6 := by omega
            refine AnyT.one (i := 13) (o := _) rfl (by kernel_rfl) (fun K hK => ?_)
            go_simp
            refine hK.out _ _ (fun _ => by go_grown) ?_
            clear hK K
            try simp only [Act.put, List.setIfInBounds_toArray, List.set_cons_zero, List.set_cons_succ]
            refine AnyT.one (i := 14) (o := _) rfl (by kernel_rfl) (fun K hK => ?_)
            go_simp
            refine hK.out _ _ (fun h => absurd rfl h) ?_
            clear hK K
            refine AnyT.done (by kernel_rfl) ?_
            try simp only [Act.put, List.setIfInBounds_toArray, List.set_cons_zero, List.set_cons_succ]
            go_wp2_with fail
            go_meet
            case rel => exact ⟨⟨B6, B7, rfl, rfl, hBW.trans (Below.mono (by go_grown : Below W.heap.size W _) hBW.size), HX.out.later (by go_grown), ⟨by go_cell, by go_cell⟩, ⟨by go_cell, by go_cell⟩⟩, B5, rfl, HT.out.later (by go_grown)⟩
      · skip
        refine AnyT.step (o := _) rfl (fun K hK => ?_)
        go_simp
        obtain ⟨w9, B6, e9, f9, hA9, hb9, nb6, ge6⟩ := box_new (t := 127) hA
        try have hne : B7 < B6 := (by have h0 := nb7.lt; omega)
        rw [e9, f9]
        clear e9 f9 hA
        have hA := hA9
        clear hA9
        try replace nb7 := nb7.later hb9
        try replace fO := cell_later hb9 fO
        clear hb9
        refine hK.out _ _ (fun _ => hA) ?_
        clear hK K
        try simp only [Act.put, List.setIfInBounds_toArray, List.set_cons_zero, List.set_cons_succ]
        refine AnyT.some [3, 12] (by kernel_rfl) (by simp) (fun i hi => ?_)
        simp only [List.mem_cons, List.not_mem_nil, or_false] at hi
        rcases hi with rfl | rfl
        · skip
          refine AnyT.step (o := _) rfl (fun K hK => ?_)
          go_simp
          refine (blow1f_any w.heap.size ms _).mono ?_
          rintro e w6 ⟨O, rfl, gO, hb6⟩
          have fO := gO
          clear gO
          try replace nb6 := nb6.later hb6
          try replace nb7 := nb7.later hb6
          try replace fO := cell_later hb6 fO
          replace hA := two hA hb6
          go_wp2_with fail
          refine hK.out _ _ (fun _ => hA) ?_
          clear hK K hb6
          try simp only [Act.put, List.setIfInBounds_toArray, List.set_cons_zero, List.set_cons_succ]
          refine AnyT.some [7, 12] (by kernel_rfl) (by simp) (fun i hi => ?_)
          simp only [List.mem_cons, List.not_mem_nil, or_false] at hi
          rcases hi with rfl | rfl
          · skip
            refine AnyT.step (o := _) rfl (fun K hK => ?_)
            go_simp
            refine (reach_Blow O w.heap.size (blowR rm gs ms) p0 p1 t0 t1 w0 w1' _ (HSM.out O _ fO (HX.out.later hA).hull) HFM.out).mono ?_
            rintro e w7 ⟨rfl, hb6⟩
            rw [HEM.out]
            try replace nb6 := nb6.later hb6
            try replace nb7 := nb7.later hb6
            try replace fO := cell_later hb6 fO
            replace hA := two hA hb6
            go_wp2_with fail
            refine hK.out _ _ (fun _ => hA) ?_
            clear hK K hb6
            try simp only [Act.put, List.setIfInBounds_toArray, List.set_cons_zero, List.set_cons_succ]
            refine AnyT.take (i := 8) (oi := _) (v := ?_) rfl (by kernel_rfl) (by kernel_rfl) (by kernel_rfl) (by kernel_rfl) (fun _ _ _ h => h) (Or.inl ⟨by kernel_rfl, ?_⟩) (by assumption) ?_
            rotate_left 1
            · intro wz hSw; skip; go_simp; try with_reducible rfl
            try simp only [Act.put, List.setIfInBounds_toArray, List.set_cons_zero, List.set_cons_succ]
            refine AnyT.take (i := 9) (oi := _) (v := ?_) rfl (by kernel_rfl) (by kernel_rfl) (by kernel_rfl) (by kernel_rfl) (fun _ _ _ h => h) (Or.inl ⟨by kernel_rfl, ?_⟩) (by assumption) ?_
            rotate_left 1
            · intro wz hSw; skip; go_simp; try with_reducible rfl
            try simp only [Act.put, List.setIfInBounds_toArray, List.set_cons_zero, List.set_cons_succ]
            refine AnyT.take (i := 10) (oi := _) (v := ?_) rfl (by kernel_rfl) (by kernel_rfl) (by kernel_rfl) (by kernel_rfl) (fun _ _ _ h => h) (Or.inl ⟨by kernel_rfl, ?_⟩) (by assumption) ?_
            rotate_left 1
            · intro wz hSw; skip; go_simp; try with_reducible rfl
            try simp only [Act.put, List.setIfInBounds_toArray, List.set_cons_zero, List.set_cons_succ]
            refine AnyT.one (i := 12) (o := _) rfl (by kernel_rfl) (fun K hK => ?_)
            go_simp
            obtain ⟨w9, B7, e9, f9, hA9, hb9, nb7, ge7⟩ := box_new (t := 127) hA
            try have hne : B6 < B7 := (by have h0 := nb6.lt; omega)
            rw [e9, f9]
            clear e9 f9 hA
            have hA := hA9
            clear hA9
            try replace nb6 := nb6.later hb9
            try replace fO := cell_later hb9 fO
            clear hb9
            refine hK.out _ _ (fun _ => hA) ?_
            clear hK K
            try simp only [Act.put, List.setIfInBounds_toArray, List.set_cons_zero, List.set_cons_succ]
            obtain ⟨x0, x1, xf0, xf1⟩ := nb6
            obtain ⟨y0, y1, yf0, yf1⟩ := nb7
            have hne1 : B6 ≠ B7 := by omega
            have hne2 : B7 ≠ B6 := by omega
            refine AnyT.one (i := 13) (o := _) rfl (by kernel_rfl) (fun K hK => ?_)
            go_simp
            refine hK.out _ _ (fun _ => by go_grown) ?_
            clear hK K
            try simp only [Act.put, List.setIfInBounds_toArray, List.set_cons_zero, List.set_cons_succ]
            refine AnyT.one (i := 14) (o := _) rfl (by kernel_rfl) (fun K hK => ?_)
            go_simp
            refine hK.out _ _ (fun h => absurd rfl h) ?_
            clear hK K
            refine AnyT.done (by kernel_rfl) ?_
            try simp only [Act.put, List.setIfInBounds_toArray, List.set_cons_zero, List.set_cons_succ]
            go_wp2_with fail
            go_meet
            case rel => exact ⟨⟨B6, B7, rfl, rfl, hBW.trans (Below.mono (by go_grown : Below W.heap.size W _) hBW.size), HX.out.later (by go_grown), ⟨by go_cell, by go_cell⟩, ⟨by go_cell, by go_cell⟩⟩, B5, rfl, HT.out.later (by go_grown)⟩
          · skip
            refine AnyT.step (o := _) rfl (fun K hK => ?_)
            go_simp
            obtain ⟨w9, B7, e9, f9, hA9, hb9, nb7, ge7⟩ := box_new (t := 127) hA
            try have hne : B6 < B7 := (by have h0 := nb6.lt; omega)
            rw [e9, f9]
            clear e9 f9 hA
            have hA := hA9
            clear hA9
            try replace nb6 := nb6.later hb9
            try replace fO := cell_later hb9 fO
            clear hb9
            refine hK.out _ _ (fun _ => hA) ?_
            clear hK K
            try simp only [Act.put, List.setIfInBounds_toArray, List.set_cons_zero, List.set_cons_succ]
            refine AnyT.one (i := 7) (o := _) rfl (by kernel_rfl) (fun K hK => ?_)
            go_simp
            refine (reach_Blow O w.heap.size (blowR rm gs ms) p0 p1 t0 t1 w0 w1' _ (HSM.out O _ fO (HX.out.later hA).hull) HFM.out).mono ?_
            rintro e w7 ⟨rfl, hb6⟩
            rw [HEM.out]
            try replace nb6 := nb6.later hb6
            try replace nb7 := nb7.later hb6
            try replace fO := cell_later hb6 fO
            replace hA := two hA hb6
            go_wp2_with fail
            refine hK.out _ _ (fun _ => hA) ?_
            clear hK K hb6
            try simp only [Act.put, List.setIfInBounds_toArray, List.set_cons_zero, List.set_cons_succ]
            refine AnyT.take (i := 8) (oi := _) (v := ?_) rfl (by kernel_rfl) (by kernel_rfl) (by kernel_rfl) (by kernel_rfl) (fun _ _ _ h => h) (Or.inl ⟨by kernel_rfl, ?_⟩) (by assumption) ?_
            rotate_left 1
            · intro wz hSw; skip; go_simp; try with_reducible rfl
            try simp only [Act.put, List.setIfInBounds_toArray, List.set_cons_zero, List.set_cons_succ]
            refine AnyT.take (i := 9) (oi := _) (v := ?_) rfl (by kernel_rfl) (by kernel_rfl) (by kernel_rfl) (by kernel_rfl) (fun _ _ _ h => h) (Or.inl ⟨by kernel_rfl, ?_⟩) (by assumption) ?_
            rotate_left 1
            · intro wz hSw; skip; go_simp; try with_reducible rfl
            try simp only [Act.put, List.setIfInBounds_toArray, List.set_cons_zero, List.set_cons_succ]
            refine AnyT.take (i := 10) (oi := _) (v := ?_) rfl (by kernel_rfl) (by kernel_rfl) (by kernel_rfl) (by kernel_rfl) (fun _ _ _ h => h) (Or.inl ⟨by kernel_rfl, ?_⟩) (by assumption) ?_
            rotate_left 1
            · intro wz hSw; skip; go_simp; try with_reducible rfl
            try simp only [Act.put, List.setIfInBounds_toArray, List.set_cons_zero, List.set_cons_succ]
            obtain ⟨x0, x1, xf0, xf1⟩ := nb6
            obtain ⟨y0, y1, yf0, yf1⟩ := nb7
            have hne1 : B6 ≠ B7 := by omega
            have hne2 : B7 ≠ B6 := by omega
            refine AnyT.one (i := 13) (o := _) rfl (by kernel_rfl) (fun K hK => ?_)
            go_simp
            refine hK.out _ _ (fun _ => by go_grown) ?_
            clear hK K
            try simp only [Act.put, List.setIfInBounds_toArray, List.set_cons_zero, List.set_cons_succ]
            refine AnyT.one (i := 14) (o := _) rfl (by kernel_rfl) (fun K hK => ?_)
            go_simp
            refine hK.out _ _ (fun h => absurd rfl h) ?_
            clear hK K
            refine AnyT.done (by kernel_rfl) ?_
            try simp only [Act.put, List.setIfInBounds_toArray, List.set_cons_zero, List.set_cons_succ]
            go_wp2_with fail
            go_meet
            case rel => exact ⟨⟨B6, B7, rfl, rfl, hBW.trans (Below.mono (by go_grown : Below W.heap.size W _) hBW.size), HX.out.later (by go_grown), ⟨by go_cell, by go_cell⟩, ⟨by go_cell, by go_cell⟩⟩, B5, rfl, HT.out.later (by go_grown)⟩
        · skip
          refine AnyT.step (o := _) rfl (fun K hK => ?_)
          go_simp
          obtain ⟨w9, B7, e9, f9, hA9, hb9, nb7, ge7⟩ := box_new (t := 127) hA
          try have hne : B6 < B7 := (by have h0 := nb6.lt; omega)
          rw [e9, f9]
          clear e9 f9 hA
          have hA := hA9
          clear hA9
          try replace nb6 := nb6.later hb9
          try replace fO := cell_later hb9 fO
          clear hb9
          refine hK.out _ _ (fun _ => hA) ?_
          clear hK K
          try simp only [Act.put, List.setIfInBounds_toArray, List.set_cons_zero, List.set_cons_succ]
          refine AnyT.one (i := 3) (o := _) rfl (by kernel_rfl) (fun K hK => ?_)
          go_simp
          refine (blow1f_any w.heap.size ms _).mono ?_
          rintro e w6 ⟨O, rfl, gO, hb6⟩
          have fO := gO
          clear gO
          try replace nb6 := nb6.later hb6
          try replace nb7 := nb7.later hb6
          try replace fO := cell_later hb6 fO
          replace hA := two hA hb6
          go_wp2_with fail
          refine hK.out _ _ (fun _ => hA) ?_
          clear hK K hb6
          try simp only [Act.put, List.setIfInBounds_toArray, List.set_cons_zero, List.set_cons_succ]
          refine AnyT.one (i := 7) (o := _) rfl (by kernel_rfl) (fun K hK => ?_)
          go_simp
          refine (reach_Blow O w.heap.size (blowR rm gs ms) p0 p1 t0 t1 w0 w1' _ (HSM.out O _ fO (HX.out.later hA).hull) HFM.out).mono ?_
          rintro e w7 ⟨rfl, hb6⟩
          rw [HEM.out]
          try replace nb6 := nb6.later hb6
          try replace nb7 := nb7.later hb6
          try replace fO := cell_later hb6 fO
          replace hA := two hA hb6
          go_wp2_with fail
          refine hK.out _ _ (fun _ => hA) ?_
          clear hK K hb6
          try simp only [Act.put, List.setIfInBounds_toArray, List.set_cons_zero, List.set_cons_succ]
          refine AnyT.take (i := 8) (oi := _) (v := ?_) rfl (by kernel_rfl) (by kernel_rfl) (by kernel_rfl) (by kernel_rfl) (fun _ _ _ h => h) (Or.inl ⟨by kernel_rfl, ?_⟩) (by assumption) ?_
          rotate_left 1
          · intro wz hSw; skip; go_simp; try with_reducible rfl
          try simp only [Act.put, List.setIfInBounds_toArray, List.set_cons_zero, List.set_cons_succ]
          refine AnyT.take (i := 9) (oi := _) (v := ?_) rfl (by kernel_rfl) (by kernel_rfl) (by kernel_rfl) (by kernel_rfl) (fun _ _ _ h => h) (Or.inl ⟨by kernel_rfl, ?_⟩) (by assumption) ?_
          rotate_left 1
          · intro wz hSw; skip; go_simp; try with_reducible rfl
          try simp only [Act.put, List.setIfInBounds_toArray, List.set_cons_zero, List.set_cons_succ]
          refine AnyT.take (i := 10) (oi := _) (v := ?_) rfl (by kernel_rfl) (by kernel_rfl) (by kernel_rfl) (by kernel_rfl) (fun _ _ _ h => h) (Or.inl ⟨by kernel_rfl, ?_⟩) (by assumption) ?_
          rotate_left 1
          · intro wz hSw; skip; go_simp; try with_reducible rfl
          try simp only [Act.put, List.setIfInBounds_toArray, List.set_cons_zero, List.set_cons_succ]
          obtain ⟨x0, x1, xf0, xf1⟩ := nb6
          obtain ⟨y0, y1, yf0, yf1⟩ := nb7
          have hne1 : B6 ≠ B7 := by omega
          have hne2 : B7 ≠ B6 := by omega
          refine AnyT.one (i := 13) (o := _) rfl (by kernel_rfl) (fun K hK => ?_)
          go_simp
          refine hK.out _ _ (fun _ => by go_grown) ?_
          clear hK K
          try simp only [Act.put, List.setIfInBounds_toArray, List.set_cons_zero, List.set_cons_succ]
          refine AnyT.one (i := 14) (o := _) rfl (by kernel_rfl) (fun K hK => ?_)
          go_simp
          refine hK.out _ _ (fun h => absurd rfl h) ?_
          clear hK K
          refine AnyT.done (by kernel_rfl) ?_
          try simp only [Act.put, List.setIfInBounds_toArray, List.set_cons_zero, List.set_cons_succ]
          go_wp2_with fail
          go_meet
          case rel => exact ⟨⟨B6, B7, rfl, rfl, hBW.trans (Below.mono (by go_grown : Below W.heap.size W _) hBW.size), HX.out.later (by go_grown), ⟨by go_cell, by go_cell⟩, ⟨by go_cell, by go_cell⟩⟩, B5, rfl, HT.out.later (by go_grown)⟩
      · skip
        refine AnyT.step (o := _) rfl (fun K hK => ?_)
        go_simp
        obtain ⟨w9, B7, e9, f9, hA9, hb9, nb7, ge7⟩ := box_new (t := 127) hA
        try have hne : B6 < B7 := (by have h0 := nb6.lt; omega)
        rw [e9, f9]
        clear e9 f9 hA
        have hA := hA9
        clear hA9
        try replace nb6 := nb6.later hb9
        try replace fO := cell_later hb9 fO
        clear hb9
        refine hK.out _ _ (fun _ => hA) ?_
        clear hK K
        try simp only [Act.put, List.setIfInBounds_toArray, List.set_cons_zero, List.set_cons_succ]
        refine AnyT.some [3, 11] (by kernel_rfl) (by simp) (fun i hi => ?_)
        simp only [List.mem_cons, List.not_mem_nil, or_false] at hi
        rcases hi with rfl | rfl
        · skip
          refine AnyT.step (o := _) rfl (fun K hK => ?_)
          go_simp
          refine (blow1f_any w.heap.size ms _).mono ?_
          rintro e w6 ⟨O, rfl, gO, hb6⟩
          have fO := gO
          clear gO
          try replace nb6 := nb6.later hb6
          try replace nb7 := nb7.later hb6
          try replace fO := cell_later hb6 fO
          replace hA := two hA hb6
          go_wp2_with fail
          refine hK.out _ _ (fun _ => hA) ?_
          clear hK K hb6
          try simp only [Act.put, List.setIfInBounds_toArray, List.set_cons_zero, List.set_cons_succ]
          refine AnyT.some [7, 11] (by kernel_rfl) (by simp) (fun i hi => ?_)
          simp only [List.mem_cons, List.not_mem_nil, or_false] at hi
          rcases hi with rfl | rfl
          · skip
            refine AnyT.step (o := _) rfl (fun K hK => ?_)
            go_simp
            refine (reach_Blow O w.heap.size (blowR rm gs ms) p0 p1 t0 t1 w0 w1' _ (HSM.out O _ fO (HX.out.later hA).hull) HFM.out).mono ?_
            rintro e w7 ⟨rfl, hb6⟩
            rw [HEM.out]
            try replace nb6 := nb6.later hb6
            try replace nb7 := nb7.later hb6
            try replace fO := cell_later hb6 fO
            replace hA := two hA hb6
            go_wp2_with fail
            refine hK.out _ _ (fun _ => hA) ?_
            clear hK K hb6
            try simp only [Act.put, List.setIfInBounds_toArray, List.set_cons_zero, List.set_cons_succ]
            refine AnyT.take (i := 8) (oi := _) (v := ?_) rfl (by kernel_rfl) (by kernel_rfl) (by kernel_rfl) (by kernel_rfl) (fun _ _ _ h => h) (Or.inl ⟨by kernel_rfl, ?_⟩) (by assumption) ?_
            rotate_left 1
            · intro wz hSw; skip; go_simp; try with_reducible rfl
            try simp only [Act.put, List.setIfInBounds_toArray, List.set_cons_zero, List.set_cons_succ]
            refine AnyT.take (i := 9) (oi := _) (v := ?_) rfl (by kernel_rfl) (by kernel_rfl) (by kernel_rfl) (by kernel_rfl) (fun _ _ _ h => h) (Or.inl ⟨by kernel_rfl, ?_⟩) (by assumption) ?_
            rotate_left 1
            · intro wz hSw; skip; go_simp; try with_reducible rfl
            try simp only [Act.put, List.setIfInBounds_toArray, List.set_cons_zero, List.set_cons_succ]
            refine AnyT.take (i := 10) (oi := _) (v := ?_) rfl (by kernel_rfl) (by kernel_rfl) (by kernel_rfl) (by kernel_rfl) (fun _ _ _ h => h) (Or.inl ⟨by kernel_rfl, ?_⟩) (by assumption) ?_
            rotate_left 1
            · intro wz hSw; skip; go_simp; try with_reducible rfl
            try simp only [Act.put, List.setIfInBounds_toArray, List.set_cons_zero, List.set_cons_succ]
            refine AnyT.one (i := 11) (o := _) rfl (by kernel_rfl) (fun K hK => ?_)
            go_simp
            obtain ⟨w9, B6, e9, f9, hA9, hb9, nb6, ge6⟩ := box_new (t := 127) hA
            try have hne : B7 < B6 := (by have h0 := nb7.lt; omega)
            rw [e9, f9]
            clear e9 f9 hA
            have hA := hA9
            clear hA9
            try replace nb7 := nb7.later hb9
            try replace fO := cell_later hb9 fO
            clear hb9
            refine hK.out _ _ (fun _ => hA) ?_
            clear hK K
            try simp only [Act.put, List.setIfInBounds_toArray, List.set_cons_zero, List.set_cons_succ]
            obtain ⟨x0, x1, xf0, xf1⟩ := nb6
            obtain ⟨y0, y1, yf0, yf1⟩ := nb7
            have hne1 : B6 ≠ B7 := by omega
            have hne2 : B7 ≠ B6 := by omega
            refine AnyT.one (i := 13) (o := _) rfl (by kernel_rfl) (fun K hK => ?_)
            go_simp
            refine hK.out _ _ (fun _ => by go_grown) ?_
            clear hK K
            try simp only [Act.put, List.setIfInBounds_toArray, List.set_cons_zero, List.set_cons_succ]
            refine AnyT.one (i := 14) (o := _) rfl (by kernel_rfl) (fun K hK => ?_)
            go_simp
            refine hK.out _ _ (fun h => absurd rfl h) ?_
            clear hK K
            refine AnyT.done (by kernel_rfl) ?_
            try simp only [Act.put, List.setIfInBounds_toArray, List.set_cons_zero, List.set_cons_succ]
            go_wp2_with fail
            go_meet
            case rel => exact ⟨⟨B6, B7, rfl, rfl, hBW.trans (Below.mono (by go_grown : Below W.heap.size W _) hBW.size), HX.out.later (by go_grown), ⟨by go_cell, by go_cell⟩, ⟨by go_cell, by go_cell⟩⟩, B5, rfl, HT.out.later (by go_grown)⟩
          · skip
            refine AnyT.step (o := _) rfl (fun K hK => ?_)
            go_simp
            obtain ⟨w9, B6, e9, f9, hA9, hb9, nb6, ge6⟩ := box_new (t := 127) hA
            try have hne : B7 < B6 := (by have h0 := nb7.lt; omega)
            rw [e9, f9]
            clear e9 f9 hA
            have hA := hA9
            clear hA9
            try replace nb7 := nb7.later hb9
            try replace fO := cell_later hb9 fO
            clear hb9
            refine hK.out _ _ (fun _ => hA) ?_
            clear hK K
            try simp only [Act.put, List.setIfInBounds_toArray, List.set_cons_zero, List.set_cons_succ]
            refine AnyT.one (i := 7) (o := _) rfl (by kernel_rfl) (fun K hK => ?_)
            go_simp
            refine (reach_Blow O w.heap.size (blowR rm gs ms) p0 p1 t0 t1 w0 w1' _ (HSM.out O _ fO (HX.out.later hA).hull) HFM.out).mono ?_
            rintro e w7 ⟨rfl, hb6⟩
            rw [HEM.out]
            try replace nb6 := nb6.later hb6
            try replace nb7 := nb7.later hb6
            try replace fO := cell_later hb6 fO
            replace hA := two hA hb6
            go_wp2_with fail
            refine hK.out _ _ (fun _ => hA) ?_
            clear hK K hb6
            try simp only [Act.put, List.setIfInBounds_toArray, List.set_cons_zero, List.set_cons_succ]
            refine AnyT.take (i := 8) (oi := _) (v := ?_) rfl (by kernel_rfl) (by kernel_rfl) (by kernel_rfl) (by kernel_rfl) (fun _ _ _ h => h) (Or.inl ⟨by kernel_rfl, ?_⟩) (by assumption) ?_
            rotate_left 1
            · intro wz hSw; skip; go_simp; try with_reducible rfl
            try simp only [Act.put, List.setIfInBounds_toArray, List.set_cons_zero, List.set_cons_succ]
            refine AnyT.take (i := 9) (oi := _) (v := ?_) rfl (by kernel_rfl) (by kernel_rfl) (by kernel_rfl) (by kernel_rfl) (fun _ _ _ h => h) (Or.inl ⟨by kernel_rfl, ?_⟩) (by assumption) ?_
            rotate_left 1
            · intro wz hSw; skip; go_simp; try with_reducible rfl
            try simp only [Act.put, List.setIfInBounds_toArray, List.set_cons_zero, List.set_cons_succ]
            refine AnyT.take (i := 10) (oi := _) (v := ?_) rfl (by kernel_rfl) (by kernel_rfl) (by kernel_rfl) (by kernel_rfl) (fun _ _ _ h => h) (Or.inl ⟨by kernel_rfl, ?_⟩) (by assumption) ?_
            rotate_left 1
            · intro wz hSw; skip; go_simp; try with_reducible rfl
            try simp only [Act.put, List.setIfInBounds_toArray, List.set_cons_zero, List.set_cons_succ]
            obtain ⟨x0, x1, xf0, xf1⟩ := nb6
            obtain ⟨y0, y1, yf0, yf1⟩ := nb7
            have hne1 : B6 ≠ B7 := by omega
            have hne2 : B7 ≠ B6 := by omega
            refine AnyT.one (i := 13) (o := _) rfl (by kernel_rfl) (fun K hK => ?_)
            go_simp
            refine hK.out _ _ (fun _ => by go_grown) ?_
            clear hK K
            try simp only [Act.put, List.setIfInBounds_toArray, List.set_cons_zero, List.set_cons_succ]
            refine AnyT.one (i := 14) (o := _) rfl (by kernel_rfl) (fun K hK => ?_)
            go_simp
            refine hK.out _ _ (fun h => absurd rfl h) ?_
            clear hK K
            refine AnyT.done (by kernel_rfl) ?_
            try simp only [Act.put, List.setIfInBounds_toArray, List.set_cons_zero, List.set_cons_succ]
            go_wp2_with fail
            go_meet
            case rel => exact ⟨⟨B6, B7, rfl, rfl, hBW.trans (Below.mono (by go_grown : Below W.heap.size W _) hBW.size), HX.out.later (by go_grown), ⟨by go_cell, by go_cell⟩, ⟨by go_cell, by go_cell⟩⟩, B5, rfl, HT.out.later (by go_grown)⟩
        · skip
          refine AnyT.step (o := _) rfl (fun K hK => ?_)
          go_simp
          obtain ⟨w9, B6, e9, f9, hA9, hb9, nb6, ge6⟩ := box_new (t := 127) hA
          try have hne : B7 < B6 := (by have h0 := nb7.lt; omega)
          rw [e9, f9]
          clear e9 f9 hA
          have hA := hA9
          clear hA9
          try replace nb7 := nb7.later hb9
          try replace fO := cell_later hb9 fO
          clear hb9
          refine hK.out _ _ (fun _ => hA) ?_
          clear hK K
          try simp only [Act.put, List.setIfInBounds_toArray, List.set_cons_zero, List.set_cons_succ]
          refine AnyT.one (i := 3) (o := _) rfl (by kernel_rfl) (fun K hK => ?_)
          go_simp
          refine (blow1f_any w.heap.size ms _).mono ?_
          rintro e w6 ⟨O, rfl, gO, hb6⟩
          have fO := gO
          clear gO
          try replace nb6 := nb6.later hb6
          try replace nb7 := nb7.later hb6
          try replace fO := cell_later hb6 fO
          replace hA := two hA hb6
          go_wp2_with fail
          refine hK.out _ _ (fun _ => hA) ?_
          clear hK K hb6
          try simp only [Act.put, List.setIfInBounds_toArray, List.set_cons_zero, List.set_cons_succ]
          refine AnyT.one (i := 7) (o := _) rfl (by kernel_rfl) (fun K hK => ?_)
          go_simp
          refine (reach_Blow O w.heap.size (blowR rm gs ms) p0 p1 t0 t1 w0 w1' _ (HSM.out O _ fO (HX.out.later hA).hull) HFM.out).mono ?_
          rintro e w7 ⟨rfl, hb6⟩
          rw [HEM.out]
          try replace nb6 := nb6.later hb6
          try replace nb7 := nb7.later hb6
          try replace fO := cell_later hb6 fO
          replace hA := two hA hb6
          go_wp2_with fail
          refine hK.out _ _ (fun _ => hA) ?_
          clear hK K hb6
          try simp only [Act.put, List.setIfInBounds_toArray, List.set_cons_zero, List.set_cons_succ]
          refine AnyT.take (i := 8) (oi := _) (v := ?_) rfl (by kernel_rfl) (by kernel_rfl) (by kernel_rfl) (by kernel_rfl) (fun _ _ _ h => h) (Or.inl ⟨by kernel_rfl, ?_⟩) (by assumption) ?_
          rotate_left 1
          · intro wz hSw; skip; go_simp; try with_reducible rfl
          try simp only [Act.put, List.setIfInBounds_toArray, List.set_cons_zero, List.set_cons_succ]
          refine AnyT.take (i := 9) (oi := _) (v := ?_) rfl (by kernel_rfl) (by kernel_rfl) (by kernel_rfl) (by kernel_rfl) (fun _ _ _ h => h) (Or.inl ⟨by kernel_rfl, ?_⟩) (by assumption) ?_
          rotate_left 1
          · intro wz hSw; skip; go_simp; try with_reducible rfl
          try simp only [Act.put, List.setIfInBounds_toArray, List.set_cons_zero, List.set_cons_succ]
          refine AnyT.take (i := 10) (oi := _) (v := ?_) rfl (by kernel_rfl) (by kernel_rfl) (by kernel_rfl) (by kernel_rfl) (fun _ _ _ h => h) (Or.inl ⟨by kernel_rfl, ?_⟩) (by assumption) ?_
          rotate_left 1
          · intro wz hSw; skip; go_simp; try with_reducible rfl
          try simp only [Act.put, List.setIfInBounds_toArray, List.set_cons_zero, List.set_cons_succ]
          obtain ⟨x0, x1, xf0, xf1⟩ := nb6
          obtain ⟨y0, y1, yf0, yf1⟩ := nb7
          have hne1 : B6 ≠ B7 := by omega
          have hne2 : B7 ≠ B6 := by omega
          refine AnyT.one (i := 13) (o := _) rfl (by kernel_rfl) (fun K hK => ?_)
          go_simp
          refine hK.out _ _ (fun _ => by go_grown) ?_
          clear hK K
          try simp only [Act.put, List.setIfInBounds_toArray, List.set_cons_zero, List.set_cons_succ]
          refine AnyT.one (i := 14) (o := _) rfl (by kernel_rfl) (fun K hK => ?_)
          go_simp
          refine hK.out _ _ (fun h => absurd rfl h) ?_
          clear hK K
          refine AnyT.done (by kernel_rfl) ?_
          try simp only [Act.put, List.setIfInBounds_toArray, List.set_cons_zero, List.set_cons_succ]
          go_wp2_with fail
          go_meet
          case rel => exact ⟨⟨B6, B7, rfl, rfl, hBW.trans (Below.mono (by go_grown : Below W.heap.size W _) hBW.size), HX.out.later (by go_grown), ⟨by go_cell, by go_cell⟩, ⟨by go_cell, by go_cell⟩⟩, B5, rfl, HT.out.later (by go_grown)⟩
    case rest =>
      obtain ⟨⟨B8, B9, rfl, rfl, hBV, hX8, hm, _⟩, B7, hB7, hk⟩ := hcut
      injection hB7 with hB7
      injection hB7 with hB7
      injection hB7 with hB7
      subst hB7
      generalize wc = V at *
      have bg' := hX8.hull.c5
      have HR := Lib.hid hX8.res
      obtain ⟨m0, m1⟩ := hm
      obtain ⟨n0, n1⟩ := hk
      clear hX8 HX HT hBW
      go_wp2_with fail
      refine (inwards_any k3 k4 z1 z2 _ HI.out.1.1 HI.out.1.2 HFK.out HI.out.2.1 HI.out.2.2 HFZ.out).mono ?_
      rintro e w3 ⟨rfl, hb3⟩
      rw [HLo.out, HHi.out]
      have hB3 : Below w.heap.size w w3 := hBV.trans (hb3.mono hBV.size)
      have bg3 := cell_later hb3 bg'
      have hr3 := HR.out.later hb3
      obtain ⟨y0, y1, yf0, yf1⟩ := hr3
      have q1 := World.block_lt_of_cell? _ _ y0
      have q2 := World.block_lt_of_cell? _ _ bg3
      clear hb3 hBV m0 m1 n0 n1 bg' HR
      go_wp2_with fail
      exact bodyPost_ret (v := sp (max lo 0) (min hi bg)) (by simp [results, Try.results93, go_sem, *]) rfl ⟨rfl, by go_grown⟩
end Go.Proofs.Ytpedmjjkhcigkaa
