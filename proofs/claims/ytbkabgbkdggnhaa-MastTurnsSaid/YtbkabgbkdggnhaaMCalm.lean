/- Package mast: isCalm, cmp.Or, Cross and Calm. -/
import Derived.Test.YtbkabgbkdggnhaaMCross
namespace Go.Proofs.Ytbkabgbkdggnhaa
open Go.RowKit

theorem span_hi (x y : Int) (w : World) : Sem.run Try.prog (Instr.field 23 (sp x y) 1) w = .ok (.int .i64 y) w := by
  simp [Instr.field, go_sem, asAgg]
set_option maxRecDepth 100000 in
set_option maxHeartbeats 1000000 in
theorem isCalm_any (a b c d x y m : Int) (w : World) (hw : windB a b c d = true) (hx : axisB x y = true) (hm : 0 ≤ m) :
    Calls Try.prog 52 #[wd a b c d, sp x y, .int .i64 m] w fun e w' => e = .returned (.bool (calmB a b c d x y m)) ∧ Below w.heap.size w w' := by
  have HW := Lib.hid hw
  have HX := Lib.hid hx
  have HM := Lib.hid hm
  clear hw hx hm
  have hfs := span_hi
  go_enter Try.func52, Try.ntmps52
  go_wp2_with fail
  refine (crosswinds_any a b c d x y _ HW.out HX.out).mono ?_
  rintro e w1 ⟨⟨r, s, rfl, hp, hs⟩, hb1⟩
  have hB1 : Below w.heap.size w w1 := (after (w := w) (by go_grown) hb1).1
  have hq : 0 ≤ lon x y := by have := (lon_bd HX.out).1; omega
  have HS := Lib.hid (hp.2.most hq HM.out)
  clear hb1 hp hs hq
  go_wp2_with fail
  go_returns
  exact ⟨ret_bool (by unfold calmB; exact decide_eq_decide.2 HS.out), by go_grown⟩

/-- cmp.Or's loop: the first k numbers are 0. -/
def OrHead (x y : Int) (v8 : Value) : Prop := v8 = .int .i64 0 ∨ (x = 0 ∧ v8 = .int .i64 1) ∨ (x = 0 ∧ y = 0 ∧ v8 = .int .i64 2)
set_option maxHeartbeats 1000000 in
theorem or_any (B : Nat) (x y : Int) (w : World) (h0 : w.cell? ⟨B, 0, none⟩ = some (.int .i64 x)) (h1 : w.cell? ⟨B, 1, none⟩ = some (.int .i64 y)) :
    Calls Try.prog 44 #[.slice (some ⟨B, 0, none⟩) 2 2] w fun e w' => e = .returned (.int .i64 (if x = 0 then y else x)) ∧ w = w' := by
  obtain ⟨z, hz⟩ : ∃ z, (if x = 0 then y else x) = z := ⟨_, rfl⟩
  rw [hz]
  have HZ := Lib.hid hz
  clear hz
  go_enter Try.func44, Try.ntmps44
  go_wp2_with fail
  go_loop [8] (fun v8 => OrHead x y v8) (fun v8 => (2 - intOf v8).toNat)
  case atStart => exact .inl rfl
  case round =>
    rcases hrel with rfl | ⟨hx, rfl⟩ | ⟨hx, hy, rfl⟩
    · by_cases hx : x = 0
      · have HX := Lib.hid hx
        subst hx
        go_wp2_with fail
        go_round
        case rel => exact .inr (.inl ⟨HX.out, rfl⟩)
        case measure => simp [intOf]
      · have HX := Lib.hid hx
        go_wp2_with fail
        go_returns
        exact ⟨ret_int (by rw [← HZ.out, if_neg HX.out]), rfl⟩
    · by_cases hy : y = 0
      · have HX := Lib.hid hx
        have HY := Lib.hid hy
        subst hy
        go_wp2_with fail
        go_round
        case rel => exact .inr (.inr ⟨HX.out, HY.out, rfl⟩)
        case measure => simp [intOf]
      · have HX := Lib.hid hx
        have HY := Lib.hid hy
        clear hx
        go_wp2_with fail
        go_returns
        exact ⟨ret_int (by rw [← HZ.out, if_pos HX.out]), rfl⟩
    · have HX := Lib.hid hx
      have HY := Lib.hid hy
      clear hx hy
      go_wp2_with fail
      go_returns
      exact ⟨ret_int (by rw [← HZ.out, if_pos HX.out, HY.out]), rfl⟩

/-- What Cross returns. -/
def CrossOut (a b c d x y : Int) (e : Ending) : Prop :=
  (windB a b c d = false ∧ e = .returned (.tuple #[sp 0 0, .int .i64 71])) ∨ (windB a b c d = true ∧ axisB x y = false ∧ e = .returned (.tuple #[sp 0 0, .int .i64 70])) ∨
  (windB a b c d = true ∧ axisB x y = true ∧ ∃ r s, e = .returned (.tuple #[sp r s, .int .i64 0]) ∧ CrossP a b c d x y r s)
theorem CrossOut.uniq {a b c d x y : Int} {e e' : Ending} (h : CrossOut a b c d x y e) (h' : CrossOut a b c d x y e') : e = e' := by
  rcases h with ⟨p, rfl⟩ | ⟨p, q, rfl⟩ | ⟨p, q, r, s, rfl, u, v⟩ <;> rcases h' with ⟨p', rfl⟩ | ⟨p', q', rfl⟩ | ⟨p', q', r', s', rfl, u', v'⟩
  · rfl
  · rw [p] at p'; cases p'
  · rw [p] at p'; cases p'
  · rw [p] at p'; cases p'
  · rfl
  · rw [q] at q'; cases q'
  · rw [p] at p'; cases p'
  · rw [q] at q'; cases q'
  · have hq : 0 ≤ lon x y := by have := (lon_bd q).1; omega
    rw [u.uniq hq u', v.uniq hq v']
theorem CrossOut.spi {a b c d x y : Int} {e : Ending} (h : CrossOut a b c d x y e) : ∃ r s n, e = .returned (.tuple #[sp r s, .int .i64 n]) := by
  rcases h with ⟨_, rfl⟩ | ⟨_, _, rfl⟩ | ⟨_, _, r, s, rfl, _⟩
  · exact ⟨_, _, _, rfl⟩
  · exact ⟨_, _, _, rfl⟩
  · exact ⟨_, _, _, rfl⟩
/-- What Calm returns. -/
def calmR (a b c d x y m : Int) : Bool × Int := if windB a b c d then (if axisB x y then (if inB m 0 2000 then (calmB a b c d x y m, 0) else (false, 2)) else (false, 70)) else (false, 71)
theorem ret_bi {k : IntKind} {u u' : Bool} {n n' : Int} (h1 : u = u') (h2 : n = n') : Ending.returned (.tuple #[.bool u, .int k n]) = .returned (.tuple #[.bool u', .int k n']) := by rw [h1, h2]
/-- The first error of a wind and an axis. -/
def errN (a b c d x y : Int) : Int := if windB a b c d then (if axisB x y then 0 else 70) else 71
theorem or_wind {a b c d x y : Int} : (if windN a b c d = 0 then axisN x y else windN a b c d) = errN a b c d x y := by
  unfold windN axisN errN
  cases windB a b c d <;> cases axisB x y <;> rfl
theorem errN_w {a b c d x y : Int} (h : windB a b c d = false) : errN a b c d x y = 71 := by unfold errN; rw [h]; rfl
theorem errN_a {a b c d x y : Int} (h : windB a b c d = true) (h2 : axisB x y = false) : errN a b c d x y = 70 := by unfold errN; rw [h, h2]; rfl
theorem errN_o {a b c d x y : Int} (h : windB a b c d = true) (h2 : axisB x y = true) : errN a b c d x y = 0 := by unfold errN; rw [h, h2]; rfl

set_option linter.unusedSimpArgs false in
set_option maxRecDepth 100000 in
set_option maxHeartbeats 4000000 in
theorem cross_any (a b c d x y : Int) (w : World) :
    Calls Try.prog 9 #[wd a b c d, sp x y] w fun e w' => CrossOut a b c d x y e ∧ Below w.heap.size w w' := by
  go_enter Try.func9, Try.ntmps9
  go_wp2_with fail
  obtain ⟨W, hW⟩ : ∃ W, ((w.alloc (.cells #[.int .i64 a, .int .i64 b, .int .i64 c, .int .i64 d] 25)).alloc (.cells #[.int .i64 x, .int .i64 y] 27)).alloc (.cells #[.int .i64 0, .int .i64 0] 23) = W := ⟨_, rfl⟩
  have hF : Four W w.heap.size a b c d ∧ Two2 W (w.heap.size + 1) x y := by subst hW; exact ⟨⟨by go_cell, by go_cell, by go_cell, by go_cell⟩, by go_cell, by go_cell⟩
  have hN : NewBox W (w.heap.size + 1 + 1) := by subst hW; exact ⟨by go_cell, by go_cell, by go_cell, by go_cell⟩
  have hBW : Below w.heap.size w W := by subst hW; go_grown
  rw [hW]
  have HF := Lib.hid hF
  have HN := Lib.hid hN
  clear hW hF hN
  have hA : Below W.heap.size W W.drew := below_drewN (Below.refl _ _) 1
  refine AnyT.begin (fun w' => Below W.heap.size W w') 6 (by kernel_rfl) hA (fun hHeld => ?_)
  generalize World.drew W = wd at hA hHeld ⊢
  refine AnyT.take (i := 0) (oi := _) (v := ?_) rfl (by kernel_rfl) (by kernel_rfl) (by kernel_rfl) (by kernel_rfl) (fun _ _ _ h => h) (Or.inl ⟨by kernel_rfl, ?_⟩) (by assumption) ?_
  rotate_left 1
  · intro wz hSw; (have h1 := (HF.out.1.later hSw).c0; have h2 := (HF.out.1.later hSw).c1; have h3 := (HF.out.1.later hSw).c2; have h4 := (HF.out.1.later hSw).c3); go_simp; try with_reducible rfl
  try simp only [Act.put, List.setIfInBounds_toArray, List.set_cons_zero, List.set_cons_succ]
  refine AnyT.take (i := 2) (oi := _) (v := ?_) rfl (by kernel_rfl) (by kernel_rfl) (by kernel_rfl) (by kernel_rfl) (fun _ _ _ h => h) (Or.inl ⟨by kernel_rfl, ?_⟩) (by assumption) ?_
  rotate_left 1
  · intro wz hSw; (have h1 := (HF.out.2.later hSw).c0; have h2 := (HF.out.2.later hSw).c1); go_simp; try with_reducible rfl
  try simp only [Act.put, List.setIfInBounds_toArray, List.set_cons_zero, List.set_cons_succ]
  clear hHeld
  refine AnyT.one (i := 1) (o := _) rfl (by kernel_rfl) (fun K hK => ?_)
  go_simp
  refine (checkWind_any a b c d _).mono ?_
  rintro e w6 ⟨rfl, hb6⟩
  replace hA := two hA hb6
  go_wp2_with fail
  refine hK.out _ _ (fun _ => hA) ?_
  clear hK K hb6
  try simp only [Act.put, List.setIfInBounds_toArray, List.set_cons_zero, List.set_cons_succ]
  refine AnyT.one (i := 3) (o := _) rfl (by kernel_rfl) (fun K hK => ?_)
  go_simp
  refine (checkAxis_any x y _).mono ?_
  rintro e w6 ⟨rfl, hb6⟩
  replace hA := two hA hb6
  go_wp2_with fail
  refine hK.out _ _ (fun _ => hA) ?_
  clear hK K hb6
  try simp only [Act.put, List.setIfInBounds_toArray, List.set_cons_zero, List.set_cons_succ]
  refine AnyT.one (i := 4) (o := _) rfl (by kernel_rfl) (fun K hK => ?_)
  go_simp
  refine hK.out _ _ (fun _ => hA.alloc hA.size _) ?_
  clear hK K
  try simp only [Act.put, List.setIfInBounds_toArray, List.set_cons_zero, List.set_cons_succ]
  refine AnyT.one (i := 5) (o := _) rfl (by kernel_rfl) (fun K hK => ?_)
  go_simp
  refine (or_any _ (windN a b c d) (axisN x y) _ (by go_cell) (by go_cell)).mono ?_
  rintro e w6 ⟨rfl, rfl⟩
  rw [or_wind]
  go_wp2_with fail
  refine hK.out _ _ (fun _ => hA.alloc hA.size _) ?_
  clear hK K
  try simp only [Act.put, List.setIfInBounds_toArray, List.set_cons_zero, List.set_cons_succ]
  refine AnyT.one (i := 6) (o := _) rfl (by kernel_rfl) (fun K hK => ?_)
  go_simp
  refine hK.out _ _ (fun h => absurd rfl h) ?_
  clear hK K
  refine AnyT.done (by kernel_rfl) ?_
  try simp only [Act.put, List.setIfInBounds_toArray, List.set_cons_zero, List.set_cons_succ]
  have hA2 := hA.alloc hA.size (Obj.cells #[.int .i64 (windN a b c d), .int .i64 (axisN x y)] 28)
  obtain ⟨V, hV⟩ : ∃ V, w6.alloc (Obj.cells #[.int .i64 (windN a b c d), .int .i64 (axisN x y)] 28) = V := ⟨_, rfl⟩
  rw [hV] at hA2 ⊢
  clear hV hA
  have hB : Below w.heap.size w V := hBW.trans (hA2.mono hBW.size)
  have hF := HF.out.1.later hA2
  have hG := HF.out.2.later hA2
  obtain ⟨y0, y1, yf0, yf1⟩ := HN.out.later hA2
  have q1 := World.block_lt_of_cell? _ _ y0
  clear hBW hA2
  cases hw : windB a b c d
  · rw [errN_w hw]
    have HW := Lib.hid hw
    clear hw hF hG
    go_wp2_with fail
    exact bodyPost_ret (v := .tuple #[sp 0 0, .int .i64 71]) (by simp [results, Try.results9, go_sem, *]) rfl ⟨.inl ⟨HW.out, rfl⟩, by go_grown⟩
  cases hx : axisB x y
  · rw [errN_a hw hx]
    have HW := Lib.hid hw
    have HX := Lib.hid hx
    clear hw hx hF hG
    go_wp2_with fail
    exact bodyPost_ret (v := .tuple #[sp 0 0, .int .i64 70]) (by simp [results, Try.results9, go_sem, *]) rfl ⟨.inr (.inl ⟨HW.out, HX.out, rfl⟩), by go_grown⟩
  rw [errN_o hw hx]
  have HW := Lib.hid hw
  have HX := Lib.hid hx
  clear hw hx
  obtain ⟨z0, z1, z2, z3⟩ := hF
  obtain ⟨z4, z5⟩ := hG
  go_wp2_with fail
  refine (crosswinds_any a b c d x y _ HW.out HX.out).mono ?_
  rintro e w1 ⟨⟨r, s, rfl, hp, hs⟩, hb1⟩
  have HP := Lib.hid hp
  have hB1 : Below w.heap.size w w1 := hB.trans (hb1.mono hB.size)
  obtain ⟨x0, x1, xf0, xf1⟩ := (show NewBox V _ from ⟨y0, y1, yf0, yf1⟩).later hb1
  have q2 := World.block_lt_of_cell? _ _ x0
  clear hb1 hp hs hB y0 y1 yf0 yf1 z0 z1 z2 z3 z4 z5 q1
  go_wp2_with fail
  exact bodyPost_ret (v := .tuple #[sp r s, .int .i64 0]) (by simp [results, Try.results9, go_sem, *]) rfl ⟨.inr (.inr ⟨HW.out, HX.out, r, s, rfl, HP.out⟩), by go_grown⟩

set_option linter.unusedSimpArgs false in
set_option maxRecDepth 100000 in
set_option maxHeartbeats 4000000 in
theorem calm_any (a b c d x y m : Int) (w : World) :
    Calls Try.prog 11 #[wd a b c d, sp x y, .int .i64 m] w fun e w' => e = .returned (.tuple #[.bool (calmR a b c d x y m).1, .int .i64 (calmR a b c d x y m).2]) ∧ Below w.heap.size w w' := by
  go_enter Try.func11, Try.ntmps11
  go_wp2_with fail
  obtain ⟨W, hW⟩ : ∃ W, (w.alloc (.cells #[.int .i64 a, .int .i64 b, .int .i64 c, .int .i64 d] 25)).alloc (.cells #[.int .i64 x, .int .i64 y] 27) = W := ⟨_, rfl⟩
  have hF : Four W w.heap.size a b c d ∧ Two2 W (w.heap.size + 1) x y := by subst hW; exact ⟨⟨by go_cell, by go_cell, by go_cell, by go_cell⟩, by go_cell, by go_cell⟩
  have hBW : Below w.heap.size w W := by subst hW; go_grown
  rw [hW]
  have HF := Lib.hid hF
  clear hW hF
  have hA : Below W.heap.size W W.drew := below_drewN (Below.refl _ _) 1
  refine AnyT.begin (fun w' => Below W.heap.size W w') 6 (by kernel_rfl) hA (fun hHeld => ?_)
  generalize World.drew W = wd at hA hHeld ⊢
  refine AnyT.take (i := 0) (oi := _) (v := ?_) rfl (by kernel_rfl) (by kernel_rfl) (by kernel_rfl) (by kernel_rfl) (fun _ _ _ h => h) (Or.inl ⟨by kernel_rfl, ?_⟩) (by assumption) ?_
  rotate_left 1
  · intro wz hSw; (have h1 := (HF.out.1.later hSw).c0; have h2 := (HF.out.1.later hSw).c1; have h3 := (HF.out.1.later hSw).c2; have h4 := (HF.out.1.later hSw).c3); go_simp; try with_reducible rfl
  try simp only [Act.put, List.setIfInBounds_toArray, List.set_cons_zero, List.set_cons_succ]
  refine AnyT.take (i := 2) (oi := _) (v := ?_) rfl (by kernel_rfl) (by kernel_rfl) (by kernel_rfl) (by kernel_rfl) (fun _ _ _ h => h) (Or.inl ⟨by kernel_rfl, ?_⟩) (by assumption) ?_
  rotate_left 1
  · intro wz hSw; (have h1 := (HF.out.2.later hSw).c0; have h2 := (HF.out.2.later hSw).c1); go_simp; try with_reducible rfl
  try simp only [Act.put, List.setIfInBounds_toArray, List.set_cons_zero, List.set_cons_succ]
  clear hHeld
  refine AnyT.one (i := 1) (o := _) rfl (by kernel_rfl) (fun K hK => ?_)
  go_simp
  refine (checkWind_any a b c d _).mono ?_
  rintro e w6 ⟨rfl, hb6⟩
  replace hA := two hA hb6
  go_wp2_with fail
  refine hK.out _ _ (fun _ => hA) ?_
  clear hK K hb6
  try simp only [Act.put, List.setIfInBounds_toArray, List.set_cons_zero, List.set_cons_succ]
  refine AnyT.one (i := 3) (o := _) rfl (by kernel_rfl) (fun K hK => ?_)
  go_simp
  refine (checkAxis_any x y _).mono ?_
  rintro e w6 ⟨rfl, hb6⟩
  replace hA := two hA hb6
  go_wp2_with fail
  refine hK.out _ _ (fun _ => hA) ?_
  clear hK K hb6
  try simp only [Act.put, List.setIfInBounds_toArray, List.set_cons_zero, List.set_cons_succ]
  refine AnyT.one (i := 4) (o := _) rfl (by kernel_rfl) (fun K hK => ?_)
  go_simp
  refine hK.out _ _ (fun _ => hA.alloc hA.size _) ?_
  clear hK K
  try simp only [Act.put, List.setIfInBounds_toArray, List.set_cons_zero, List.set_cons_succ]
  refine AnyT.one (i := 5) (o := _) rfl (by kernel_rfl) (fun K hK => ?_)
  go_simp
  refine (or_any _ (windN a b c d) (axisN x y) _ (by go_cell) (by go_cell)).mono ?_
  rintro e w6 ⟨rfl, rfl⟩
  rw [or_wind]
  go_wp2_with fail
  refine hK.out _ _ (fun _ => hA.alloc hA.size _) ?_
  clear hK K
  try simp only [Act.put, List.setIfInBounds_toArray, List.set_cons_zero, List.set_cons_succ]
  refine AnyT.one (i := 6) (o := _) rfl (by kernel_rfl) (fun K hK => ?_)
  go_simp
  refine hK.out _ _ (fun h => absurd rfl h) ?_
  clear hK K
  refine AnyT.done (by kernel_rfl) ?_
  try simp only [Act.put, List.setIfInBounds_toArray, List.set_cons_zero, List.set_cons_succ]
  have hA2 := hA.alloc hA.size (Obj.cells #[.int .i64 (windN a b c d), .int .i64 (axisN x y)] 28)
  obtain ⟨V, hV⟩ : ∃ V, w6.alloc (Obj.cells #[.int .i64 (windN a b c d), .int .i64 (axisN x y)] 28) = V := ⟨_, rfl⟩
  rw [hV] at hA2 ⊢
  clear hV hA
  have hB : Below w.heap.size w V := hBW.trans (hA2.mono hBW.size)
  have HF2 := Lib.hid (And.intro (HF.out.1.later hA2) (HF.out.2.later hA2))
  clear hBW hA2 HF
  cases hw : windB a b c d
  · rw [errN_w hw]
    have HW := Lib.hid hw
    clear hw
    go_wp2_with fail
    go_returns
    exact ⟨ret_bi (by simp [calmR, HW.out]) (by simp [calmR, HW.out]), by go_grown⟩
  cases hx : axisB x y
  · rw [errN_a hw hx]
    have HW := Lib.hid hw
    have HX := Lib.hid hx
    clear hw hx
    go_wp2_with fail
    go_returns
    exact ⟨ret_bi (by simp [calmR, HW.out, HX.out]) (by simp [calmR, HW.out, HX.out]), by go_grown⟩
  rw [errN_o hw hx]
  have HW := Lib.hid hw
  have HX := Lib.hid hx
  clear hw hx
  go_wp2_with fail
  refine (isCross_any m _).mono ?_
  rintro e w1 ⟨rfl, hb1⟩
  have hB1 : Below w.heap.size w w1 := hB.trans (hb1.mono hB.size)
  obtain ⟨⟨z0, z1, z2, z3⟩, z4, z5⟩ := And.intro (HF2.out.1.later hb1) (HF2.out.2.later hb1)
  have q1 := World.block_lt_of_cell? _ _ z4
  clear hb1 hB HF2
  cases hm : inB m 0 2000
  · have HM := Lib.hid hm
    clear hm
    go_wp2_with fail
    go_returns
    exact ⟨ret_bi (by simp [calmR, HW.out, HX.out, HM.out]) (by simp [calmR, HW.out, HX.out, HM.out]), by go_grown⟩
  have HM := Lib.hid hm
  have hm0 : 0 ≤ m := by simp [inB] at hm; omega
  clear hm
  go_wp2_with fail
  refine (isCalm_any a b c d x y m _ HW.out HX.out hm0).mono ?_
  rintro e w2 ⟨rfl, hb2⟩
  have hB2 : Below w.heap.size w w2 := hB1.trans (hb2.mono hB1.size)
  clear hb2 hB1 z0 z1 z2 z3 z4 z5 q1
  obtain ⟨u, hu⟩ : ∃ u, calmB a b c d x y m = u := ⟨_, rfl⟩
  rw [hu]
  have HU := Lib.hid hu
  clear hu
  go_wp2_with fail
  go_returns
  exact ⟨ret_bi (by simp [calmR, HW.out, HX.out, HM.out, HU.out]) (by simp [calmR, HW.out, HX.out, HM.out]), by go_grown⟩
end Go.Proofs.Ytbkabgbkdggnhaa
