/- Package air: Along. -/
import Derived.Test.YtflgdckeinappaaSpSpeed2
namespace Go.Proofs.Ytflgdckeinappaa
open Go.RowKit

/-- A box for a span. -/
structure SX (n : Nat) (w : World) (x y : Int) : Prop where
  c0 : w.cell? ⟨n, 0, none⟩ = some (.int .i64 x)
  c1 : w.cell? ⟨n, 1, none⟩ = some (.int .i64 y)
theorem SX.later {n : Nat} {w w1 : World} {x y : Int} (k : SX n w x y) (hb : Below w.heap.size w w1) : SX n w1 x y := ⟨cell_later hb k.c0, cell_later hb k.c1⟩
theorem SX.set {n m o : Nat} {w : World} {x y : Int} {v : Value} (k : SX n w x y) (h : m ≠ n) : SX n (w.setCell ⟨m, o, none⟩ v) x y := by
  have F : ∀ i z, w.cell? ⟨n, i, none⟩ = some z → (w.setCell ⟨m, o, none⟩ v).cell? ⟨n, i, none⟩ = some z := fun i z e => by
    rw [World.cell?_setCell_other _ _ _ _ (by simp <;> omega)]; exact e
  exact ⟨F _ _ k.c0, F _ _ k.c1⟩

/-- Whether a way is one. -/
def wayB (dx dy : Int) : Bool := decide ((-10000 ≤ dx ∧ dx ≤ 10000) ∧ (-10000 ≤ dy ∧ dy ≤ 10000) ∧ ¬ (dx = 0 ∧ dy = 0))
theorem wayB_yes {dx dy : Int} (h : wayB dx dy = true) : (-10000 ≤ dx ∧ dx ≤ 10000) ∧ (-10000 ≤ dy ∧ dy ≤ 10000) ∧ ¬ (dx = 0 ∧ dy = 0) := of_decide_eq_true h
theorem alN_yes {a b c d dx dy : Int} (h : blowN a b c d = 0) (k : wayB dx dy = true) : alN a b c d dx dy = 0 := by unfold alN; rw [if_pos h, if_pos (wayB_yes k)]
theorem alN_no {a b c d dx dy : Int} (h : blowN a b c d = 0) (k : wayB dx dy = false) : alN a b c d dx dy = 2 := by
  unfold alN
  rw [if_pos h, if_neg (fun hw => by unfold wayB at k; rw [decide_eq_true hw] at k; cases k)]
theorem alN_bad {a b c d dx dy : Int} (h : blowN a b c d ≠ 0) : alN a b c d dx dy = blowN a b c d := by unfold alN; rw [if_neg h]
/-- Behind the test of the way. -/
def WayC (w wr : World) (v : Value) (dx dy : Int) : Prop := v = .bool (!wayB dx dy) ∧ Below w.heap.size w wr
theorem mul_one {a b d : Int} (h1 : a ≤ b) (ha : -2000 ≤ a) (hb : b ≤ 2000) (hd0 : -10000 ≤ d) (hd1 : d ≤ 10000) :
    mulE a b d d = .returned (.tuple #[sp (min (a * d) (b * d)) (max (a * d) (b * d)), .int .i64 0]) := by
  have h := lo4_lim (a := a) (b := b) (c := d) (d := d) ha (by omega) (by omega) hb hd0 hd1 hd0 hd1
  have := mulE_small (a := a) (b := b) (c := d) (d := d) (validB_yes h1 (by omega) (by omega)) (validB_yes (by omega) (by omega) (by omega)) (by omega) (by omega)
  rwa [lo4_one, hi4_one] at this
theorem add_any2 {a b c d : Int} (h2 : a ≤ b) (h5 : c ≤ d) (h1 : -20000000 ≤ a) (h3 : b ≤ 20000000) (h4 : -20000000 ≤ c) (h6 : d ≤ 20000000) :
    if2 a b c d (fitE (a + c) (b + d)) = .returned (.tuple #[sp (a + c) (b + d), .int .i64 0]) := by
  rw [if2_yes (by rw [allValid2, validB_yes h2 (by omega) (by omega), validB_yes h5 (by omega) (by omega)]; rfl)]
  exact fitE_yes (by unfold fitB; simp; omega)

set_option maxRecDepth 100000 in
theorem span_lo (x y : Int) (w : World) : Sem.run Try.prog (Instr.field 23 (sp x y) 0) w = .ok (.int .i64 x) w := by
  simp [Instr.field, go_sem, asAgg]
set_option maxRecDepth 100000 in
theorem span_hi (x y : Int) (w : World) : Sem.run Try.prog (Instr.field 23 (sp x y) 1) w = .ok (.int .i64 y) w := by
  simp [Instr.field, go_sem, asAgg]
set_option linter.unusedSimpArgs false in
set_option maxHeartbeats 4000000 in
set_option maxRecDepth 100000 in
theorem along_any (a b c d dx dy : Int) (w : World) :
    Calls Try.prog 45 #[wd a b c d, .int .i64 dx, .int .i64 dy] w fun e w' => AlP a b c d dx dy e ∧ Below w.heap.size w w' := by
  go_enter Try.func45, Try.ntmps45
  go_wp2_with fail
  refine (checkWind_any a b c d _).mono ?_
  rintro e w1 ⟨rfl, hb1⟩
  have hB1 : Below w.heap.size w w1 := (after (w := w) (by go_grown) hb1).1
  have HX := Lib.hid ((wx_box w a b c d (.int .i64 0) (.int .i64 0) 55 23).later hb1)
  have HR := Lib.hid ((bx_box w (.int .i64 a) (.int .i64 b) (.int .i64 c) (.int .i64 d) 55 23).later hb1)
  clear hb1
  rcases blowN_cases a b c d with h0 | h0 | h0
  · have H0 := Lib.hid h0
    rw [h0]
    clear h0
    go_upto_region 4 with fail
    go_cut [39] from 22 to 81 (fun v39 wr => WayC w1 wr v39 dx dy)
    case first =>
      go_wp2_with fail
      refine (inOrder3 _ (-10000) dx 10000 _ (by go_cell) (by go_cell) (by go_cell)).mono ?_
      rintro e w2 ⟨rfl, hb2⟩
      have hB2 : Below w1.heap.size w1 w2 := (after (w := w1) (by go_grown) hb2).1
      have hs2 := hB2.size
      clear hb2
      by_cases hx : -10000 ≤ dx ∧ dx ≤ 10000
      · rw [show decide (-10000 ≤ dx ∧ dx ≤ 10000) = true by simpa using hx]
        go_wp2_with fail
        refine (inOrder3 _ (-10000) dy 10000 _ (by go_cell) (by go_cell) (by go_cell)).mono ?_
        rintro e w3 ⟨rfl, hb3⟩
        have hB3 : Below w1.heap.size w1 w3 := (after (w := w1) (by go_grown) hb3).1
        clear hb3 hB2
        by_cases hy : -10000 ≤ dy ∧ dy ≤ 10000
        · rw [show decide (-10000 ≤ dy ∧ dy ≤ 10000) = true by simpa using hy]
          by_cases h1 : dx = 0
          · by_cases h2 : dy = 0
            · have HW : Hid (wayB dx dy = false) := Lib.hid (decide_eq_false (fun h => h.2.2 ⟨h1, h2⟩))
              subst h1 h2
              go_wp2_with fail
              go_meet
              case rel => exact ⟨by rw [HW.out]; rfl, by go_grown⟩
            · have HW : Hid (wayB dx dy = true) := Lib.hid (decide_eq_true ⟨hx, hy, fun h => h2 h.2⟩)
              subst h1
              go_wp2_with fail
              go_meet
              case rel => exact ⟨by rw [HW.out]; simp [h2], by go_grown⟩
          ·
            have HW : Hid (wayB dx dy = true) := Lib.hid (decide_eq_true ⟨hx, hy, fun h => h1 h.1⟩)
            clear hx
            go_wp2_with fail
            go_meet
            case rel => exact ⟨by rw [HW.out]; rfl, by go_grown⟩
        · rw [show decide (-10000 ≤ dy ∧ dy ≤ 10000) = false by simpa using hy]
          have HW : Hid (wayB dx dy = false) := Lib.hid (decide_eq_false (fun h => hy h.2.1))
          clear hx
          go_wp2_with fail
          go_meet
          case rel => exact ⟨by rw [HW.out]; rfl, by go_grown⟩
      · rw [show decide (-10000 ≤ dx ∧ dx ≤ 10000) = false by simpa using hx]
        have HW : Hid (wayB dx dy = false) := Lib.hid (decide_eq_false (fun h => hx h.1))
        clear hx
        go_wp2_with fail
        go_meet
        case rel => exact ⟨by rw [HW.out]; rfl, by go_grown⟩
    case rest =>
      obtain ⟨rfl, hb2⟩ := hcut
      generalize wc = wr at *
      have hB2 := hB1.trans (hb2.mono hB1.size)
      replace HX := Lib.hid (HX.out.later hb2)
      replace HR := Lib.hid (HR.out.later hb2)
      clear hB1 hb2
      obtain ⟨u, hu⟩ : ∃ u, wayB dx dy = u := ⟨_, rfl⟩
      rw [hu]
      cases u
      · have HP : Hid (AlP a b c d dx dy (.returned (.tuple #[sp 0 0, .int .i64 2]))) := Lib.hid (.inl ⟨by rw [alN_no H0.out hu]; omega, by rw [alN_no H0.out hu]⟩)
        clear hu
        obtain ⟨r0, r1, rf0, rf1, rl⟩ := HR.out
        go_wp2_with fail
        exact bodyPost_ret (v := .tuple #[sp 0 0, .int .i64 2]) (by simp [results, Try.results45, go_sem, *]) rfl ⟨HP.out, by go_grown⟩
      · obtain ⟨⟨dx0, dx1⟩, ⟨dy0, dy1⟩, hn⟩ := wayB_yes hu
        have HP : Hid (∀ u v : Int, PLo (low a b c d dx dy) (dx * dx + dy * dy) u → PLo (-high a b c d dx dy) (dx * dx + dy * dy) (-v) → AlP a b c d dx dy (.returned (.tuple #[sp u v, .int .i64 0]))) :=
          Lib.hid (fun u v h k => .inr ⟨alN_yes H0.out hu, u, v, rfl, h, k⟩)
        obtain ⟨⟨q0, q1, q2, q3, q4⟩, ⟨l0, l1, l2, l3, l4⟩, l5, l6⟩ := along_facts H0.out dx0 dx1 dy0 dy1 hn
        obtain ⟨⟨h1, h2, h3⟩, h4, h5, h6⟩ := blowN_zero H0.out
        have p1 := mul_lim (x := a) (d := dx) (by omega) (by omega) dx0 dx1
        have p2 := mul_lim (x := b) (d := dx) (by omega) (by omega) dx0 dx1
        have p3 := mul_lim (x := c) (d := dy) (by omega) (by omega) dy0 dy1
        have p4 := mul_lim (x := d) (d := dy) (by omega) (by omega) dy0 dy1
        have hm1 := mul_one h1 h2 h3 dx0 dx1
        have hm2 := mul_one h4 h5 h6 dy0 dy1
        have el : low a b c d dx dy = min (a * dx) (b * dx) + min (c * dy) (d * dy) := rfl
        have eh : high a b c d dx dy = max (a * dx) (b * dx) + max (c * dy) (d * dy) := rfl
        obtain ⟨L, hL⟩ : ∃ L, low a b c d dx dy = L := ⟨_, rfl⟩
        obtain ⟨H, hH⟩ : ∃ H, high a b c d dx dy = H := ⟨_, rfl⟩
        rw [hL] at el l0 l1 l4 l5 HP
        rw [hH] at eh l2 l3 l4 l6 HP
        obtain ⟨A, hA'⟩ : ∃ A, min (a * dx) (b * dx) = A := ⟨_, rfl⟩
        obtain ⟨A', hA''⟩ : ∃ A', max (a * dx) (b * dx) = A' := ⟨_, rfl⟩
        obtain ⟨C, hC'⟩ : ∃ C, min (c * dy) (d * dy) = C := ⟨_, rfl⟩
        obtain ⟨C', hC''⟩ : ∃ C', max (c * dy) (d * dy) = C' := ⟨_, rfl⟩
        have t1 : A ≤ A' ∧ C ≤ C' ∧ -20000000 ≤ A ∧ A' ≤ 20000000 ∧ -20000000 ≤ C ∧ C' ≤ 20000000 := by omega
        rw [hA', hA''] at hm1
        rw [hC', hC''] at hm2
        rw [hA', hC'] at el
        rw [hA'', hC''] at eh
        obtain ⟨t1, t2, t3, t4, t5, t6⟩ := t1
        have had : if2 A A' C C' (fitE (A + C) (A' + C')) = .returned (.tuple #[sp L H, .int .i64 0]) := by rw [add_any2 t1 t2 t3 t4 t5 t6, ← el, ← eh]
        obtain ⟨XX, hXX⟩ : ∃ XX, dx * dx = XX := ⟨_, rfl⟩
        obtain ⟨YY, hYY⟩ : ∃ YY, dy * dy = YY := ⟨_, rfl⟩
        rw [hXX, hYY] at q0 l5 l6 HP
        rw [hXX] at q1 q3
        rw [hYY] at q2 q4
        have g1 : IntKind.i64.wrap XX = XX := IntWalk.i64_in _ ⟨by omega, by omega⟩
        have g2 : IntKind.i64.wrap YY = YY := IntWalk.i64_in _ ⟨by omega, by omega⟩
        have g3 : IntKind.i64.wrap (XX + YY) = XX + YY := IntWalk.i64_in _ ⟨by omega, by omega⟩
        have HM1 := Lib.hid hm1
        have HM2 := Lib.hid hm2
        have HAdd := Lib.hid had
        have HXX := Lib.hid hXX
        have HYY := Lib.hid hYY
        clear hm1 hm2 had hA' hA'' hC' hC'' hL hH p1 p2 p3 p4 el eh hn hu hXX hYY
        have HL5 := Lib.hid l5
        have HL6 := Lib.hid l6
        clear l5 l6
        go_wp2_with fail
        go_cut [9, 10] from 41 to 81 (fun v9 v10 wy => SpC wr wy v9 v10 A A')
        case first =>
          clear dx0 dx1 dy0 dy1 h1 h2 h3 h4 h5 h6 l0 l1 l2 l3 l4 q0 q1 q2 q3 q4 t1 t2 t3 t4 t5 t6 g1 g2 g3 HP HL5 HL6 HAdd HR HXX HYY
          obtain ⟨x0, x1, x2, x3⟩ := HX.out
          have hA : Below wr.heap.size wr wr.drew := below_drewN (Below.refl _ _) 1
          refine AnyT.begin (fun w' => Below wr.heap.size wr w') 10 (by kernel_rfl) hA (fun hHeld => ?_)
          generalize World.drew wr = wd1 at hA hHeld ⊢
          clear x0 x1 x2 x3
          refine AnyT.take (i := 0) (oi := _) (v := ?_) rfl (by kernel_rfl) (by kernel_rfl) (by kernel_rfl) (by kernel_rfl) (fun _ _ _ h => h) (Or.inl ⟨by rfl, ?_⟩) (by assumption) ?_
          rotate_left 1
          · intro wz hSw; obtain ⟨_, _, _, _⟩ := HX.out.later hSw; go_simp; try with_reducible rfl
          try simp only [Act.put, List.setIfInBounds_toArray, List.set_cons_zero, List.set_cons_succ]
          refine AnyT.take (i := 1) (oi := _) (v := ?_) rfl (by kernel_rfl) (by kernel_rfl) (by kernel_rfl) (by kernel_rfl) (fun _ _ _ h => h) (Or.inl ⟨by rfl, ?_⟩) (by assumption) ?_
          rotate_left 1
          · intro wz hSw; obtain ⟨_, _, _, _⟩ := HX.out.later hSw; go_simp; try with_reducible rfl
          try simp only [Act.put, List.setIfInBounds_toArray, List.set_cons_zero, List.set_cons_succ]
          refine AnyT.take (i := 2) (oi := _) (v := ?_) rfl (by kernel_rfl) (by kernel_rfl) (by kernel_rfl) (by kernel_rfl) (fun _ _ _ h => h) (Or.inl ⟨by rfl, ?_⟩) (by assumption) ?_
          rotate_left 1
          · intro wz hSw; skip; go_simp; try with_reducible rfl
          try simp only [Act.put, List.setIfInBounds_toArray, List.set_cons_zero, List.set_cons_succ]
          clear hHeld
          refine AnyT.some [3, 8] (by kernel_rfl) (by simp) (fun i hi => ?_)
          simp only [List.mem_cons, List.not_mem_nil, or_false] at hi
          rcases hi with rfl | rfl
          · skip
            refine AnyT.step (o := _) rfl (fun K hK => ?_)
            go_simp
            refine (only_any dx _).mono ?_
            rintro e w6 ⟨rfl, hb6⟩
            try replace x0 := cell_later hb6 x0
            try replace x1 := cell_later hb6 x1
            try replace xf0 := ((bcell hb6).2 _ 0 sz).trans xf0
            try replace xf1 := ((bcell hb6).2 _ 1 sz).trans xf1
            try replace sz := Nat.lt_of_lt_of_le sz hb6.size
            replace hA := two hA hb6
            go_wp2_with fail
            refine hK.out _ _ (fun _ => hA) ?_
            clear hK K hb6
            try simp only [Act.put, List.setIfInBounds_toArray, List.set_cons_zero, List.set_cons_succ]
            refine AnyT.some [4, 8] (by kernel_rfl) (by simp) (fun i hi => ?_)
            simp only [List.mem_cons, List.not_mem_nil, or_false] at hi
            rcases hi with rfl | rfl
            · skip
              refine AnyT.step (o := _) rfl (fun K hK => ?_)
              go_simp
              refine (mul_is a b dx dx _).mono ?_
              rintro e w7 ⟨rfl, hb6⟩
              rw [HM1.out]
              try replace x0 := cell_later hb6 x0
              try replace x1 := cell_later hb6 x1
              try replace xf0 := ((bcell hb6).2 _ 0 sz).trans xf0
              try replace xf1 := ((bcell hb6).2 _ 1 sz).trans xf1
              try replace sz := Nat.lt_of_lt_of_le sz hb6.size
              replace hA := two hA hb6
              go_wp2_with fail
              refine hK.out _ _ (fun _ => hA) ?_
              clear hK K hb6
              try simp only [Act.put, List.setIfInBounds_toArray, List.set_cons_zero, List.set_cons_succ]
              refine AnyT.take (i := 5) (oi := _) (v := ?_) rfl (by kernel_rfl) (by kernel_rfl) (by kernel_rfl) (by kernel_rfl) (fun _ _ _ h => h) (Or.inl ⟨by rfl, ?_⟩) (by assumption) ?_
              rotate_left 1
              · intro wz hSw; skip; go_simp; try with_reducible rfl
              try simp only [Act.put, List.setIfInBounds_toArray, List.set_cons_zero, List.set_cons_succ]
              refine AnyT.take (i := 6) (oi := _) (v := ?_) rfl (by kernel_rfl) (by kernel_rfl) (by kernel_rfl) (by kernel_rfl) (fun _ _ _ h => h) (Or.inl ⟨by rfl, ?_⟩) (by assumption) ?_
              rotate_left 1
              · intro wz hSw; skip; go_simp; try with_reducible rfl
              try simp only [Act.put, List.setIfInBounds_toArray, List.set_cons_zero, List.set_cons_succ]
              refine AnyT.take (i := 7) (oi := _) (v := ?_) rfl (by kernel_rfl) (by kernel_rfl) (by kernel_rfl) (by kernel_rfl) (fun _ _ _ h => h) (Or.inl ⟨by rfl, ?_⟩) (by assumption) ?_
              rotate_left 1
              · intro wz hSw; skip; go_simp; try with_reducible rfl
              try simp only [Act.put, List.setIfInBounds_toArray, List.set_cons_zero, List.set_cons_succ]
              refine AnyT.one (i := 8) (o := _) rfl (by kernel_rfl) (fun K hK => ?_)
              go_simp
              obtain ⟨w9, B, e9, f9, hA9, x0, x1, xf0, xf1, sz, ge⟩ := box_step (o0 := .int .i64 0) (o1 := .int .i64 0) (t := 23) hA
              rw [e9, f9]
              clear e9 f9 hA
              have hA := hA9
              clear hA9
              refine hK.out _ _ (fun _ => hA) ?_
              clear hK K
              try simp only [Act.put, List.setIfInBounds_toArray, List.set_cons_zero, List.set_cons_succ]
              refine AnyT.one (i := 9) (o := _) rfl (by kernel_rfl) (fun K hK => ?_)
              go_simp
              refine hK.out _ _ (fun _ => by go_grown) ?_
              clear hK K
              try simp only [Act.put, List.setIfInBounds_toArray, List.set_cons_zero, List.set_cons_succ]
              refine AnyT.one (i := 10) (o := _) rfl (by kernel_rfl) (fun K hK => ?_)
              go_simp
              refine hK.out _ _ (fun h => absurd rfl h) ?_
              clear hK K
              refine AnyT.done (by kernel_rfl) ?_
              try simp only [Act.put, List.setIfInBounds_toArray, List.set_cons_zero, List.set_cons_succ]
              go_wp2_with fail
              go_meet
              case rel => exact ⟨B, rfl, rfl, by go_grown, by go_cell, by go_cell⟩
            · skip
              refine AnyT.step (o := _) rfl (fun K hK => ?_)
              go_simp
              obtain ⟨w9, B, e9, f9, hA9, x0, x1, xf0, xf1, sz, ge⟩ := box_step (o0 := .int .i64 0) (o1 := .int .i64 0) (t := 23) hA
              rw [e9, f9]
              clear e9 f9 hA
              have hA := hA9
              clear hA9
              refine hK.out _ _ (fun _ => hA) ?_
              clear hK K
              try simp only [Act.put, List.setIfInBounds_toArray, List.set_cons_zero, List.set_cons_succ]
              refine AnyT.one (i := 4) (o := _) rfl (by kernel_rfl) (fun K hK => ?_)
              go_simp
              refine (mul_is a b dx dx _).mono ?_
              rintro e w7 ⟨rfl, hb6⟩
              rw [HM1.out]
              try replace x0 := cell_later hb6 x0
              try replace x1 := cell_later hb6 x1
              try replace xf0 := ((bcell hb6).2 _ 0 sz).trans xf0
              try replace xf1 := ((bcell hb6).2 _ 1 sz).trans xf1
              try replace sz := Nat.lt_of_lt_of_le sz hb6.size
              replace hA := two hA hb6
              go_wp2_with fail
              refine hK.out _ _ (fun _ => hA) ?_
              clear hK K hb6
              try simp only [Act.put, List.setIfInBounds_toArray, List.set_cons_zero, List.set_cons_succ]
              refine AnyT.take (i := 5) (oi := _) (v := ?_) rfl (by kernel_rfl) (by kernel_rfl) (by kernel_rfl) (by kernel_rfl) (fun _ _ _ h => h) (Or.inl ⟨by rfl, ?_⟩) (by assumption) ?_
              rotate_left 1
              · intro wz hSw; skip; go_simp; try with_reducible rfl
              try simp only [Act.put, List.setIfInBounds_toArray, List.set_cons_zero, List.set_cons_succ]
              refine AnyT.take (i := 6) (oi := _) (v := ?_) rfl (by kernel_rfl) (by kernel_rfl) (by kernel_rfl) (by kernel_rfl) (fun _ _ _ h => h) (Or.inl ⟨by rfl, ?_⟩) (by assumption) ?_
              rotate_left 1
              · intro wz hSw; skip; go_simp; try with_reducible rfl
              try simp only [Act.put, List.setIfInBounds_toArray, List.set_cons_zero, List.set_cons_succ]
              refine AnyT.take (i := 7) (oi := _) (v := ?_) rfl (by kernel_rfl) (by kernel_rfl) (by kernel_rfl) (by kernel_rfl) (fun _ _ _ h => h) (Or.inl ⟨by rfl, ?_⟩) (by assumption) ?_
              rotate_left 1
              · intro wz hSw; skip; go_simp; try with_reducible rfl
              try simp only [Act.put, List.setIfInBounds_toArray, List.set_cons_zero, List.set_cons_succ]
              refine AnyT.one (i := 9) (o := _) rfl (by kernel_rfl) (fun K hK => ?_)
              go_simp
              refine hK.out _ _ (fun _ => by go_grown) ?_
              clear hK K
              try simp only [Act.put, List.setIfInBounds_toArray, List.set_cons_zero, List.set_cons_succ]
              refine AnyT.one (i := 10) (o := _) rfl (by kernel_rfl) (fun K hK => ?_)
              go_simp
              refine hK.out _ _ (fun h => absurd rfl h) ?_
              clear hK K
              refine AnyT.done (by kernel_rfl) ?_
              try simp only [Act.put, List.setIfInBounds_toArray, List.set_cons_zero, List.set_cons_succ]
              go_wp2_with fail
              go_meet
              case rel => exact ⟨B, rfl, rfl, by go_grown, by go_cell, by go_cell⟩
          · skip
            refine AnyT.step (o := _) rfl (fun K hK => ?_)
            go_simp
            obtain ⟨w9, B, e9, f9, hA9, x0, x1, xf0, xf1, sz, ge⟩ := box_step (o0 := .int .i64 0) (o1 := .int .i64 0) (t := 23) hA
            rw [e9, f9]
            clear e9 f9 hA
            have hA := hA9
            clear hA9
            refine hK.out _ _ (fun _ => hA) ?_
            clear hK K
            try simp only [Act.put, List.setIfInBounds_toArray, List.set_cons_zero, List.set_cons_succ]
            refine AnyT.one (i := 3) (o := _) rfl (by kernel_rfl) (fun K hK => ?_)
            go_simp
            refine (only_any dx _).mono ?_
            rintro e w6 ⟨rfl, hb6⟩
            try replace x0 := cell_later hb6 x0
            try replace x1 := cell_later hb6 x1
            try replace xf0 := ((bcell hb6).2 _ 0 sz).trans xf0
            try replace xf1 := ((bcell hb6).2 _ 1 sz).trans xf1
            try replace sz := Nat.lt_of_lt_of_le sz hb6.size
            replace hA := two hA hb6
            go_wp2_with fail
            refine hK.out _ _ (fun _ => hA) ?_
            clear hK K hb6
            try simp only [Act.put, List.setIfInBounds_toArray, List.set_cons_zero, List.set_cons_succ]
            refine AnyT.one (i := 4) (o := _) rfl (by kernel_rfl) (fun K hK => ?_)
            go_simp
            refine (mul_is a b dx dx _).mono ?_
            rintro e w7 ⟨rfl, hb6⟩
            rw [HM1.out]
            try replace x0 := cell_later hb6 x0
            try replace x1 := cell_later hb6 x1
            try replace xf0 := ((bcell hb6).2 _ 0 sz).trans xf0
            try replace xf1 := ((bcell hb6).2 _ 1 sz).trans xf1
            try replace sz := Nat.lt_of_lt_of_le sz hb6.size
            replace hA := two hA hb6
            go_wp2_with fail
            refine hK.out _ _ (fun _ => hA) ?_
            clear hK K hb6
            try simp only [Act.put, List.setIfInBounds_toArray, List.set_cons_zero, List.set_cons_succ]
            refine AnyT.take (i := 5) (oi := _) (v := ?_) rfl (by kernel_rfl) (by kernel_rfl) (by kernel_rfl) (by kernel_rfl) (fun _ _ _ h => h) (Or.inl ⟨by rfl, ?_⟩) (by assumption) ?_
            rotate_left 1
            · intro wz hSw; skip; go_simp; try with_reducible rfl
            try simp only [Act.put, List.setIfInBounds_toArray, List.set_cons_zero, List.set_cons_succ]
            refine AnyT.take (i := 6) (oi := _) (v := ?_) rfl (by kernel_rfl) (by kernel_rfl) (by kernel_rfl) (by kernel_rfl) (fun _ _ _ h => h) (Or.inl ⟨by rfl, ?_⟩) (by assumption) ?_
            rotate_left 1
            · intro wz hSw; skip; go_simp; try with_reducible rfl
            try simp only [Act.put, List.setIfInBounds_toArray, List.set_cons_zero, List.set_cons_succ]
            refine AnyT.take (i := 7) (oi := _) (v := ?_) rfl (by kernel_rfl) (by kernel_rfl) (by kernel_rfl) (by kernel_rfl) (fun _ _ _ h => h) (Or.inl ⟨by rfl, ?_⟩) (by assumption) ?_
            rotate_left 1
            · intro wz hSw; skip; go_simp; try with_reducible rfl
            try simp only [Act.put, List.setIfInBounds_toArray, List.set_cons_zero, List.set_cons_succ]
            refine AnyT.one (i := 9) (o := _) rfl (by kernel_rfl) (fun K hK => ?_)
            go_simp
            refine hK.out _ _ (fun _ => by go_grown) ?_
            clear hK K
            try simp only [Act.put, List.setIfInBounds_toArray, List.set_cons_zero, List.set_cons_succ]
            refine AnyT.one (i := 10) (o := _) rfl (by kernel_rfl) (fun K hK => ?_)
            go_simp
            refine hK.out _ _ (fun h => absurd rfl h) ?_
            clear hK K
            refine AnyT.done (by kernel_rfl) ?_
            try simp only [Act.put, List.setIfInBounds_toArray, List.set_cons_zero, List.set_cons_succ]
            go_wp2_with fail
            go_meet
            case rel => exact ⟨B, rfl, rfl, by go_grown, by go_cell, by go_cell⟩
        case rest =>
          obtain ⟨B9, rfl, rfl, hb3, s0, s1⟩ := hcut
          have hB3 := hB2.trans (hb3.mono hB2.size)
          replace HX := Lib.hid (HX.out.later hb3)
          replace HR := Lib.hid (HR.out.later hb3)
          have HS := Lib.hid (SX.mk s0 s1)
          clear hB2 hb3 s0 s1
          generalize wc = wr at *
          go_wp2_with fail
          go_cut [11, 12] from 41 to 81 (fun v11 v12 wy => SpC wr wy v11 v12 C C')
          case first =>
            clear dx0 dx1 dy0 dy1 h1 h2 h3 h4 h5 h6 l0 l1 l2 l3 l4 q0 q1 q2 q3 q4 t1 t2 t3 t4 t5 t6 g1 g2 g3 HP HL5 HL6 HAdd HR HXX HYY
            obtain ⟨x0, x1, x2, x3⟩ := HX.out
            have hA : Below wr.heap.size wr wr.drew := below_drewN (Below.refl _ _) 1
            refine AnyT.begin (fun w' => Below wr.heap.size wr w') 10 (by kernel_rfl) hA (fun hHeld => ?_)
            generalize World.drew wr = wd1 at hA hHeld ⊢
            clear x0 x1 x2 x3
            refine AnyT.take (i := 0) (oi := _) (v := ?_) rfl (by kernel_rfl) (by kernel_rfl) (by kernel_rfl) (by kernel_rfl) (fun _ _ _ h => h) (Or.inl ⟨by rfl, ?_⟩) (by assumption) ?_
            rotate_left 1
            · intro wz hSw; obtain ⟨_, _, _, _⟩ := HX.out.later hSw; go_simp; try with_reducible rfl
            try simp only [Act.put, List.setIfInBounds_toArray, List.set_cons_zero, List.set_cons_succ]
            refine AnyT.take (i := 1) (oi := _) (v := ?_) rfl (by kernel_rfl) (by kernel_rfl) (by kernel_rfl) (by kernel_rfl) (fun _ _ _ h => h) (Or.inl ⟨by rfl, ?_⟩) (by assumption) ?_
            rotate_left 1
            · intro wz hSw; obtain ⟨_, _, _, _⟩ := HX.out.later hSw; go_simp; try with_reducible rfl
            try simp only [Act.put, List.setIfInBounds_toArray, List.set_cons_zero, List.set_cons_succ]
            refine AnyT.take (i := 2) (oi := _) (v := ?_) rfl (by kernel_rfl) (by kernel_rfl) (by kernel_rfl) (by kernel_rfl) (fun _ _ _ h => h) (Or.inl ⟨by rfl, ?_⟩) (by assumption) ?_
            rotate_left 1
            · intro wz hSw; skip; go_simp; try with_reducible rfl
            try simp only [Act.put, List.setIfInBounds_toArray, List.set_cons_zero, List.set_cons_succ]
            clear hHeld
            refine AnyT.some [3, 8] (by kernel_rfl) (by simp) (fun i hi => ?_)
            simp only [List.mem_cons, List.not_mem_nil, or_false] at hi
            rcases hi with rfl | rfl
            · skip
              refine AnyT.step (o := _) rfl (fun K hK => ?_)
              go_simp
              refine (only_any dy _).mono ?_
              rintro e w6 ⟨rfl, hb6⟩
              try replace x0 := cell_later hb6 x0
              try replace x1 := cell_later hb6 x1
              try replace xf0 := ((bcell hb6).2 _ 0 sz).trans xf0
              try replace xf1 := ((bcell hb6).2 _ 1 sz).trans xf1
              try replace sz := Nat.lt_of_lt_of_le sz hb6.size
              replace hA := two hA hb6
              go_wp2_with fail
              refine hK.out _ _ (fun _ => hA) ?_
              clear hK K hb6
              try simp only [Act.put, List.setIfInBounds_toArray, List.set_cons_zero, List.set_cons_succ]
              refine AnyT.some [4, 8] (by kernel_rfl) (by simp) (fun i hi => ?_)
              simp only [List.mem_cons, List.not_mem_nil, or_false] at hi
              rcases hi with rfl | rfl
              · skip
                refine AnyT.step (o := _) rfl (fun K hK => ?_)
                go_simp
                refine (mul_is c d dy dy _).mono ?_
                rintro e w7 ⟨rfl, hb6⟩
                rw [HM2.out]
                try replace x0 := cell_later hb6 x0
                try replace x1 := cell_later hb6 x1
                try replace xf0 := ((bcell hb6).2 _ 0 sz).trans xf0
                try replace xf1 := ((bcell hb6).2 _ 1 sz).trans xf1
                try replace sz := Nat.lt_of_lt_of_le sz hb6.size
                replace hA := two hA hb6
                go_wp2_with fail
                refine hK.out _ _ (fun _ => hA) ?_
                clear hK K hb6
                try simp only [Act.put, List.setIfInBounds_toArray, List.set_cons_zero, List.set_cons_succ]
                refine AnyT.take (i := 5) (oi := _) (v := ?_) rfl (by kernel_rfl) (by kernel_rfl) (by kernel_rfl) (by kernel_rfl) (fun _ _ _ h => h) (Or.inl ⟨by rfl, ?_⟩) (by assumption) ?_
                rotate_left 1
                · intro wz hSw; skip; go_simp; try with_reducible rfl
                try simp only [Act.put, List.setIfInBounds_toArray, List.set_cons_zero, List.set_cons_succ]
                refine AnyT.take (i := 6) (oi := _) (v := ?_) rfl (by kernel_rfl) (by kernel_rfl) (by kernel_rfl) (by kernel_rfl) (fun _ _ _ h => h) (Or.inl ⟨by rfl, ?_⟩) (by assumption) ?_
                rotate_left 1
                · intro wz hSw; skip; go_simp; try with_reducible rfl
                try simp only [Act.put, List.setIfInBounds_toArray, List.set_cons_zero, List.set_cons_succ]
                refine AnyT.take (i := 7) (oi := _) (v := ?_) rfl (by kernel_rfl) (by kernel_rfl) (by kernel_rfl) (by kernel_rfl) (fun _ _ _ h => h) (Or.inl ⟨by rfl, ?_⟩) (by assumption) ?_
                rotate_left 1
                · intro wz hSw; skip; go_simp; try with_reducible rfl
                try simp only [Act.put, List.setIfInBounds_toArray, List.set_cons_zero, List.set_cons_succ]
                refine AnyT.one (i := 8) (o := _) rfl (by kernel_rfl) (fun K hK => ?_)
                go_simp
                obtain ⟨w9, B, e9, f9, hA9, x0, x1, xf0, xf1, sz, ge⟩ := box_step (o0 := .int .i64 0) (o1 := .int .i64 0) (t := 23) hA
                rw [e9, f9]
                clear e9 f9 hA
                have hA := hA9
                clear hA9
                refine hK.out _ _ (fun _ => hA) ?_
                clear hK K
                try simp only [Act.put, List.setIfInBounds_toArray, List.set_cons_zero, List.set_cons_succ]
                refine AnyT.one (i := 9) (o := _) rfl (by kernel_rfl) (fun K hK => ?_)
                go_simp
                refine hK.out _ _ (fun _ => by go_grown) ?_
                clear hK K
                try simp only [Act.put, List.setIfInBounds_toArray, List.set_cons_zero, List.set_cons_succ]
                refine AnyT.one (i := 10) (o := _) rfl (by kernel_rfl) (fun K hK => ?_)
                go_simp
                refine hK.out _ _ (fun h => absurd rfl h) ?_
                clear hK K
                refine AnyT.done (by kernel_rfl) ?_
                try simp only [Act.put, List.setIfInBounds_toArray, List.set_cons_zero, List.set_cons_succ]
                go_wp2_with fail
                go_meet
                case rel => exact ⟨B, rfl, rfl, by go_grown, by go_cell, by go_cell⟩
              · skip
                refine AnyT.step (o := _) rfl (fun K hK => ?_)
                go_simp
                obtain ⟨w9, B, e9, f9, hA9, x0, x1, xf0, xf1, sz, ge⟩ := box_step (o0 := .int .i64 0) (o1 := .int .i64 0) (t := 23) hA
                rw [e9, f9]
                clear e9 f9 hA
                have hA := hA9
                clear hA9
                refine hK.out _ _ (fun _ => hA) ?_
                clear hK K
                try simp only [Act.put, List.setIfInBounds_toArray, List.set_cons_zero, List.set_cons_succ]
                refine AnyT.one (i := 4) (o := _) rfl (by kernel_rfl) (fun K hK => ?_)
                go_simp
                refine (mul_is c d dy dy _).mono ?_
                rintro e w7 ⟨rfl, hb6⟩
                rw [HM2.out]
                try replace x0 := cell_later hb6 x0
                try replace x1 := cell_later hb6 x1
                try replace xf0 := ((bcell hb6).2 _ 0 sz).trans xf0
                try replace xf1 := ((bcell hb6).2 _ 1 sz).trans xf1
                try replace sz := Nat.lt_of_lt_of_le sz hb6.size
                replace hA := two hA hb6
                go_wp2_with fail
                refine hK.out _ _ (fun _ => hA) ?_
                clear hK K hb6
                try simp only [Act.put, List.setIfInBounds_toArray, List.set_cons_zero, List.set_cons_succ]
                refine AnyT.take (i := 5) (oi := _) (v := ?_) rfl (by kernel_rfl) (by kernel_rfl) (by kernel_rfl) (by kernel_rfl) (fun _ _ _ h => h) (Or.inl ⟨by rfl, ?_⟩) (by assumption) ?_
                rotate_left 1
                · intro wz hSw; skip; go_simp; try with_reducible rfl
                try simp only [Act.put, List.setIfInBounds_toArray, List.set_cons_zero, List.set_cons_succ]
                refine AnyT.take (i := 6) (oi := _) (v := ?_) rfl (by kernel_rfl) (by kernel_rfl) (by kernel_rfl) (by kernel_rfl) (fun _ _ _ h => h) (Or.inl ⟨by rfl, ?_⟩) (by assumption) ?_
                rotate_left 1
                · intro wz hSw; skip; go_simp; try with_reducible rfl
                try simp only [Act.put, List.setIfInBounds_toArray, List.set_cons_zero, List.set_cons_succ]
                refine AnyT.take (i := 7) (oi := _) (v := ?_) rfl (by kernel_rfl) (by kernel_rfl) (by kernel_rfl) (by kernel_rfl) (fun _ _ _ h => h) (Or.inl ⟨by rfl, ?_⟩) (by assumption) ?_
                rotate_left 1
                · intro wz hSw; skip; go_simp; try with_reducible rfl
                try simp only [Act.put, List.setIfInBounds_toArray, List.set_cons_zero, List.set_cons_succ]
                refine AnyT.one (i := 9) (o := _) rfl (by kernel_rfl) (fun K hK => ?_)
                go_simp
                refine hK.out _ _ (fun _ => by go_grown) ?_
                clear hK K
                try simp only [Act.put, List.setIfInBounds_toArray, List.set_cons_zero, List.set_cons_succ]
                refine AnyT.one (i := 10) (o := _) rfl (by kernel_rfl) (fun K hK => ?_)
                go_simp
                refine hK.out _ _ (fun h => absurd rfl h) ?_
                clear hK K
                refine AnyT.done (by kernel_rfl) ?_
                try simp only [Act.put, List.setIfInBounds_toArray, List.set_cons_zero, List.set_cons_succ]
                go_wp2_with fail
                go_meet
                case rel => exact ⟨B, rfl, rfl, by go_grown, by go_cell, by go_cell⟩
            · skip
              refine AnyT.step (o := _) rfl (fun K hK => ?_)
              go_simp
              obtain ⟨w9, B, e9, f9, hA9, x0, x1, xf0, xf1, sz, ge⟩ := box_step (o0 := .int .i64 0) (o1 := .int .i64 0) (t := 23) hA
              rw [e9, f9]
              clear e9 f9 hA
              have hA := hA9
              clear hA9
              refine hK.out _ _ (fun _ => hA) ?_
              clear hK K
              try simp only [Act.put, List.setIfInBounds_toArray, List.set_cons_zero, List.set_cons_succ]
              refine AnyT.one (i := 3) (o := _) rfl (by kernel_rfl) (fun K hK => ?_)
              go_simp
              refine (only_any dy _).mono ?_
              rintro e w6 ⟨rfl, hb6⟩
              try replace x0 := cell_later hb6 x0
              try replace x1 := cell_later hb6 x1
              try replace xf0 := ((bcell hb6).2 _ 0 sz).trans xf0
              try replace xf1 := ((bcell hb6).2 _ 1 sz).trans xf1
              try replace sz := Nat.lt_of_lt_of_le sz hb6.size
              replace hA := two hA hb6
              go_wp2_with fail
              refine hK.out _ _ (fun _ => hA) ?_
              clear hK K hb6
              try simp only [Act.put, List.setIfInBounds_toArray, List.set_cons_zero, List.set_cons_succ]
              refine AnyT.one (i := 4) (o := _) rfl (by kernel_rfl) (fun K hK => ?_)
              go_simp
              refine (mul_is c d dy dy _).mono ?_
              rintro e w7 ⟨rfl, hb6⟩
              rw [HM2.out]
              try replace x0 := cell_later hb6 x0
              try replace x1 := cell_later hb6 x1
              try replace xf0 := ((bcell hb6).2 _ 0 sz).trans xf0
              try replace xf1 := ((bcell hb6).2 _ 1 sz).trans xf1
              try replace sz := Nat.lt_of_lt_of_le sz hb6.size
              replace hA := two hA hb6
              go_wp2_with fail
              refine hK.out _ _ (fun _ => hA) ?_
              clear hK K hb6
              try simp only [Act.put, List.setIfInBounds_toArray, List.set_cons_zero, List.set_cons_succ]
              refine AnyT.take (i := 5) (oi := _) (v := ?_) rfl (by kernel_rfl) (by kernel_rfl) (by kernel_rfl) (by kernel_rfl) (fun _ _ _ h => h) (Or.inl ⟨by rfl, ?_⟩) (by assumption) ?_
              rotate_left 1
              · intro wz hSw; skip; go_simp; try with_reducible rfl
              try simp only [Act.put, List.setIfInBounds_toArray, List.set_cons_zero, List.set_cons_succ]
              refine AnyT.take (i := 6) (oi := _) (v := ?_) rfl (by kernel_rfl) (by kernel_rfl) (by kernel_rfl) (by kernel_rfl) (fun _ _ _ h => h) (Or.inl ⟨by rfl, ?_⟩) (by assumption) ?_
              rotate_left 1
              · intro wz hSw; skip; go_simp; try with_reducible rfl
              try simp only [Act.put, List.setIfInBounds_toArray, List.set_cons_zero, List.set_cons_succ]
              refine AnyT.take (i := 7) (oi := _) (v := ?_) rfl (by kernel_rfl) (by kernel_rfl) (by kernel_rfl) (by kernel_rfl) (fun _ _ _ h => h) (Or.inl ⟨by rfl, ?_⟩) (by assumption) ?_
              rotate_left 1
              · intro wz hSw; skip; go_simp; try with_reducible rfl
              try simp only [Act.put, List.setIfInBounds_toArray, List.set_cons_zero, List.set_cons_succ]
              refine AnyT.one (i := 9) (o := _) rfl (by kernel_rfl) (fun K hK => ?_)
              go_simp
              refine hK.out _ _ (fun _ => by go_grown) ?_
              clear hK K
              try simp only [Act.put, List.setIfInBounds_toArray, List.set_cons_zero, List.set_cons_succ]
              refine AnyT.one (i := 10) (o := _) rfl (by kernel_rfl) (fun K hK => ?_)
              go_simp
              refine hK.out _ _ (fun h => absurd rfl h) ?_
              clear hK K
              refine AnyT.done (by kernel_rfl) ?_
              try simp only [Act.put, List.setIfInBounds_toArray, List.set_cons_zero, List.set_cons_succ]
              go_wp2_with fail
              go_meet
              case rel => exact ⟨B, rfl, rfl, by go_grown, by go_cell, by go_cell⟩
          case rest =>
            obtain ⟨B11, rfl, rfl, hb4, s0, s1⟩ := hcut
            have hB4 := hB3.trans (hb4.mono hB3.size)
            replace HX := Lib.hid (HX.out.later hb4)
            replace HR := Lib.hid (HR.out.later hb4)
            obtain ⟨a0, a1⟩ := HS.out.later hb4
            clear hB3 hb4 HS
            generalize wc = wr at *
            go_wp2_with fail
            refine (add_any A A' C C' _).mono ?_
            rintro e w7 ⟨rfl, hb7⟩
            rw [HAdd.out]
            have hB7 := (after (w := w) hB4 hb7).1
            replace HR := Lib.hid (HR.out.later hb7)
            clear hB4 hb7 a0 a1 s0 s1 HX
            have hXX := HXX.out
            have hYY := HYY.out
            go_wp2_with fail
            clear hXX hYY
            obtain ⟨W, hW⟩ : ∃ W, w7.alloc (.cells #[.int .i64 L, .int .i64 H] 23) = W := ⟨_, rfl⟩
            rw [hW]
            have hs : SX w7.heap.size W L H := by subst hW; exact ⟨by go_cell, by go_cell⟩
            have hbx : Below w7.heap.size w7 W := by subst hW; exact below_box _ _
            have hBW := hB7.trans (hbx.mono hB7.size)
            have hne : w.heap.size + 1 ≠ w7.heap.size := Nat.ne_of_lt HR.out.lt
            have HR2 := Lib.hid (HR.out.later hbx)
            have HS2 := Lib.hid hs
            have hq9 : XX + YY ≤ 1099511627776 := by omega
            clear hW hs hbx hB7 HR dx0 dx1 dy0 dy1 h1 h2 h3 h4 h5 h6 q1 q2 q3 q4 t1 t2 t3 t4 t5 t6 g1 g2 g3 HXX HYY HAdd HM1 HM2
            have hA : Below W.heap.size W W.drew := below_drewN (Below.refl _ _) 1
            refine AnyT.begin (fun w' => SX w7.heap.size w' L H) 12 (by kernel_rfl) (HS2.out.later hA) (fun hHeld => ?_)
            generalize World.drew W = wd1 at hA hHeld ⊢
            refine AnyT.take (i := 0) (oi := _) (v := ?_) rfl (by kernel_rfl) (by kernel_rfl) (by kernel_rfl) (by kernel_rfl) (fun _ _ _ h => h) (Or.inl ⟨by rfl, ?_⟩) (by assumption) ?_
            rotate_left 1
            · intro wz hSw; obtain ⟨_, _⟩ := hSw; go_simp; try with_reducible rfl
            try simp only [Act.put, List.setIfInBounds_toArray, List.set_cons_zero, List.set_cons_succ]
            refine AnyT.take (i := 1) (oi := _) (v := ?_) rfl (by kernel_rfl) (by kernel_rfl) (by kernel_rfl) (by kernel_rfl) (fun _ _ _ h => h) (Or.inl ⟨by rfl, ?_⟩) (by assumption) ?_
            rotate_left 1
            · intro wz hSw; obtain ⟨_, _⟩ := hSw; go_simp; try with_reducible rfl
            try simp only [Act.put, List.setIfInBounds_toArray, List.set_cons_zero, List.set_cons_succ]
            refine AnyT.take (i := 2) (oi := _) (v := ?_) rfl (by kernel_rfl) (by kernel_rfl) (by kernel_rfl) (by kernel_rfl) (fun _ _ _ h => h) (Or.inl ⟨by rfl, ?_⟩) (by assumption) ?_
            rotate_left 1
            · intro wz hSw; skip; go_simp; try with_reducible rfl
            try simp only [Act.put, List.setIfInBounds_toArray, List.set_cons_zero, List.set_cons_succ]
            refine AnyT.take (i := 5) (oi := _) (v := ?_) rfl (by kernel_rfl) (by kernel_rfl) (by kernel_rfl) (by kernel_rfl) (fun _ _ _ h => h) (Or.inl ⟨by rfl, ?_⟩) (by assumption) ?_
            rotate_left 1
            · intro wz hSw; obtain ⟨_, _⟩ := hSw; go_simp; try with_reducible rfl
            try simp only [Act.put, List.setIfInBounds_toArray, List.set_cons_zero, List.set_cons_succ]
            refine AnyT.take (i := 6) (oi := _) (v := ?_) rfl (by kernel_rfl) (by kernel_rfl) (by kernel_rfl) (by kernel_rfl) (fun _ _ _ h => h) (Or.inl ⟨by rfl, ?_⟩) (by assumption) ?_
            rotate_left 1
            · intro wz hSw; obtain ⟨_, _⟩ := hSw; go_simp; try with_reducible rfl
            try simp only [Act.put, List.setIfInBounds_toArray, List.set_cons_zero, List.set_cons_succ]
            refine AnyT.take (i := 7) (oi := _) (v := ?_) rfl (by kernel_rfl) (by kernel_rfl) (by kernel_rfl) (by kernel_rfl) (fun _ _ _ h => h) (Or.inl ⟨by rfl, ?_⟩) (by assumption) ?_
            rotate_left 1
            · intro wz hSw; skip; go_simp; try with_reducible rfl
            try simp only [Act.put, List.setIfInBounds_toArray, List.set_cons_zero, List.set_cons_succ]
            clear hHeld
            refine AnyT.one (i := 3) (o := _) rfl (by kernel_rfl) (fun K hK => ?_)
            go_simp
            refine (perRoot_any L (XX + YY) _ l0 l1 q0 hq9 HL5.out).mono ?_
            rintro e w8 ⟨hp, hb8⟩
            obtain ⟨r, s, rfl, hr, hs⟩ := hp
            have HU := Lib.hid (PLo.hi hr hs).1
            obtain ⟨u, hu⟩ : ∃ u, (if L < 0 then -s else r) = u := ⟨_, rfl⟩
            obtain ⟨u', hu'⟩ : ∃ u, (if L < 0 then -r else s) = u := ⟨_, rfl⟩
            rw [hu] at HU
            rw [hu, hu']
            replace hA := two hA hb8
            clear hr hs hu hu' hb8
            go_wp2_with fail
            refine hK.out _ _ (fun _ => HS2.out.later hA) ?_
            clear hK K
            try simp only [Act.put, List.setIfInBounds_toArray, List.set_cons_zero, List.set_cons_succ]
            have hHeld := HS2.out.later hA
            refine AnyT.take (i := 4) (oi := _) (v := ?_) rfl (by kernel_rfl) (by kernel_rfl) (by kernel_rfl) (by kernel_rfl) (fun _ _ _ h => h) (Or.inl ⟨by rfl, ?_⟩) (by assumption) ?_
            rotate_left 1
            · intro wz hSw; have hfa := span_lo; go_simp; try with_reducible rfl
            try simp only [Act.put, List.setIfInBounds_toArray, List.set_cons_zero, List.set_cons_succ]
            refine AnyT.one (i := 8) (o := _) rfl (by kernel_rfl) (fun K hK => ?_)
            go_simp
            refine (perRoot_any H (XX + YY) _ l2 l3 q0 hq9 HL6.out).mono ?_
            rintro e w9 ⟨hp, hb9⟩
            obtain ⟨r, s, rfl, hr, hs⟩ := hp
            have HV := Lib.hid (PLo.hi hr hs).2
            obtain ⟨v, hv⟩ : ∃ v, (if H < 0 then -r else s) = v := ⟨_, rfl⟩
            obtain ⟨v', hv'⟩ : ∃ v, (if H < 0 then -s else r) = v := ⟨_, rfl⟩
            rw [hv] at HV
            rw [hv, hv']
            replace hA := two hA hb9
            clear hr hs hv hv' hb9
            go_wp2_with fail
            refine hK.out _ _ (fun _ => HS2.out.later hA) ?_
            clear hK K
            try simp only [Act.put, List.setIfInBounds_toArray, List.set_cons_zero, List.set_cons_succ]
            clear hHeld
            have hHeld := HS2.out.later hA
            refine AnyT.take (i := 9) (oi := _) (v := ?_) rfl (by kernel_rfl) (by kernel_rfl) (by kernel_rfl) (by kernel_rfl) (fun _ _ _ h => h) (Or.inl ⟨by rfl, ?_⟩) (by assumption) ?_
            rotate_left 1
            · intro wz hSw; have hfa := span_hi; go_simp; try with_reducible rfl
            try simp only [Act.put, List.setIfInBounds_toArray, List.set_cons_zero, List.set_cons_succ]
            refine AnyT.take (i := 10) (oi := _) (v := ?_) rfl (by kernel_rfl) (by kernel_rfl) (by kernel_rfl) (by kernel_rfl) (fun _ _ _ h => h) (Or.inl ⟨by rfl, ?_⟩) (by assumption) ?_
            rotate_left 1
            · intro wz hSw; skip; go_simp; try with_reducible rfl
            try simp only [Act.put, List.setIfInBounds_toArray, List.set_cons_zero, List.set_cons_succ]
            obtain ⟨r0, r1, rf0, rf1, rl⟩ := HR2.out.later hA
            have hBX := hBW.trans (hA.mono hBW.size)
            have HH := Lib.hid hHeld
            clear hHeld hA hBW
            refine AnyT.one (i := 11) (o := _) rfl (by kernel_rfl) (fun K hK => ?_)
            go_simp
            refine hK.out _ _ (fun _ => (HH.out.set hne).set hne) ?_
            clear hK K
            try simp only [Act.put, List.setIfInBounds_toArray, List.set_cons_zero, List.set_cons_succ]
            refine AnyT.one (i := 12) (o := _) rfl (by kernel_rfl) (fun K hK => ?_)
            go_simp
            refine hK.out _ _ (fun h => absurd rfl h) ?_
            clear hK K
            refine AnyT.done (by kernel_rfl) ?_
            try simp only [Act.put, List.setIfInBounds_toArray, List.set_cons_zero, List.set_cons_succ]
            go_wp2_with fail
            exact bodyPost_ret (v := .tuple #[sp u v, .int .i64 0]) (by simp [results, Try.results45, go_sem, *]) rfl ⟨HP.out u v HU.out HV.out, by go_grown⟩
  · have HP : Hid (AlP a b c d dx dy (.returned (.tuple #[sp 0 0, .int .i64 2]))) := Lib.hid (.inl ⟨by rw [alN_bad (by omega)]; omega, by rw [alN_bad (by omega), h0]⟩)
    rw [h0]
    clear h0
    obtain ⟨r0, r1, rf0, rf1, rl⟩ := HR.out
    go_wp2_with fail
    exact bodyPost_ret (v := .tuple #[sp 0 0, .int .i64 2]) (by simp [results, Try.results45, go_sem, *]) rfl ⟨HP.out, by go_grown⟩
  · have HP : Hid (AlP a b c d dx dy (.returned (.tuple #[sp 0 0, .int .i64 10]))) := Lib.hid (.inl ⟨by rw [alN_bad (by omega)]; omega, by rw [alN_bad (by omega), h0]⟩)
    rw [h0]
    clear h0
    obtain ⟨r0, r1, rf0, rf1, rl⟩ := HR.out
    go_wp2_with fail
    exact bodyPost_ret (v := .tuple #[sp 0 0, .int .i64 10]) (by simp [results, Try.results45, go_sem, *]) rfl ⟨HP.out, by go_grown⟩

end Go.Proofs.Ytflgdckeinappaa
