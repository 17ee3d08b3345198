/- Package air: Speed; the reference's Speed. -/
import Derived.Test.YtflgdckeinappaaSpRun
namespace Go.Proofs.Ytflgdckeinappaa
open Go.RowKit

/-- A box for one span, made in a region of W. -/
theorem box_step {W cur : World} {o0 o1 : Value} {t : TypeId} (hA : Below W.heap.size W cur) :
    ∃ w9 B, cur.alloc (.cells #[o0, o1] t) = w9 ∧ cur.heap.size = B ∧ Below W.heap.size W w9 ∧ w9.cell? ⟨B, 0, none⟩ = some o0 ∧ w9.cell? ⟨B, 1, none⟩ = some o1 ∧
      w9.frozen? ⟨B, 0, none⟩ = false ∧ w9.frozen? ⟨B, 1, none⟩ = false ∧ B < w9.heap.size ∧ W.heap.size ≤ B :=
  ⟨_, _, rfl, rfl, hA.alloc hA.size _, by go_cell, by go_cell, by go_cell, by go_cell, by simp, hA.size⟩
/-- A wind's box. -/
structure WX (n : Nat) (w : World) (a b c d : Int) : Prop where
  c0 : w.cell? ⟨n, 0, none⟩ = some (.int .i64 a)
  c1 : w.cell? ⟨n, 1, none⟩ = some (.int .i64 b)
  c2 : w.cell? ⟨n, 2, none⟩ = some (.int .i64 c)
  c3 : w.cell? ⟨n, 3, none⟩ = some (.int .i64 d)
theorem WX.later {n : Nat} {w w1 : World} {a b c d : Int} (k : WX n w a b c d) (hb : Below w.heap.size w w1) : WX n w1 a b c d := ⟨cell_later hb k.c0, cell_later hb k.c1, cell_later hb k.c2, cell_later hb k.c3⟩
/-- A box for a span of noughts that may be written. -/
structure BX (n : Nat) (w : World) : Prop where
  c0 : w.cell? ⟨n, 0, none⟩ = some (.int .i64 0)
  c1 : w.cell? ⟨n, 1, none⟩ = some (.int .i64 0)
  f0 : w.frozen? ⟨n, 0, none⟩ = false
  f1 : w.frozen? ⟨n, 1, none⟩ = false
  lt : n < w.heap.size
theorem BX.later {n : Nat} {w w1 : World} (k : BX n w) (hb : Below w.heap.size w w1) : BX n w1 :=
  ⟨cell_later hb k.c0, cell_later hb k.c1, ((bcell hb).2 _ 0 k.lt).trans k.f0, ((bcell hb).2 _ 1 k.lt).trans k.f1, Nat.lt_of_lt_of_le k.lt hb.size⟩

theorem blowN_cases (a b c d : Int) : blowN a b c d = 0 ∨ blowN a b c d = 2 ∨ blowN a b c d = 10 := by unfold blowN; split <;> (try split) <;> simp
theorem blowN_zero {a b c d : Int} (h : blowN a b c d = 0) : (a ≤ b ∧ -2000 ≤ a ∧ b ≤ 2000) ∧ (c ≤ d ∧ -2000 ≤ c ∧ d ≤ 2000) := by
  unfold blowN at h
  split at h
  · split at h
    · rename_i hw
      unfold windB inB at hw
      simp at hw
      omega
    · omega
  · omega
/-- What Speed returns. -/
def SpdP (a b c d : Int) (e : Ending) : Prop :=
  (blowN a b c d ≠ 0 ∧ e = .returned (.tuple #[sp 0 0, .int .i64 (blowN a b c d)])) ∨
  (blowN a b c d = 0 ∧ RootP (near a b * near a b + near c d * near c d) (far a b * far a b + far c d * far c d) e)
theorem SpdP.uniq {a b c d : Int} {e e' : Ending} (h : SpdP a b c d e) (h' : SpdP a b c d e') : e = e' := by
  rcases h with ⟨x, rfl⟩ | ⟨x, y⟩ <;> rcases h' with ⟨x', rfl⟩ | ⟨x', y'⟩
  · rfl
  · exact absurd x' x
  · exact absurd x x'
  · exact y.uniq y'
theorem RootP.spi {lo hi : Int} {e : Ending} (h : RootP lo hi e) : ∃ x y n : Int, e = .returned (.tuple #[sp x y, .int .i64 n]) := by
  rcases h with ⟨a, rfl⟩ | ⟨a, b, rfl⟩ | ⟨a, b, r, s, rfl, c, d⟩
  all_goals exact ⟨_, _, _, rfl⟩
theorem SpdP.spi {a b c d : Int} {e : Ending} (h : SpdP a b c d e) : ∃ x y n : Int, e = .returned (.tuple #[sp x y, .int .i64 n]) := by
  rcases h with ⟨x, rfl⟩ | ⟨x, y⟩
  · exact ⟨_, _, _, rfl⟩
  · exact y.spi
theorem speed_sum {a b c d : Int} (h : blowN a b c d = 0) : ∃ N1 F1 N2 F2 : Int, near a b * near a b = N1 ∧ far a b * far a b = F1 ∧ near c d * near c d = N2 ∧ far c d * far c d = F2 ∧
    0 ≤ N1 ∧ N1 ≤ F1 ∧ F1 ≤ 4000000 ∧ 0 ≤ N2 ∧ N2 ≤ F2 ∧ F2 ≤ 4000000 := by
  obtain ⟨⟨h1, h2, h3⟩, h4, h5, h6⟩ := blowN_zero h
  obtain ⟨n0, n1, n2⟩ := near_bd (m := 2000) h2 h3 h1
  obtain ⟨m0, m1, m2⟩ := near_bd (m := 2000) h5 h6 h4
  have p1 := sq_mono n0 n1
  have p2 := sq_mono (show 0 ≤ far a b by omega) n2
  have q1 := sq_mono m0 m1
  have q2 := sq_mono (show 0 ≤ far c d by omega) m2
  exact ⟨_, _, _, _, rfl, rfl, rfl, rfl, sq_nn _, p1, by omega, sq_nn _, q1, by omega⟩
theorem add_small {a b c d : Int} (h1 : 0 ≤ a) (h2 : a ≤ b) (h3 : b ≤ 100000000) (h4 : 0 ≤ c) (h5 : c ≤ d) (h6 : d ≤ 100000000) :
    if2 a b c d (fitE (a + c) (b + d)) = .returned (.tuple #[sp (a + c) (b + d), .int .i64 0]) := by
  rw [if2_yes (by rw [allValid2, validB_yes h2 (by omega) (by omega), validB_yes h5 (by omega) (by omega)]; rfl)]
  exact fitE_yes (by unfold fitB; simp; omega)

/-- Behind the region: a box with the sums. -/
def SpC (w wr : World) (v5 v6 : Value) (x y : Int) : Prop := ∃ B : Nat, v5 = .pointer (some ⟨B, 0, none⟩) ∧ v6 = .int .i64 0 ∧ Below w.heap.size w wr ∧ wr.cell? ⟨B, 0, none⟩ = some (.int .i64 x) ∧ wr.cell? ⟨B, 1, none⟩ = some (.int .i64 y)

set_option linter.unusedSimpArgs false in
set_option maxHeartbeats 2000000 in
set_option maxRecDepth 100000 in
theorem speed_any (a b c d : Int) (w : World) :
    Calls Try.prog 43 #[wd a b c d] w fun e w' => SpdP a b c d e ∧ Below w.heap.size w w' := by
  go_enter Try.func43, Try.ntmps43
  go_wp2_with fail
  refine (checkWind_any a b c d _).mono ?_
  rintro e w1 ⟨rfl, hb1⟩
  have hB1 : Below w.heap.size w w1 := (after (w := w) (by go_grown) hb1).1
  have hX : WX w.heap.size w1 a b c d := (show WX w.heap.size _ a b c d from ⟨by go_cell, by go_cell, by go_cell, by go_cell⟩ : WX w.heap.size ((w.alloc (.cells #[.int .i64 a, .int .i64 b, .int .i64 c, .int .i64 d] 55)).alloc (.cells #[.int .i64 0, .int .i64 0] 23)) a b c d).later hb1
  have hR : BX (w.heap.size + 1) w1 := (show BX (w.heap.size + 1) _ from ⟨by go_cell, by go_cell, by go_cell, by go_cell, by simp⟩ : BX (w.heap.size + 1) ((w.alloc (.cells #[.int .i64 a, .int .i64 b, .int .i64 c, .int .i64 d] 55)).alloc (.cells #[.int .i64 0, .int .i64 0] 23))).later hb1
  have HX := Lib.hid hX
  have HR := Lib.hid hR
  clear hb1
  rcases blowN_cases a b c d with h0 | h0 | h0
  · have HP : Hid (∀ e, RootP (near a b * near a b + near c d * near c d) (far a b * far a b + far c d * far c d) e → SpdP a b c d e) := Lib.hid (fun e h => .inr ⟨h0, h⟩)
    obtain ⟨⟨h1, h2, h3⟩, h4, h5, h6⟩ := blowN_zero h0
    obtain ⟨N1, F1, N2, F2, E1, E2, E3, E4, t1, t2, t3, t4, t5, t6⟩ := speed_sum h0
    rw [E1, E2, E3, E4] at HP
    have HAdd := Lib.hid (add_small (a := N1) (b := F1) (c := N2) (d := F2) t1 t2 (by omega) t4 t5 (by omega))
    rw [h0]
    clear h0
    go_wp2_with fail
    go_cut [5, 6] from 7 to 27 (fun v5 v6 wr => SpC w1 wr v5 v6 (N1 + N2) (F1 + F2))
    case first =>
      have hA : Below w1.heap.size w1 w1.drew := below_drewN (Below.refl _ _) 1
      clear hB1 hR HR hX
      refine AnyT.begin (fun w' => Below w1.heap.size w1 w') 12 (by kernel_rfl) hA (fun hHeld => ?_)
      generalize World.drew w1 = wd1 at hA hHeld ⊢
      refine AnyT.take (i := 0) (oi := _) (v := ?_) rfl (by kernel_rfl) (by kernel_rfl) (by kernel_rfl) (by kernel_rfl) (fun _ _ _ h => h) (Or.inl ⟨by rfl, ?_⟩) (by assumption) ?_
      rotate_left 1
      · intro wz hSw; obtain ⟨_, _, _, _⟩ := HX.out.later hSw; go_simp; try with_reducible rfl
      try simp only [Act.put, List.setIfInBounds_toArray, List.set_cons_zero, List.set_cons_succ]
      refine AnyT.take (i := 1) (oi := _) (v := ?_) rfl (by kernel_rfl) (by kernel_rfl) (by kernel_rfl) (by kernel_rfl) (fun _ _ _ h => h) (Or.inl ⟨by rfl, ?_⟩) (by assumption) ?_
      rotate_left 1
      · intro wz hSw; obtain ⟨_, _, _, _⟩ := HX.out.later hSw; go_simp; try with_reducible rfl
      try simp only [Act.put, List.setIfInBounds_toArray, List.set_cons_zero, List.set_cons_succ]
      refine AnyT.take (i := 3) (oi := _) (v := ?_) rfl (by kernel_rfl) (by kernel_rfl) (by kernel_rfl) (by kernel_rfl) (fun _ _ _ h => h) (Or.inl ⟨by rfl, ?_⟩) (by assumption) ?_
      rotate_left 1
      · intro wz hSw; obtain ⟨_, _, _, _⟩ := HX.out.later hSw; go_simp; try with_reducible rfl
      try simp only [Act.put, List.setIfInBounds_toArray, List.set_cons_zero, List.set_cons_succ]
      refine AnyT.take (i := 4) (oi := _) (v := ?_) rfl (by kernel_rfl) (by kernel_rfl) (by kernel_rfl) (by kernel_rfl) (fun _ _ _ h => h) (Or.inl ⟨by rfl, ?_⟩) (by assumption) ?_
      rotate_left 1
      · intro wz hSw; obtain ⟨_, _, _, _⟩ := HX.out.later hSw; go_simp; try with_reducible rfl
      try simp only [Act.put, List.setIfInBounds_toArray, List.set_cons_zero, List.set_cons_succ]
      clear hHeld
      refine AnyT.some [2, 10] (by kernel_rfl) (by simp) (fun i hi => ?_)
      simp only [List.mem_cons, List.not_mem_nil, or_false] at hi
      rcases hi with rfl | rfl
      · skip
        refine AnyT.step (o := _) rfl (fun K hK => ?_)
        go_simp
        refine (square_any a b _ (by omega) (by omega) (by omega)).mono ?_
        rintro e w6 ⟨rfl, hb6⟩
        rw [E1, E2]
        try replace x0 := cell_later hb6 x0
        try replace x1 := cell_later hb6 x1
        try replace xf0 := ((bcell hb6).2 _ 0 sz).trans xf0
        try replace xf1 := ((bcell hb6).2 _ 1 sz).trans xf1
        try replace sz := Nat.lt_of_lt_of_le sz hb6.size
        replace hA := two hA hb6
        go_wp2_with fail
        refine hK.out _ _ (fun _ => hA) ?_
        clear hK K hb6
        try simp only [Act.put, List.setIfInBounds_toArray, List.set_cons_zero, List.set_cons_succ]
        refine AnyT.some [5, 10] (by kernel_rfl) (by simp) (fun i hi => ?_)
        simp only [List.mem_cons, List.not_mem_nil, or_false] at hi
        rcases hi with rfl | rfl
        · skip
          refine AnyT.step (o := _) rfl (fun K hK => ?_)
          go_simp
          refine (square_any c d _ (by omega) (by omega) (by omega)).mono ?_
          rintro e w7 ⟨rfl, hb6⟩
          rw [E3, E4]
          try replace x0 := cell_later hb6 x0
          try replace x1 := cell_later hb6 x1
          try replace xf0 := ((bcell hb6).2 _ 0 sz).trans xf0
          try replace xf1 := ((bcell hb6).2 _ 1 sz).trans xf1
          try replace sz := Nat.lt_of_lt_of_le sz hb6.size
          replace hA := two hA hb6
          go_wp2_with fail
          refine hK.out _ _ (fun _ => hA) ?_
          clear hK K hb6
          try simp only [Act.put, List.setIfInBounds_toArray, List.set_cons_zero, List.set_cons_succ]
          refine AnyT.some [6, 10] (by kernel_rfl) (by simp) (fun i hi => ?_)
          simp only [List.mem_cons, List.not_mem_nil, or_false] at hi
          rcases hi with rfl | rfl
          · skip
            refine AnyT.step (o := _) rfl (fun K hK => ?_)
            go_simp
            refine (add_any N1 F1 N2 F2 _).mono ?_
            rintro e w8 ⟨rfl, hb6⟩
            rw [HAdd.out]
            try replace x0 := cell_later hb6 x0
            try replace x1 := cell_later hb6 x1
            try replace xf0 := ((bcell hb6).2 _ 0 sz).trans xf0
            try replace xf1 := ((bcell hb6).2 _ 1 sz).trans xf1
            try replace sz := Nat.lt_of_lt_of_le sz hb6.size
            replace hA := two hA hb6
            go_wp2_with fail
            refine hK.out _ _ (fun _ => hA) ?_
            clear hK K hb6
            try simp only [Act.put, List.setIfInBounds_toArray, List.set_cons_zero, List.set_cons_succ]
            refine AnyT.take (i := 7) (oi := _) (v := ?_) rfl (by kernel_rfl) (by kernel_rfl) (by kernel_rfl) (by kernel_rfl) (fun _ _ _ h => h) (Or.inl ⟨by rfl, ?_⟩) (by assumption) ?_
            rotate_left 1
            · intro wz hSw; obtain ⟨_, _, _, _⟩ := HX.out.later hSw; go_simp; try with_reducible rfl
            try simp only [Act.put, List.setIfInBounds_toArray, List.set_cons_zero, List.set_cons_succ]
            refine AnyT.take (i := 8) (oi := _) (v := ?_) rfl (by kernel_rfl) (by kernel_rfl) (by kernel_rfl) (by kernel_rfl) (fun _ _ _ h => h) (Or.inl ⟨by rfl, ?_⟩) (by assumption) ?_
            rotate_left 1
            · intro wz hSw; obtain ⟨_, _, _, _⟩ := HX.out.later hSw; go_simp; try with_reducible rfl
            try simp only [Act.put, List.setIfInBounds_toArray, List.set_cons_zero, List.set_cons_succ]
            refine AnyT.take (i := 9) (oi := _) (v := ?_) rfl (by kernel_rfl) (by kernel_rfl) (by kernel_rfl) (by kernel_rfl) (fun _ _ _ h => h) (Or.inl ⟨by rfl, ?_⟩) (by assumption) ?_
            rotate_left 1
            · intro wz hSw; obtain ⟨_, _, _, _⟩ := HX.out.later hSw; go_simp; try with_reducible rfl
            try simp only [Act.put, List.setIfInBounds_toArray, List.set_cons_zero, List.set_cons_succ]
            refine AnyT.one (i := 10) (o := _) rfl (by kernel_rfl) (fun K hK => ?_)
            go_simp
            obtain ⟨w9, B, e9, f9, hA9, x0, x1, xf0, xf1, sz, ge⟩ := box_step (o0 := .int .i64 0) (o1 := .int .i64 0) (t := 23) hA
            rw [e9, f9]
            clear e9 f9 hA
            have hA := hA9
            clear hA9
            refine hK.out _ _ (fun _ => hA) ?_
            clear hK K
            try simp only [Act.put, List.setIfInBounds_toArray, List.set_cons_zero, List.set_cons_succ]
            refine AnyT.one (i := 11) (o := _) rfl (by kernel_rfl) (fun K hK => ?_)
            go_simp
            refine hK.out _ _ (fun _ => by go_grown) ?_
            clear hK K
            try simp only [Act.put, List.setIfInBounds_toArray, List.set_cons_zero, List.set_cons_succ]
            refine AnyT.one (i := 12) (o := _) rfl (by kernel_rfl) (fun K hK => ?_)
            go_simp
            refine hK.out _ _ (fun h => absurd rfl h) ?_
            clear hK K
            refine AnyT.done (by kernel_rfl) ?_
            try simp only [Act.put, List.setIfInBounds_toArray, List.set_cons_zero, List.set_cons_succ]
            go_wp2_with fail
            go_meet
            case rel => exact ⟨B, rfl, rfl, by go_grown, by go_cell, by go_cell⟩
          · skip
            refine AnyT.step (o := _) rfl (fun K hK => ?_)
            go_simp
            obtain ⟨w9, B, e9, f9, hA9, x0, x1, xf0, xf1, sz, ge⟩ := box_step (o0 := .int .i64 0) (o1 := .int .i64 0) (t := 23) hA
            rw [e9, f9]
            clear e9 f9 hA
            have hA := hA9
            clear hA9
            refine hK.out _ _ (fun _ => hA) ?_
            clear hK K
            try simp only [Act.put, List.setIfInBounds_toArray, List.set_cons_zero, List.set_cons_succ]
            refine AnyT.one (i := 6) (o := _) rfl (by kernel_rfl) (fun K hK => ?_)
            go_simp
            refine (add_any N1 F1 N2 F2 _).mono ?_
            rintro e w8 ⟨rfl, hb6⟩
            rw [HAdd.out]
            try replace x0 := cell_later hb6 x0
            try replace x1 := cell_later hb6 x1
            try replace xf0 := ((bcell hb6).2 _ 0 sz).trans xf0
            try replace xf1 := ((bcell hb6).2 _ 1 sz).trans xf1
            try replace sz := Nat.lt_of_lt_of_le sz hb6.size
            replace hA := two hA hb6
            go_wp2_with fail
            refine hK.out _ _ (fun _ => hA) ?_
            clear hK K hb6
            try simp only [Act.put, List.setIfInBounds_toArray, List.set_cons_zero, List.set_cons_succ]
            refine AnyT.take (i := 7) (oi := _) (v := ?_) rfl (by kernel_rfl) (by kernel_rfl) (by kernel_rfl) (by kernel_rfl) (fun _ _ _ h => h) (Or.inl ⟨by rfl, ?_⟩) (by assumption) ?_
            rotate_left 1
            · intro wz hSw; obtain ⟨_, _, _, _⟩ := HX.out.later hSw; go_simp; try with_reducible rfl
            try simp only [Act.put, List.setIfInBounds_toArray, List.set_cons_zero, List.set_cons_succ]
            refine AnyT.take (i := 8) (oi := _) (v := ?_) rfl (by kernel_rfl) (by kernel_rfl) (by kernel_rfl) (by kernel_rfl) (fun _ _ _ h => h) (Or.inl ⟨by rfl, ?_⟩) (by assumption) ?_
            rotate_left 1
            · intro wz hSw; obtain ⟨_, _, _, _⟩ := HX.out.later hSw; go_simp; try with_reducible rfl
            try simp only [Act.put, List.setIfInBounds_toArray, List.set_cons_zero, List.set_cons_succ]
            refine AnyT.take (i := 9) (oi := _) (v := ?_) rfl (by kernel_rfl) (by kernel_rfl) (by kernel_rfl) (by kernel_rfl) (fun _ _ _ h => h) (Or.inl ⟨by rfl, ?_⟩) (by assumption) ?_
            rotate_left 1
            · intro wz hSw; obtain ⟨_, _, _, _⟩ := HX.out.later hSw; go_simp; try with_reducible rfl
            try simp only [Act.put, List.setIfInBounds_toArray, List.set_cons_zero, List.set_cons_succ]
            refine AnyT.one (i := 11) (o := _) rfl (by kernel_rfl) (fun K hK => ?_)
            go_simp
            refine hK.out _ _ (fun _ => by go_grown) ?_
            clear hK K
            try simp only [Act.put, List.setIfInBounds_toArray, List.set_cons_zero, List.set_cons_succ]
            refine AnyT.one (i := 12) (o := _) rfl (by kernel_rfl) (fun K hK => ?_)
            go_simp
            refine hK.out _ _ (fun h => absurd rfl h) ?_
            clear hK K
            refine AnyT.done (by kernel_rfl) ?_
            try simp only [Act.put, List.setIfInBounds_toArray, List.set_cons_zero, List.set_cons_succ]
            go_wp2_with fail
            go_meet
            case rel => exact ⟨B, rfl, rfl, by go_grown, by go_cell, by go_cell⟩
        · skip
          refine AnyT.step (o := _) rfl (fun K hK => ?_)
          go_simp
          obtain ⟨w9, B, e9, f9, hA9, x0, x1, xf0, xf1, sz, ge⟩ := box_step (o0 := .int .i64 0) (o1 := .int .i64 0) (t := 23) hA
          rw [e9, f9]
          clear e9 f9 hA
          have hA := hA9
          clear hA9
          refine hK.out _ _ (fun _ => hA) ?_
          clear hK K
          try simp only [Act.put, List.setIfInBounds_toArray, List.set_cons_zero, List.set_cons_succ]
          refine AnyT.one (i := 5) (o := _) rfl (by kernel_rfl) (fun K hK => ?_)
          go_simp
          refine (square_any c d _ (by omega) (by omega) (by omega)).mono ?_
          rintro e w7 ⟨rfl, hb6⟩
          rw [E3, E4]
          try replace x0 := cell_later hb6 x0
          try replace x1 := cell_later hb6 x1
          try replace xf0 := ((bcell hb6).2 _ 0 sz).trans xf0
          try replace xf1 := ((bcell hb6).2 _ 1 sz).trans xf1
          try replace sz := Nat.lt_of_lt_of_le sz hb6.size
          replace hA := two hA hb6
          go_wp2_with fail
          refine hK.out _ _ (fun _ => hA) ?_
          clear hK K hb6
          try simp only [Act.put, List.setIfInBounds_toArray, List.set_cons_zero, List.set_cons_succ]
          refine AnyT.one (i := 6) (o := _) rfl (by kernel_rfl) (fun K hK => ?_)
          go_simp
          refine (add_any N1 F1 N2 F2 _).mono ?_
          rintro e w8 ⟨rfl, hb6⟩
          rw [HAdd.out]
          try replace x0 := cell_later hb6 x0
          try replace x1 := cell_later hb6 x1
          try replace xf0 := ((bcell hb6).2 _ 0 sz).trans xf0
          try replace xf1 := ((bcell hb6).2 _ 1 sz).trans xf1
          try replace sz := Nat.lt_of_lt_of_le sz hb6.size
          replace hA := two hA hb6
          go_wp2_with fail
          refine hK.out _ _ (fun _ => hA) ?_
          clear hK K hb6
          try simp only [Act.put, List.setIfInBounds_toArray, List.set_cons_zero, List.set_cons_succ]
          refine AnyT.take (i := 7) (oi := _) (v := ?_) rfl (by kernel_rfl) (by kernel_rfl) (by kernel_rfl) (by kernel_rfl) (fun _ _ _ h => h) (Or.inl ⟨by rfl, ?_⟩) (by assumption) ?_
          rotate_left 1
          · intro wz hSw; obtain ⟨_, _, _, _⟩ := HX.out.later hSw; go_simp; try with_reducible rfl
          try simp only [Act.put, List.setIfInBounds_toArray, List.set_cons_zero, List.set_cons_succ]
          refine AnyT.take (i := 8) (oi := _) (v := ?_) rfl (by kernel_rfl) (by kernel_rfl) (by kernel_rfl) (by kernel_rfl) (fun _ _ _ h => h) (Or.inl ⟨by rfl, ?_⟩) (by assumption) ?_
          rotate_left 1
          · intro wz hSw; obtain ⟨_, _, _, _⟩ := HX.out.later hSw; go_simp; try with_reducible rfl
          try simp only [Act.put, List.setIfInBounds_toArray, List.set_cons_zero, List.set_cons_succ]
          refine AnyT.take (i := 9) (oi := _) (v := ?_) rfl (by kernel_rfl) (by kernel_rfl) (by kernel_rfl) (by kernel_rfl) (fun _ _ _ h => h) (Or.inl ⟨by rfl, ?_⟩) (by assumption) ?_
          rotate_left 1
          · intro wz hSw; obtain ⟨_, _, _, _⟩ := HX.out.later hSw; go_simp; try with_reducible rfl
          try simp only [Act.put, List.setIfInBounds_toArray, List.set_cons_zero, List.set_cons_succ]
          refine AnyT.one (i := 11) (o := _) rfl (by kernel_rfl) (fun K hK => ?_)
          go_simp
          refine hK.out _ _ (fun _ => by go_grown) ?_
          clear hK K
          try simp only [Act.put, List.setIfInBounds_toArray, List.set_cons_zero, List.set_cons_succ]
          refine AnyT.one (i := 12) (o := _) rfl (by kernel_rfl) (fun K hK => ?_)
          go_simp
          refine hK.out _ _ (fun h => absurd rfl h) ?_
          clear hK K
          refine AnyT.done (by kernel_rfl) ?_
          try simp only [Act.put, List.setIfInBounds_toArray, List.set_cons_zero, List.set_cons_succ]
          go_wp2_with fail
          go_meet
          case rel => exact ⟨B, rfl, rfl, by go_grown, by go_cell, by go_cell⟩
      · skip
        refine AnyT.step (o := _) rfl (fun K hK => ?_)
        go_simp
        obtain ⟨w9, B, e9, f9, hA9, x0, x1, xf0, xf1, sz, ge⟩ := box_step (o0 := .int .i64 0) (o1 := .int .i64 0) (t := 23) hA
        rw [e9, f9]
        clear e9 f9 hA
        have hA := hA9
        clear hA9
        refine hK.out _ _ (fun _ => hA) ?_
        clear hK K
        try simp only [Act.put, List.setIfInBounds_toArray, List.set_cons_zero, List.set_cons_succ]
        refine AnyT.one (i := 2) (o := _) rfl (by kernel_rfl) (fun K hK => ?_)
        go_simp
        refine (square_any a b _ (by omega) (by omega) (by omega)).mono ?_
        rintro e w6 ⟨rfl, hb6⟩
        rw [E1, E2]
        try replace x0 := cell_later hb6 x0
        try replace x1 := cell_later hb6 x1
        try replace xf0 := ((bcell hb6).2 _ 0 sz).trans xf0
        try replace xf1 := ((bcell hb6).2 _ 1 sz).trans xf1
        try replace sz := Nat.lt_of_lt_of_le sz hb6.size
        replace hA := two hA hb6
        go_wp2_with fail
        refine hK.out _ _ (fun _ => hA) ?_
        clear hK K hb6
        try simp only [Act.put, List.setIfInBounds_toArray, List.set_cons_zero, List.set_cons_succ]
        refine AnyT.one (i := 5) (o := _) rfl (by kernel_rfl) (fun K hK => ?_)
        go_simp
        refine (square_any c d _ (by omega) (by omega) (by omega)).mono ?_
        rintro e w7 ⟨rfl, hb6⟩
        rw [E3, E4]
        try replace x0 := cell_later hb6 x0
        try replace x1 := cell_later hb6 x1
        try replace xf0 := ((bcell hb6).2 _ 0 sz).trans xf0
        try replace xf1 := ((bcell hb6).2 _ 1 sz).trans xf1
        try replace sz := Nat.lt_of_lt_of_le sz hb6.size
        replace hA := two hA hb6
        go_wp2_with fail
        refine hK.out _ _ (fun _ => hA) ?_
        clear hK K hb6
        try simp only [Act.put, List.setIfInBounds_toArray, List.set_cons_zero, List.set_cons_succ]
        refine AnyT.one (i := 6) (o := _) rfl (by kernel_rfl) (fun K hK => ?_)
        go_simp
        refine (add_any N1 F1 N2 F2 _).mono ?_
        rintro e w8 ⟨rfl, hb6⟩
        rw [HAdd.out]
        try replace x0 := cell_later hb6 x0
        try replace x1 := cell_later hb6 x1
        try replace xf0 := ((bcell hb6).2 _ 0 sz).trans xf0
        try replace xf1 := ((bcell hb6).2 _ 1 sz).trans xf1
        try replace sz := Nat.lt_of_lt_of_le sz hb6.size
        replace hA := two hA hb6
        go_wp2_with fail
        refine hK.out _ _ (fun _ => hA) ?_
        clear hK K hb6
        try simp only [Act.put, List.setIfInBounds_toArray, List.set_cons_zero, List.set_cons_succ]
        refine AnyT.take (i := 7) (oi := _) (v := ?_) rfl (by kernel_rfl) (by kernel_rfl) (by kernel_rfl) (by kernel_rfl) (fun _ _ _ h => h) (Or.inl ⟨by rfl, ?_⟩) (by assumption) ?_
        rotate_left 1
        · intro wz hSw; obtain ⟨_, _, _, _⟩ := HX.out.later hSw; go_simp; try with_reducible rfl
        try simp only [Act.put, List.setIfInBounds_toArray, List.set_cons_zero, List.set_cons_succ]
        refine AnyT.take (i := 8) (oi := _) (v := ?_) rfl (by kernel_rfl) (by kernel_rfl) (by kernel_rfl) (by kernel_rfl) (fun _ _ _ h => h) (Or.inl ⟨by rfl, ?_⟩) (by assumption) ?_
        rotate_left 1
        · intro wz hSw; obtain ⟨_, _, _, _⟩ := HX.out.later hSw; go_simp; try with_reducible rfl
        try simp only [Act.put, List.setIfInBounds_toArray, List.set_cons_zero, List.set_cons_succ]
        refine AnyT.take (i := 9) (oi := _) (v := ?_) rfl (by kernel_rfl) (by kernel_rfl) (by kernel_rfl) (by kernel_rfl) (fun _ _ _ h => h) (Or.inl ⟨by rfl, ?_⟩) (by assumption) ?_
        rotate_left 1
        · intro wz hSw; obtain ⟨_, _, _, _⟩ := HX.out.later hSw; go_simp; try with_reducible rfl
        try simp only [Act.put, List.setIfInBounds_toArray, List.set_cons_zero, List.set_cons_succ]
        refine AnyT.one (i := 11) (o := _) rfl (by kernel_rfl) (fun K hK => ?_)
        go_simp
        refine hK.out _ _ (fun _ => by go_grown) ?_
        clear hK K
        try simp only [Act.put, List.setIfInBounds_toArray, List.set_cons_zero, List.set_cons_succ]
        refine AnyT.one (i := 12) (o := _) rfl (by kernel_rfl) (fun K hK => ?_)
        go_simp
        refine hK.out _ _ (fun h => absurd rfl h) ?_
        clear hK K
        refine AnyT.done (by kernel_rfl) ?_
        try simp only [Act.put, List.setIfInBounds_toArray, List.set_cons_zero, List.set_cons_succ]
        go_wp2_with fail
        go_meet
        case rel => exact ⟨B, rfl, rfl, by go_grown, by go_cell, by go_cell⟩
    case rest =>
      obtain ⟨B, rfl, rfl, hb2, s0, s1⟩ := hcut
      have hr2 := HR.out.later hb2
      have hB2 := hB1.trans (hb2.mono hB1.size)
      clear hX hR HX HR hB1 hb2
      obtain ⟨r0, r1, rf0, rf1, rl⟩ := hr2
      go_wp2_with fail
      refine (root_any (N1 + N2) (F1 + F2) _).mono ?_
      rintro e w3 ⟨hr, hb3⟩
      have hB3 := (after (w := w) hB2 hb3).1
      replace r0 := cell_later hb3 r0
      replace r1 := cell_later hb3 r1
      replace rf0 := ((bcell hb3).2 _ 0 rl).trans rf0
      replace rf1 := ((bcell hb3).2 _ 1 rl).trans rf1
      replace rl := Nat.lt_of_lt_of_le rl hb3.size
      obtain ⟨x, y, n, rfl⟩ := hr.spi
      have HQ := Lib.hid (HP.out _ hr)
      clear hr hb3 hB2 s0 s1 HP
      go_wp2_with fail
      exact bodyPost_ret (v := .tuple #[sp x y, .int .i64 n]) (by simp [results, Try.results43, go_sem, *]) rfl ⟨HQ.out, by go_grown⟩
  · have HP : Hid (SpdP a b c d (.returned (.tuple #[sp 0 0, .int .i64 2]))) := Lib.hid (.inl ⟨by omega, by rw [h0]⟩)
    rw [h0]
    clear h0
    obtain ⟨r0, r1, rf0, rf1, rl⟩ := hR
    go_wp2_with fail
    exact bodyPost_ret (v := .tuple #[sp 0 0, .int .i64 2]) (by simp [results, Try.results43, go_sem, *]) rfl ⟨HP.out, by go_grown⟩
  · have HP : Hid (SpdP a b c d (.returned (.tuple #[sp 0 0, .int .i64 10]))) := Lib.hid (.inl ⟨by omega, by rw [h0]⟩)
    rw [h0]
    clear h0
    obtain ⟨r0, r1, rf0, rf1, rl⟩ := hR
    go_wp2_with fail
    exact bodyPost_ret (v := .tuple #[sp 0 0, .int .i64 10]) (by simp [results, Try.results43, go_sem, *]) rfl ⟨HP.out, by go_grown⟩

end Go.Proofs.Ytflgdckeinappaa
