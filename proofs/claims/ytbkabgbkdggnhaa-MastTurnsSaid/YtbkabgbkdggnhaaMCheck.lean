/- Package mast: inOrder, CheckAxis, CheckWind and what they ask; the reference's. -/
import Derived.Test.YtbkabgbkdggnhaaGBase
import Derived.Test.YtbkabgbkdggnhaaMMath
namespace Go.Proofs.Ytbkabgbkdggnhaa
open Go.RowKit

set_option maxHeartbeats 400000 in
theorem inOrder_any (b off : Nat) (l : List Int) (w : World) (hl0 : 1 ≤ l.length) (hl : l.length ≤ 1000) (hc : intCells w b off l) :
    Calls Try.prog 55 #[.slice (some ⟨b, off, none⟩) l.length l.length] w fun e w' => e = .returned (.bool (sortedB l)) ∧ Below w.heap.size w w' := by
  go_enter Try.func55, Try.ntmps55
  go_wp2_with fail
  refine (isSorted_any b off l _ hl0 hl hc).mono ?_
  rintro e w1 ⟨rfl, hb1⟩
  obtain ⟨u, hu⟩ : ∃ u, sortedB l = u := ⟨_, rfl⟩
  rw [hu]
  go_wp2_with fail
  go_returns
  exact ⟨ret_bool hu.symm, hb1⟩
theorem inOrder3 (B : Nat) (x y z : Int) (w : World) (h0 : w.cell? ⟨B, 0, none⟩ = some (.int .i64 x)) (h1 : w.cell? ⟨B, 1, none⟩ = some (.int .i64 y)) (h2 : w.cell? ⟨B, 2, none⟩ = some (.int .i64 z)) :
    Calls Try.prog 55 #[.slice (some ⟨B, 0, none⟩) 3 3] w fun e w' => e = .returned (.bool (inB y x z)) ∧ Below w.heap.size w w' := by
  refine (inOrder_any B 0 [x, y, z] w (by simp) (by simp) (intCells_cons h0 (intCells_cons h1 (intCells_cons h2 (intCells_nil _ _ _))))).mono fun e w' ⟨he, hb⟩ => ⟨he.trans (ret_bool ?_), hb⟩
  simp [sortedB, inB]
theorem inOrder4 (B : Nat) (x y z t : Int) (w : World) (h0 : w.cell? ⟨B, 0, none⟩ = some (.int .i64 x)) (h1 : w.cell? ⟨B, 1, none⟩ = some (.int .i64 y)) (h2 : w.cell? ⟨B, 2, none⟩ = some (.int .i64 z)) (h3 : w.cell? ⟨B, 3, none⟩ = some (.int .i64 t)) :
    Calls Try.prog 55 #[.slice (some ⟨B, 0, none⟩) 4 4] w fun e w' => e = .returned (.bool (spB y z x t)) ∧ Below w.heap.size w w' := by
  refine (inOrder_any B 0 [x, y, z, t] w (by simp) (by simp) (intCells_cons h0 (intCells_cons h1 (intCells_cons h2 (intCells_cons h3 (intCells_nil _ _ _)))))).mono fun e w' ⟨he, hb⟩ => ⟨he.trans (ret_bool ?_), hb⟩
  simp [sortedB, spB]

set_option maxHeartbeats 400000 in
theorem isCross_any (n : Int) (w : World) : Calls Try.prog 51 #[.int .i64 n] w fun e w' => e = .returned (.bool (inB n 0 2000)) ∧ Below w.heap.size w w' := by
  go_enter Try.func51, Try.ntmps51
  go_wp2_with fail
  refine (inOrder3 _ 0 n 2000 _ (by go_cell) (by go_cell) (by go_cell)).mono ?_
  rintro e w1 ⟨rfl, hb1⟩
  obtain ⟨hB, hc, hf⟩ := after (w := w) (by go_grown) hb1
  obtain ⟨u, hu⟩ : ∃ u, inB n 0 2000 = u := ⟨_, rfl⟩
  rw [hu]
  go_wp2_with fail
  go_returns
  exact ⟨ret_bool hu.symm, hB⟩

/-- A wind and an axis as values. -/
abbrev wd (a b c d : Int) : Value := .agg #[.int .i64 a, .int .i64 b, .int .i64 c, .int .i64 d]
/-- Two cells; four cells. -/
structure Two2 (w : World) (B : Nat) (a b : Int) : Prop where
  c0 : w.cell? ⟨B, 0, none⟩ = some (.int .i64 a)
  c1 : w.cell? ⟨B, 1, none⟩ = some (.int .i64 b)
theorem Two2.later {w w1 : World} {B : Nat} {a b : Int} (k : Two2 w B a b) (hb : Below w.heap.size w w1) : Two2 w1 B a b := ⟨cell_later hb k.c0, cell_later hb k.c1⟩
theorem Two2.lt {w : World} {B : Nat} {a b : Int} (k : Two2 w B a b) : B < w.heap.size := World.block_lt_of_cell? _ _ k.c0
structure Four (w : World) (B : Nat) (a b c d : Int) : Prop where
  c0 : w.cell? ⟨B, 0, none⟩ = some (.int .i64 a)
  c1 : w.cell? ⟨B, 1, none⟩ = some (.int .i64 b)
  c2 : w.cell? ⟨B, 2, none⟩ = some (.int .i64 c)
  c3 : w.cell? ⟨B, 3, none⟩ = some (.int .i64 d)
theorem Four.later {w w1 : World} {B : Nat} {a b c d : Int} (k : Four w B a b c d) (hb : Below w.heap.size w w1) : Four w1 B a b c d := ⟨cell_later hb k.c0, cell_later hb k.c1, cell_later hb k.c2, cell_later hb k.c3⟩
theorem Four.lt {w : World} {B : Nat} {a b c d : Int} (k : Four w B a b c d) : B < w.heap.size := World.block_lt_of_cell? _ _ k.c0

set_option maxHeartbeats 1000000 in
theorem checkWind_any (a b c d : Int) (w : World) : Calls Try.prog 15 #[wd a b c d] w fun e w' => e = .returned (.int .i64 (windN a b c d)) ∧ Below w.heap.size w w' := by
  go_enter Try.func15, Try.ntmps15
  go_wp2_with fail
  refine (inOrder4 _ (-2000) a b 2000 _ (by go_cell) (by go_cell) (by go_cell) (by go_cell)).mono ?_
  rintro e w1 ⟨rfl, hb1⟩
  have hB1 : Below w.heap.size w w1 := (after (w := w) (by go_grown) hb1).1
  have k1 : Four w1 w.heap.size a b c d := Four.later ⟨by go_cell, by go_cell, by go_cell, by go_cell⟩ hb1
  have c2 := k1.c2
  have c3 := k1.c3
  have hz1 : w.heap.size < w1.heap.size := k1.lt
  clear k1 hb1
  by_cases h1 : spB a b (-2000) 2000 = true
  · rw [h1]
    have H1 := Lib.hid h1
    clear h1
    go_wp2_with fail
    refine (inOrder4 _ (-2000) c d 2000 _ (by go_cell) (by go_cell) (by go_cell) (by go_cell)).mono ?_
    rintro e w2 ⟨rfl, hb2⟩
    have hB2 : Below w.heap.size w w2 := (after (w := w) (by go_grown) hb2).1
    clear hb2 hB1 c2 c3
    by_cases h2 : spB c d (-2000) 2000 = true
    · rw [h2]
      have H2 := Lib.hid h2
      clear h2
      go_wp2_with fail
      go_returns
      exact ⟨ret_int (by unfold windN windB; rw [H1.out, H2.out]; rfl), by go_grown⟩
    · have h2' : spB c d (-2000) 2000 = false := by simpa using h2
      rw [h2']
      have H2 := Lib.hid h2'
      clear h2 h2'
      go_wp2_with fail
      go_returns
      exact ⟨ret_int (by unfold windN windB; rw [H1.out, H2.out]; rfl), by go_grown⟩
  · have h1' : spB a b (-2000) 2000 = false := by simpa using h1
    rw [h1']
    have H1 := Lib.hid h1'
    clear h1 h1' c2 c3
    go_wp2_with fail
    go_returns
    exact ⟨ret_int (by unfold windN windB; rw [H1.out]; rfl), by go_grown⟩

set_option maxHeartbeats 1000000 in
theorem checkAxis_any (x y : Int) (w : World) : Calls Try.prog 13 #[sp x y] w fun e w' => e = .returned (.int .i64 (axisN x y)) ∧ Below w.heap.size w w' := by
  go_enter Try.func13, Try.ntmps13
  go_wp2_with fail
  refine (inOrder3 _ (-1000) x 1000 _ (by go_cell) (by go_cell) (by go_cell)).mono ?_
  rintro e w1 ⟨rfl, hb1⟩
  have hB1 : Below w.heap.size w w1 := (after (w := w) (by go_grown) hb1).1
  have k1 : Two2 w1 w.heap.size x y := Two2.later ⟨by go_cell, by go_cell⟩ hb1
  have c0 := k1.c0
  have c1 := k1.c1
  have hz1 : w.heap.size < w1.heap.size := k1.lt
  have K1 := Lib.hid k1
  clear k1 hb1
  by_cases h1 : inB x (-1000) 1000 = true
  rotate_left 1
  · have h1' : inB x (-1000) 1000 = false := by simpa using h1
    rw [h1']
    have H1 := Lib.hid h1'
    clear h1 h1'
    go_wp2_with fail
    go_returns
    exact ⟨ret_int (by unfold axisN axisB; rw [H1.out]; rfl), by go_grown⟩
  rw [h1]
  have H1 := Lib.hid h1
  clear h1
  go_wp2_with fail
  refine (inOrder3 _ (-1000) y 1000 _ (by go_cell) (by go_cell) (by go_cell)).mono ?_
  rintro e w2 ⟨rfl, hb2⟩
  have hB2 : Below w.heap.size w w2 := (after (w := w) (by go_grown) hb2).1
  have k2 : Two2 w2 w.heap.size x y := Two2.later ⟨by go_cell, by go_cell⟩ hb2
  clear hB1 c0 c1 hz1
  have c0 := k2.c0
  have c1 := k2.c1
  have hz2 : w.heap.size < w2.heap.size := k2.lt
  clear k2 hb2 K1
  by_cases h2 : inB y (-1000) 1000 = true
  rotate_left 1
  · have h2' : inB y (-1000) 1000 = false := by simpa using h2
    rw [h2']
    have H2 := Lib.hid h2'
    clear h2 h2'
    go_wp2_with fail
    go_returns
    exact ⟨ret_int (by unfold axisN axisB; rw [H1.out, H2.out]; rfl), by go_grown⟩
  rw [h2]
  have H2 := Lib.hid h2
  clear h2
  by_cases h3 : x = 0 <;> by_cases h4 : y = 0
  · subst h3 h4
    go_wp2_with fail
    go_returns
    exact ⟨rfl, by go_grown⟩
  all_goals
    go_wp2_with fail
    go_returns
    exact ⟨ret_int (by unfold axisN axisB; rw [H1.out, H2.out]; simp [h3, h4]), by go_grown⟩

/- The reference. -/
set_option maxHeartbeats 400000 in
theorem rwithin_any (n lo hi : Int) (w : World) :
    Calls Try.prog 53 #[.int .i64 n, .int .i64 lo, .int .i64 hi] w fun e w' => e = .returned (.bool (inB n lo hi)) ∧ w = w' := by
  go_enter Try.func53, Try.ntmps53
  go_wp2
  all_goals (go_returns; exact ⟨ret_bool (by unfold inB; simp; omega), rfl⟩)
set_option maxHeartbeats 400000 in
theorem rspanned_any (a b lo hi : Int) (w : World) :
    Calls Try.prog 86 #[sp a b, .int .i64 lo, .int .i64 hi] w fun e w' => e = .returned (.bool (spB a b lo hi)) ∧ Below w.heap.size w w' := by
  go_enter Try.func86, Try.ntmps86
  go_wp2
  all_goals (go_returns; exact ⟨ret_bool (by unfold spB; rw [Bool.eq_iff_iff]; simp; try omega), by go_grown⟩)

set_option maxHeartbeats 1000000 in
theorem rwind_any (a b c d : Int) (w : World) : Calls Try.prog 46 #[wd a b c d] w fun e w' => e = .returned (.bool (windB a b c d)) ∧ Below w.heap.size w w' := by
  go_enter Try.func46, Try.ntmps46
  go_wp2_with fail
  refine (rspanned_any a b (-2000) 2000 _).mono ?_
  rintro e w1 ⟨rfl, hb1⟩
  have hB1 : Below w.heap.size w w1 := (after (w := w) (by go_grown) hb1).1
  have k1 : Four w1 w.heap.size a b c d := Four.later ⟨by go_cell, by go_cell, by go_cell, by go_cell⟩ hb1
  have c2 := k1.c2
  have c3 := k1.c3
  have hz1 : w.heap.size < w1.heap.size := k1.lt
  clear k1 hb1
  by_cases h1 : spB a b (-2000) 2000 = true
  · rw [h1]
    have H1 := Lib.hid h1
    clear h1
    go_wp2_with fail
    refine (rspanned_any c d (-2000) 2000 _).mono ?_
    rintro e w2 ⟨rfl, hb2⟩
    have hB2 : Below w.heap.size w w2 := (after (w := w) (by go_grown) hb2).1
    clear hb2 hB1 c2 c3
    obtain ⟨u, hu⟩ : ∃ u, spB c d (-2000) 2000 = u := ⟨_, rfl⟩
    rw [hu]
    have H2 := Lib.hid hu
    clear hu
    go_wp2_with fail
    go_returns
    exact ⟨ret_bool (by unfold windB; rw [H1.out, H2.out]; rfl), by go_grown⟩
  · have h1' : spB a b (-2000) 2000 = false := by simpa using h1
    rw [h1']
    have H1 := Lib.hid h1'
    clear h1 h1' c2 c3
    go_wp2_with fail
    go_returns
    exact ⟨ret_bool (by unfold windB; rw [H1.out]; rfl), by go_grown⟩
set_option maxHeartbeats 1000000 in
theorem rcheckWind_any (a b c d : Int) (w : World) : Calls Try.prog 16 #[wd a b c d] w fun e w' => e = .returned (.int .i64 (windN a b c d)) ∧ Below w.heap.size w w' := by
  go_enter Try.func16, Try.ntmps16
  go_wp2_with fail
  refine (rwind_any a b c d _).mono ?_
  rintro e w1 ⟨rfl, hb1⟩
  have hB1 : Below w.heap.size w w1 := (after (w := w) (by go_grown) hb1).1
  clear hb1
  obtain ⟨u, hu⟩ : ∃ u, windB a b c d = u := ⟨_, rfl⟩
  rw [hu]
  have H2 := Lib.hid hu
  clear hu
  cases u <;>
  · go_wp2_with fail
    go_returns
    exact ⟨ret_int (by unfold windN; rw [H2.out]; rfl), by go_grown⟩

set_option maxHeartbeats 1000000 in
theorem raxis_any (x y : Int) (w : World) : Calls Try.prog 47 #[sp x y] w fun e w' => e = .returned (.bool (axisB x y)) ∧ Below w.heap.size w w' := by
  go_enter Try.func47, Try.ntmps47
  go_wp2_with fail
  refine (rwithin_any x (-1000) 1000 _).mono ?_
  rintro e w1 ⟨rfl, rfl⟩
  by_cases h1 : inB x (-1000) 1000 = true
  rotate_left 1
  · have h1' : inB x (-1000) 1000 = false := by simpa using h1
    rw [h1']
    have H1 := Lib.hid h1'
    clear h1 h1'
    go_wp2_with fail
    go_returns
    exact ⟨ret_bool (by unfold axisB; rw [H1.out]; rfl), by go_grown⟩
  rw [h1]
  have H1 := Lib.hid h1
  clear h1
  go_wp2_with fail
  refine (rwithin_any y (-1000) 1000 _).mono ?_
  rintro e w1 ⟨rfl, rfl⟩
  by_cases h2 : inB y (-1000) 1000 = true
  rotate_left 1
  · have h2' : inB y (-1000) 1000 = false := by simpa using h2
    rw [h2']
    have H2 := Lib.hid h2'
    clear h2 h2'
    go_wp2_with fail
    go_returns
    exact ⟨ret_bool (by unfold axisB; rw [H1.out, H2.out]; rfl), by go_grown⟩
  rw [h2]
  have H2 := Lib.hid h2
  clear h2
  go_wp2
  all_goals (go_returns; exact ⟨ret_bool (by unfold axisB; rw [H1.out, H2.out]; simp [*]; try (rw [Bool.eq_iff_iff]; simp)), by go_grown⟩)
set_option maxHeartbeats 1000000 in
theorem rcheckAxis_any (x y : Int) (w : World) : Calls Try.prog 14 #[sp x y] w fun e w' => e = .returned (.int .i64 (axisN x y)) ∧ Below w.heap.size w w' := by
  go_enter Try.func14, Try.ntmps14
  go_wp2_with fail
  refine (raxis_any x y _).mono ?_
  rintro e w1 ⟨rfl, hb1⟩
  have hB1 : Below w.heap.size w w1 := (after (w := w) (by go_grown) hb1).1
  clear hb1
  obtain ⟨u, hu⟩ : ∃ u, axisB x y = u := ⟨_, rfl⟩
  rw [hu]
  have H2 := Lib.hid hu
  clear hu
  cases u <;>
  · go_wp2_with fail
    go_returns
    exact ⟨ret_int (by unfold axisN; rw [H2.out]; rfl), by go_grown⟩
end Go.Proofs.Ytbkabgbkdggnhaa
