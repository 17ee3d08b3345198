/- Package trim: inOrder, isLoad, isLimit, isFrame; CheckLoads, CheckLimits, CheckFrames. -/
import Derived.Test.YtldnpnplgfkebaaTSl
namespace Go.Proofs.Ytldnpnplgfkebaa
open Go.RowKit

set_option maxHeartbeats 400000 in
theorem inOrder_any (b off : Nat) (l : List Int) (w : World) (hl0 : 1 ≤ l.length) (hl : l.length ≤ 1000) (hc : intCells w b off l) :
    Calls Try.prog 75 #[.slice (some ⟨b, off, none⟩) l.length l.length] w fun e w' => e = .returned (.bool (sortedB l)) ∧ Below w.heap.size w w' := by
  go_enter Try.func75, Try.ntmps75
  go_wp2_with fail
  refine (isSorted_any b off l _ hl0 hl hc).mono ?_
  rintro e w1 ⟨rfl, hb1⟩
  obtain ⟨u, hu⟩ : ∃ u, sortedB l = u := ⟨_, rfl⟩
  rw [hu]
  go_wp2_with fail
  go_returns
  exact ⟨ret_bool hu.symm, hb1⟩
theorem inOrder3 (B : Nat) (x y z : Int) (w : World) (h0 : w.cell? ⟨B, 0, none⟩ = some (.int .i64 x)) (h1 : w.cell? ⟨B, 1, none⟩ = some (.int .i64 y)) (h2 : w.cell? ⟨B, 2, none⟩ = some (.int .i64 z)) :
    Calls Try.prog 75 #[.slice (some ⟨B, 0, none⟩) 3 3] w fun e w' => e = .returned (.bool (inB y x z)) ∧ Below w.heap.size w w' := by
  refine (inOrder_any B 0 [x, y, z] w (by simp) (by simp) (intCells_cons h0 (intCells_cons h1 (intCells_cons h2 (intCells_nil _ _ _))))).mono fun e w' ⟨he, hb⟩ => ⟨he.trans (ret_bool ?_), hb⟩
  simp [sortedB, inB]
theorem inOrder4 (B : Nat) (x y z t : Int) (w : World) (h0 : w.cell? ⟨B, 0, none⟩ = some (.int .i64 x)) (h1 : w.cell? ⟨B, 1, none⟩ = some (.int .i64 y)) (h2 : w.cell? ⟨B, 2, none⟩ = some (.int .i64 z)) (h3 : w.cell? ⟨B, 3, none⟩ = some (.int .i64 t)) :
    Calls Try.prog 75 #[.slice (some ⟨B, 0, none⟩) 4 4] w fun e w' => e = .returned (.bool (spB y z x t)) ∧ Below w.heap.size w w' := by
  refine (inOrder_any B 0 [x, y, z, t] w (by simp) (by simp) (intCells_cons h0 (intCells_cons h1 (intCells_cons h2 (intCells_cons h3 (intCells_nil _ _ _)))))).mono fun e w' ⟨he, hb⟩ => ⟨he.trans (ret_bool ?_), hb⟩
  simp [sortedB, spB]

set_option maxHeartbeats 400000 in
theorem isPlace_any (n : Int) (w : World) : Calls Try.prog 106 #[.int .i64 n] w fun e w' => e = .returned (.bool (inB n (-20000) 20000)) ∧ Below w.heap.size w w' := by
  go_enter Try.func106, Try.ntmps106
  go_wp2_with fail
  refine (inOrder3 _ (-20000) n 20000 _ (by go_cell) (by go_cell) (by go_cell)).mono ?_
  rintro e w1 ⟨rfl, hb1⟩
  obtain ⟨hB, hc, hf⟩ := after (w := w) (by go_grown) hb1
  obtain ⟨u, hu⟩ : ∃ u, inB n (-20000) 20000 = u := ⟨_, rfl⟩
  rw [hu]
  go_wp2_with fail
  go_returns
  exact ⟨ret_bool hu.symm, hB⟩


set_option maxHeartbeats 1000000 in
theorem isLoad_any (l : Ld) (w : World) : Calls Try.prog 52 #[ldV l] w fun e w' => e = .returned (.bool l.ok) ∧ Below w.heap.size w w' := by
  go_enter Try.func52, Try.ntmps52
  go_wp2_with fail
  refine (inOrder4 _ (-20000) l.a0 l.a1 20000 _ (by go_cell) (by go_cell) (by go_cell) (by go_cell)).mono ?_
  rintro e w1 ⟨rfl, hb1⟩
  have hB1 : Below w.heap.size w w1 := (after (w := w) (by go_grown) hb1).1
  have k1 : LdAt w1 w.heap.size 0 l := LdAt.later ⟨by go_cell, by go_cell, by go_cell, by go_cell⟩ hb1
  have c2 := k1.c2
  have c3 := k1.c3
  have hz1 : w.heap.size < w1.heap.size := World.block_lt_of_cell? _ _ c2
  clear k1 hb1
  by_cases h1 : spB l.a0 l.a1 (-20000) 20000 = true
  rotate_left 1
  · skip
    rw [show spB l.a0 l.a1 (-20000) 20000 = false by simpa using h1]
    have H1 := Lib.hid (show spB l.a0 l.a1 (-20000) 20000 = false by simpa using h1)
    clear h1
    go_wp2_with fail
    go_returns
    exact ⟨ret_bool (by unfold Ld.ok; rw [H1.out]; simp), by go_grown⟩
  rw [h1]
  have H1 := Lib.hid h1
  clear h1
  go_wp2_with fail
  refine (inOrder4 _ (-1073741824) l.w0 l.w1 1073741824 _ (by go_cell) (by go_cell) (by go_cell) (by go_cell)).mono ?_
  rintro e w2 ⟨rfl, hb2⟩
  have hB2 : Below w.heap.size w w2 := (after (w := w) (by go_grown) hb2).1
  clear hb2 hB1 c2 c3
  obtain ⟨u, hu⟩ : ∃ u, spB l.w0 l.w1 (-1073741824) 1073741824 = u := ⟨_, rfl⟩
  rw [hu]
  have H2 := Lib.hid hu
  clear hu
  go_wp2_with fail
  go_returns
  exact ⟨ret_bool (by unfold Ld.ok; rw [H1.out, H2.out]; simp), by go_grown⟩
set_option maxHeartbeats 1000000 in
theorem isLimit_any (l : Li) (w : World) : Calls Try.prog 55 #[liV l] w fun e w' => e = .returned (.bool l.ok) ∧ Below w.heap.size w w' := by
  go_enter Try.func55, Try.ntmps55
  go_wp2_with fail
  refine (inOrder3 _ (-1000) l.a 1000 _ (by go_cell) (by go_cell) (by go_cell)).mono ?_
  rintro e w1 ⟨rfl, hb1⟩
  have hB1 : Below w.heap.size w w1 := (after (w := w) (by go_grown) hb1).1
  have k1 : LiAt w1 w.heap.size 0 l := LiAt.later ⟨by go_cell, by go_cell, by go_cell⟩ hb1
  have c1 := k1.c1
  have c2 := k1.c2
  have hz1 : w.heap.size < w1.heap.size := World.block_lt_of_cell? _ _ c2
  clear k1 hb1
  by_cases h1 : inB l.a (-1000) 1000 = true
  rotate_left 1
  · skip
    rw [show inB l.a (-1000) 1000 = false by simpa using h1]
    have H1 := Lib.hid (show inB l.a (-1000) 1000 = false by simpa using h1)
    clear h1
    go_wp2_with fail
    go_returns
    exact ⟨ret_bool (by unfold Li.ok; rw [H1.out]; simp), by go_grown⟩
  rw [h1]
  have H1 := Lib.hid h1
  clear h1
  go_wp2_with fail
  refine (inOrder3 _ (-1000) l.b 1000 _ (by go_cell) (by go_cell) (by go_cell)).mono ?_
  rintro e w2 ⟨rfl, hb2⟩
  have hB2 : Below w.heap.size w w2 := (after (w := w) (by go_grown) hb2).1
  have c2' : w2.cell? ⟨w.heap.size, 2, none⟩ = some (.int .i64 l.c) := cell_later hb2 (by go_cell)
  have hz2 : w.heap.size < w2.heap.size := World.block_lt_of_cell? _ _ c2'
  clear hb2 hB1 c1 c2 hz1
  by_cases h2 : inB l.b (-1000) 1000 = true
  rotate_left 1
  · skip
    rw [show inB l.b (-1000) 1000 = false by simpa using h2]
    have H2 := Lib.hid (show inB l.b (-1000) 1000 = false by simpa using h2)
    clear h2
    go_wp2_with fail
    go_returns
    exact ⟨ret_bool (by unfold Li.ok; rw [H1.out, H2.out]; simp), by go_grown⟩
  rw [h2]
  have H2 := Lib.hid h2
  clear h2
  go_wp2_with fail
  refine (inOrder3 _ (-1000000000000000000) l.c 1000000000000000000 _ (by go_cell) (by go_cell) (by go_cell)).mono ?_
  rintro e w3 ⟨rfl, hb3⟩
  have hB3 : Below w.heap.size w w3 := (after (w := w) (by go_grown) hb3).1
  clear hb3 hB2 c2' hz2
  obtain ⟨u, hu⟩ : ∃ u, inB l.c (-1000000000000000000) 1000000000000000000 = u := ⟨_, rfl⟩
  rw [hu]
  have H3 := Lib.hid hu
  clear hu
  go_wp2_with fail
  go_returns
  exact ⟨ret_bool (by unfold Li.ok; rw [H1.out, H2.out, H3.out]; simp), by go_grown⟩
set_option maxHeartbeats 1000000 in
theorem isFrame_any (l : Fr) (w : World) : Calls Try.prog 58 #[frV l] w fun e w' => e = .returned (.bool l.ok) ∧ Below w.heap.size w w' := by
  go_enter Try.func58, Try.ntmps58
  go_wp2_with fail
  refine (isPlace_any l.p _).mono ?_
  rintro e w1 ⟨rfl, hb1⟩
  have hB1 : Below w.heap.size w w1 := (after (w := w) (by go_grown) hb1).1
  have k1 : FrAt w1 w.heap.size 0 l := FrAt.later ⟨by go_cell, by go_cell, by go_cell⟩ hb1
  have c1 := k1.c1
  have c2 := k1.c2
  have hz1 : w.heap.size < w1.heap.size := World.block_lt_of_cell? _ _ c2
  clear k1 hb1
  by_cases h1 : inB l.p (-20000) 20000 = true
  rotate_left 1
  · skip
    rw [show inB l.p (-20000) 20000 = false by simpa using h1]
    have H1 := Lib.hid (show inB l.p (-20000) 20000 = false by simpa using h1)
    clear h1
    go_wp2_with fail
    go_returns
    exact ⟨ret_bool (by unfold Fr.ok; rw [H1.out]; simp), by go_grown⟩
  rw [h1]
  have H1 := Lib.hid h1
  clear h1
  go_wp2_with fail
  refine (inOrder3 _ 0 l.s 1000000000000 _ (by go_cell) (by go_cell) (by go_cell)).mono ?_
  rintro e w2 ⟨rfl, hb2⟩
  have hB2 : Below w.heap.size w w2 := (after (w := w) (by go_grown) hb2).1
  have c2' : w2.cell? ⟨w.heap.size, 2, none⟩ = some (.int .i64 l.b) := cell_later hb2 (by go_cell)
  have hz2 : w.heap.size < w2.heap.size := World.block_lt_of_cell? _ _ c2'
  clear hb2 hB1 c1 c2 hz1
  by_cases h2 : inB l.s 0 1000000000000 = true
  rotate_left 1
  · skip
    rw [show inB l.s 0 1000000000000 = false by simpa using h2]
    have H2 := Lib.hid (show inB l.s 0 1000000000000 = false by simpa using h2)
    clear h2
    go_wp2_with fail
    go_returns
    exact ⟨ret_bool (by unfold Fr.ok; rw [H1.out, H2.out]; simp), by go_grown⟩
  rw [h2]
  have H2 := Lib.hid h2
  clear h2
  go_wp2_with fail
  refine (inOrder3 _ 0 l.b 10000000000000000 _ (by go_cell) (by go_cell) (by go_cell)).mono ?_
  rintro e w3 ⟨rfl, hb3⟩
  have hB3 : Below w.heap.size w w3 := (after (w := w) (by go_grown) hb3).1
  clear hb3 hB2 c2' hz2
  obtain ⟨u, hu⟩ : ∃ u, inB l.b 0 10000000000000000 = u := ⟨_, rfl⟩
  rw [hu]
  have H3 := Lib.hid hu
  clear hu
  go_wp2_with fail
  go_returns
  exact ⟨ret_bool (by unfold Fr.ok; rw [H1.out, H2.out, H3.out]; simp), by go_grown⟩
end Go.Proofs.Ytldnpnplgfkebaa
