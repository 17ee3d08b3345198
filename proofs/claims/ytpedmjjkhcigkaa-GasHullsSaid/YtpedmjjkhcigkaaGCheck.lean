/- Package gas: inOrder, CheckAir, CheckCell, CheckHull and what they ask; a ratio's rounding. -/
import Derived.Test.YtpedmjjkhcigkaaGBase
namespace Go.Proofs.Ytpedmjjkhcigkaa
open Go.RowKit

set_option maxHeartbeats 400000 in
theorem inOrder_any (b off : Nat) (l : List Int) (w : World) (hl0 : 1 ≤ l.length) (hl : l.length ≤ 1000) (hc : intCells w b off l) :
    Calls Try.prog 75 #[.slice (some ⟨b, off, none⟩) l.length l.length] w fun e w' => e = .returned (.bool (sortedB l)) ∧ Below w.heap.size w w' := by
  go_enter Try.func75, Try.ntmps75
  go_wp2_with fail
  refine (isSorted_any b off l _ hl0 hl hc).mono ?_
  rintro e w1 ⟨rfl, hb1⟩
  obtain ⟨u, hu⟩ : ∃ u, sortedB l = u := ⟨_, rfl⟩
  rw [hu]
  go_wp2_with fail
  go_returns
  exact ⟨ret_bool hu.symm, hb1⟩
/-- A number is in a range. -/
def inB (n lo hi : Int) : Bool := decide (lo ≤ n ∧ n ≤ hi)
/-- A span is in a range, its ends in order. -/
def spB (a b lo hi : Int) : Bool := decide (lo ≤ a ∧ a ≤ b ∧ b ≤ hi)
theorem inOrder3 (B : Nat) (x y z : Int) (w : World) (h0 : w.cell? ⟨B, 0, none⟩ = some (.int .i64 x)) (h1 : w.cell? ⟨B, 1, none⟩ = some (.int .i64 y)) (h2 : w.cell? ⟨B, 2, none⟩ = some (.int .i64 z)) :
    Calls Try.prog 75 #[.slice (some ⟨B, 0, none⟩) 3 3] w fun e w' => e = .returned (.bool (inB y x z)) ∧ Below w.heap.size w w' := by
  refine (inOrder_any B 0 [x, y, z] w (by simp) (by simp) (intCells_cons h0 (intCells_cons h1 (intCells_cons h2 (intCells_nil _ _ _))))).mono fun e w' ⟨he, hb⟩ => ⟨he.trans (ret_bool ?_), hb⟩
  simp [sortedB, inB]
theorem inOrder4 (B : Nat) (x y z t : Int) (w : World) (h0 : w.cell? ⟨B, 0, none⟩ = some (.int .i64 x)) (h1 : w.cell? ⟨B, 1, none⟩ = some (.int .i64 y)) (h2 : w.cell? ⟨B, 2, none⟩ = some (.int .i64 z)) (h3 : w.cell? ⟨B, 3, none⟩ = some (.int .i64 t)) :
    Calls Try.prog 75 #[.slice (some ⟨B, 0, none⟩) 4 4] w fun e w' => e = .returned (.bool (spB y z x t)) ∧ Below w.heap.size w w' := by
  refine (inOrder_any B 0 [x, y, z, t] w (by simp) (by simp) (intCells_cons h0 (intCells_cons h1 (intCells_cons h2 (intCells_cons h3 (intCells_nil _ _ _)))))).mono fun e w' ⟨he, hb⟩ => ⟨he.trans (ret_bool ?_), hb⟩
  simp [sortedB, spB]

set_option maxHeartbeats 400000 in
theorem isTemp_any (a b : Int) (w : World) : Calls Try.prog 76 #[sp a b] w fun e w' => e = .returned (.bool (spB a b 1500 3500)) ∧ Below w.heap.size w w' := by
  go_enter Try.func76, Try.ntmps76
  go_wp2_with fail
  refine (inOrder4 _ 1500 a b 3500 _ (by go_cell) (by go_cell) (by go_cell) (by go_cell)).mono ?_
  rintro e w1 ⟨rfl, hb1⟩
  obtain ⟨hB, hc, hf⟩ := after (w := w) (by go_grown) hb1
  obtain ⟨u, hu⟩ : ∃ u, spB a b 1500 3500 = u := ⟨_, rfl⟩
  rw [hu]
  go_wp2_with fail
  go_returns
  exact ⟨ret_bool hu.symm, hB⟩
set_option maxHeartbeats 400000 in
theorem isWarm_any (a b : Int) (w : World) : Calls Try.prog 79 #[sp a b] w fun e w' => e = .returned (.bool (spB a b (-300) 300)) ∧ Below w.heap.size w w' := by
  go_enter Try.func79, Try.ntmps79
  go_wp2_with fail
  refine (inOrder4 _ (-300) a b 300 _ (by go_cell) (by go_cell) (by go_cell) (by go_cell)).mono ?_
  rintro e w1 ⟨rfl, hb1⟩
  obtain ⟨hB, hc, hf⟩ := after (w := w) (by go_grown) hb1
  obtain ⟨u, hu⟩ : ∃ u, spB a b (-300) 300 = u := ⟨_, rfl⟩
  rw [hu]
  go_wp2_with fail
  go_returns
  exact ⟨ret_bool hu.symm, hB⟩
set_option maxHeartbeats 400000 in
theorem isAmount_any (n : Int) (w : World) : Calls Try.prog 78 #[.int .i64 n] w fun e w' => e = .returned (.bool (inB n 0 10000000)) ∧ Below w.heap.size w w' := by
  go_enter Try.func78, Try.ntmps78
  go_wp2_with fail
  refine (inOrder3 _ 0 n 10000000 _ (by go_cell) (by go_cell) (by go_cell)).mono ?_
  rintro e w1 ⟨rfl, hb1⟩
  obtain ⟨hB, hc, hf⟩ := after (w := w) (by go_grown) hb1
  obtain ⟨u, hu⟩ : ∃ u, inB n 0 10000000 = u := ⟨_, rfl⟩
  rw [hu]
  go_wp2_with fail
  go_returns
  exact ⟨ret_bool hu.symm, hB⟩

/-- Air; a cell; a hull. -/
abbrev airV (p0 p1 t0 t1 : Int) : Value := .agg #[.int .i64 p0, .int .i64 p1, .int .i64 t0, .int .i64 t1]
abbrev cellV (rm he ar w0 w1 lk ow : Int) : Value := .agg #[.int .i64 rm, .int .i64 he, .int .i64 ar, .int .i64 w0, .int .i64 w1, .int .i64 lk, .int .i64 ow]
abbrev hullV (rm gs w0 w1 bl bg ls ms : Int) : Value := .agg #[.int .i64 rm, .int .i64 gs, .int .i64 w0, .int .i64 w1, .int .i64 bl, .int .i64 bg, .int .i64 ls, .int .i64 ms]
def airB (p0 p1 t0 t1 : Int) : Bool := spB p0 p1 1000 12000 && spB t0 t1 1500 3500
def airN (p0 p1 t0 t1 : Int) : Int := if airB p0 p1 t0 t1 then 0 else 30
def cellB (rm he ar w0 w1 lk ow : Int) : Bool := inB rm 1 10000000 && inB he 0 10000000 && inB ar 0 10000000 && spB w0 w1 (-300) 300 && inB lk 0 100000 && inB ow 0 999999
def cellN (rm he ar w0 w1 lk ow : Int) : Int := if cellB rm he ar w0 w1 lk ow then 0 else 31

/-- What a box of four, of seven, of eight holds. -/
structure Four (w : World) (B : Nat) (a b c d : Int) : Prop where
  c0 : w.cell? ⟨B, 0, none⟩ = some (.int .i64 a)
  c1 : w.cell? ⟨B, 1, none⟩ = some (.int .i64 b)
  c2 : w.cell? ⟨B, 2, none⟩ = some (.int .i64 c)
  c3 : w.cell? ⟨B, 3, none⟩ = some (.int .i64 d)
theorem Four.later {w w1 : World} {B : Nat} {a b c d : Int} (k : Four w B a b c d) (hb : Below w.heap.size w w1) : Four w1 B a b c d := ⟨cell_later hb k.c0, cell_later hb k.c1, cell_later hb k.c2, cell_later hb k.c3⟩
structure Seven (w : World) (B : Nat) (a b c d e f g : Int) : Prop where
  c0 : w.cell? ⟨B, 0, none⟩ = some (.int .i64 a)
  c1 : w.cell? ⟨B, 1, none⟩ = some (.int .i64 b)
  c2 : w.cell? ⟨B, 2, none⟩ = some (.int .i64 c)
  c3 : w.cell? ⟨B, 3, none⟩ = some (.int .i64 d)
  c4 : w.cell? ⟨B, 4, none⟩ = some (.int .i64 e)
  c5 : w.cell? ⟨B, 5, none⟩ = some (.int .i64 f)
  c6 : w.cell? ⟨B, 6, none⟩ = some (.int .i64 g)
theorem Seven.later {w w1 : World} {B : Nat} {a b c d e f g : Int} (k : Seven w B a b c d e f g) (hb : Below w.heap.size w w1) : Seven w1 B a b c d e f g :=
  ⟨cell_later hb k.c0, cell_later hb k.c1, cell_later hb k.c2, cell_later hb k.c3, cell_later hb k.c4, cell_later hb k.c5, cell_later hb k.c6⟩
structure Eight (w : World) (B : Nat) (a b c d e f g h : Int) : Prop where
  c0 : w.cell? ⟨B, 0, none⟩ = some (.int .i64 a)
  c1 : w.cell? ⟨B, 1, none⟩ = some (.int .i64 b)
  c2 : w.cell? ⟨B, 2, none⟩ = some (.int .i64 c)
  c3 : w.cell? ⟨B, 3, none⟩ = some (.int .i64 d)
  c4 : w.cell? ⟨B, 4, none⟩ = some (.int .i64 e)
  c5 : w.cell? ⟨B, 5, none⟩ = some (.int .i64 f)
  c6 : w.cell? ⟨B, 6, none⟩ = some (.int .i64 g)
  c7 : w.cell? ⟨B, 7, none⟩ = some (.int .i64 h)
theorem Eight.later {w w1 : World} {B : Nat} {a b c d e f g h : Int} (k : Eight w B a b c d e f g h) (hb : Below w.heap.size w w1) : Eight w1 B a b c d e f g h :=
  ⟨cell_later hb k.c0, cell_later hb k.c1, cell_later hb k.c2, cell_later hb k.c3, cell_later hb k.c4, cell_later hb k.c5, cell_later hb k.c6, cell_later hb k.c7⟩

set_option maxHeartbeats 1000000 in
theorem checkAir_any (p0 p1 t0 t1 : Int) (w : World) : Calls Try.prog 19 #[airV p0 p1 t0 t1] w fun e w' => e = .returned (.int .i64 (airN p0 p1 t0 t1)) ∧ Below w.heap.size w w' := by
  go_enter Try.func19, Try.ntmps19
  go_wp2_with fail
  refine (inOrder4 _ 1000 p0 p1 12000 _ (by go_cell) (by go_cell) (by go_cell) (by go_cell)).mono ?_
  rintro e w1 ⟨rfl, hb1⟩
  obtain ⟨hB, hc, hf⟩ := after (w := w) (by go_grown) hb1
  have hz : w.heap.size + 1 < w1.heap.size := by have := hb1.size; simp at this; omega
  have c2 : w1.cell? ⟨w.heap.size, 2, none⟩ = some (.int .i64 t0) := by rw [hc _ _ (by simp <;> omega)]; go_cell
  have c3 : w1.cell? ⟨w.heap.size, 3, none⟩ = some (.int .i64 t1) := by rw [hc _ _ (by simp <;> omega)]; go_cell
  by_cases h1 : spB p0 p1 1000 12000 = true
  · rw [h1]
    have H1 := Lib.hid h1
    clear h1 hb1 hc hf
    go_wp2_with fail
    refine (isTemp_any t0 t1 _).mono ?_
    rintro e w2 ⟨rfl, hb2⟩
    have hB2 : Below w.heap.size w w2 := (after (w := w) (by go_grown) hb2).1
    clear hb2 hB c2 c3
    by_cases h2 : spB t0 t1 1500 3500 = true
    · rw [h2]
      have H2 := Lib.hid h2
      clear h2
      go_wp2_with fail
      go_returns
      exact ⟨ret_int (by unfold airN airB; rw [H1.out, H2.out]; rfl), by go_grown⟩
    · have h2' : spB t0 t1 1500 3500 = false := by simpa using h2
      rw [h2']
      have H2 := Lib.hid h2'
      clear h2 h2'
      go_wp2_with fail
      go_returns
      exact ⟨ret_int (by unfold airN airB; rw [H1.out, H2.out]; rfl), by go_grown⟩
  · have h1' : spB p0 p1 1000 12000 = false := by simpa using h1
    rw [h1']
    have H1 := Lib.hid h1'
    clear h1 h1' hb1 hc hf c2 c3
    go_wp2_with fail
    go_returns
    exact ⟨ret_int (by unfold airN airB; rw [H1.out]; rfl), by go_grown⟩
end Go.Proofs.Ytpedmjjkhcigkaa
