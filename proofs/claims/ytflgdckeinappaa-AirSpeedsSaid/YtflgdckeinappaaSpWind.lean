/- Package air: inOrder, isWind, checkWind, only; the reference's within, in, blows. -/
import Derived.Test.YtflgdckeinappaaSpIn
import Derived.Test.YtflgdckeinappaaCells
namespace Go.Proofs.Ytflgdckeinappaa
open Go.RowKit

/-- A wind. -/
abbrev wd (a b c d : Int) : Value := .agg #[.int .i64 a, .int .i64 b, .int .i64 c, .int .i64 d]

set_option maxHeartbeats 400000 in
theorem inOrder_any (b off : Nat) (l : List Int) (w : World) (hl0 : 1 ≤ l.length) (hl : l.length ≤ 1000) (hc : intCells w b off l) :
    Calls Try.prog 96 #[.slice (some ⟨b, off, none⟩) l.length l.length] w fun e w' => e = .returned (.bool (sortedB l)) ∧ Below w.heap.size w w' := by
  go_enter Try.func96, Try.ntmps96
  go_wp2_with fail
  refine (isSorted_any b off l _ hl0 hl hc).mono ?_
  rintro e w1 ⟨rfl, hb1⟩
  obtain ⟨u, hu⟩ : ∃ u, sortedB l = u := ⟨_, rfl⟩
  rw [hu]
  go_wp2_with fail
  go_returns
  exact ⟨ret_bool hu.symm, hb1⟩
theorem inOrder3 (B : Nat) (x y z : Int) (w : World) (h0 : w.cell? ⟨B, 0, none⟩ = some (.int .i64 x)) (h1 : w.cell? ⟨B, 1, none⟩ = some (.int .i64 y)) (h2 : w.cell? ⟨B, 2, none⟩ = some (.int .i64 z)) :
    Calls Try.prog 96 #[.slice (some ⟨B, 0, none⟩) 3 3] w fun e w' => e = .returned (.bool (decide (x ≤ y ∧ y ≤ z))) ∧ Below w.heap.size w w' := by
  refine (inOrder_any B 0 [x, y, z] w (by simp) (by simp) (intCells_cons h0 (intCells_cons h1 (intCells_cons h2 (intCells_nil _ _ _))))).mono fun e w' ⟨he, hb⟩ => ⟨he.trans (ret_bool ?_), hb⟩
  simp [sortedB]
theorem inOrder4 (B : Nat) (x y z t : Int) (w : World) (h0 : w.cell? ⟨B, 0, none⟩ = some (.int .i64 x)) (h1 : w.cell? ⟨B, 1, none⟩ = some (.int .i64 y)) (h2 : w.cell? ⟨B, 2, none⟩ = some (.int .i64 z)) (h3 : w.cell? ⟨B, 3, none⟩ = some (.int .i64 t)) :
    Calls Try.prog 96 #[.slice (some ⟨B, 0, none⟩) 4 4] w fun e w' => e = .returned (.bool (decide (x ≤ y ∧ y ≤ z ∧ z ≤ t))) ∧ Below w.heap.size w w' := by
  refine (inOrder_any B 0 [x, y, z, t] w (by simp) (by simp) (intCells_cons h0 (intCells_cons h1 (intCells_cons h2 (intCells_cons h3 (intCells_nil _ _ _)))))).mono fun e w' ⟨he, hb⟩ => ⟨he.trans (ret_bool ?_), hb⟩
  simp [sortedB]

set_option maxHeartbeats 400000 in
theorem only_any (n : Int) (w : World) :
    Calls Try.prog 97 #[.int .i64 n] w fun e w' => e = .returned (sp n n) ∧ Below w.heap.size w w' := by
  go_enter Try.func97, Try.ntmps97
  go_wp2_with fail
  exact bodyPost_ret (v := sp n n) (by simp [results, Try.results97, go_sem, *]) rfl ⟨rfl, by go_grown⟩

set_option maxHeartbeats 400000 in
theorem within2_any (n lo hi : Int) (w : World) :
    Calls Try.prog 99 #[.int .i64 n, .int .i64 lo, .int .i64 hi] w fun e w' => e = .returned (.bool (decide (lo ≤ n ∧ n ≤ hi))) ∧ w = w' := by
  go_enter Try.func99, Try.ntmps99
  go_wp2
  all_goals (go_returns; exact ⟨ret_bool (by simp; omega), rfl⟩)

def inB (a b lo hi : Int) : Bool := decide (a ≤ b ∧ lo ≤ a ∧ b ≤ hi)
set_option maxHeartbeats 400000 in
theorem in_any (a b lo hi : Int) (w : World) :
    Calls Try.prog 115 #[sp a b, .int .i64 lo, .int .i64 hi] w fun e w' => e = .returned (.bool (inB a b lo hi)) ∧ Below w.heap.size w w' := by
  go_enter Try.func115, Try.ntmps115
  go_wp2
  all_goals (go_returns; exact ⟨ret_bool (by unfold inB; rw [Bool.eq_iff_iff]; simp; try omega), by go_grown⟩)

/-- Whether a wind is valid, and from -m to m. -/
def windB (a b c d m : Int) : Bool := inB a b (-m) m && inB c d (-m) m
/-- The error of a wind. -/
def blowN (a b c d : Int) : Int := if validB a b && validB c d then (if windB a b c d 2000 then 0 else 2) else 10

set_option maxHeartbeats 1000000 in
theorem isWind_any (a b c d m : Int) (w : World) (hm0 : 0 ≤ m) (hm1 : m ≤ 1000000) :
    Calls Try.prog 123 #[wd a b c d, .int .i64 m] w fun e w' => e = .returned (.bool (windB a b c d m)) ∧ Below w.heap.size w w' := by
  go_enter Try.func123, Try.ntmps123
  go_wp2_with fail
  refine (inOrder4 _ (-m) a b m _ (by go_cell) (by go_cell) (by go_cell) (by go_cell)).mono ?_
  rintro e w1 ⟨rfl, hb1⟩
  obtain ⟨hB, hc, hf⟩ := after (w := w) (by go_grown) hb1
  have hz : w.heap.size + 1 < w1.heap.size := by have := hb1.size; simp at this; omega
  have c2 : w1.cell? ⟨w.heap.size, 2, none⟩ = some (.int .i64 c) := by rw [hc _ _ (by simp; omega)]; go_cell
  have c3 : w1.cell? ⟨w.heap.size, 3, none⟩ = some (.int .i64 d) := by rw [hc _ _ (by simp; omega)]; go_cell
  by_cases h1 : -m ≤ a ∧ a ≤ b ∧ b ≤ m
  · rw [show decide (-m ≤ a ∧ a ≤ b ∧ b ≤ m) = true by simpa using h1]
    go_wp2_with fail
    refine (inOrder4 _ (-m) c d m _ (by go_cell) (by go_cell) (by go_cell) (by go_cell)).mono ?_
    rintro e w2 ⟨rfl, hb2⟩
    have hB2 : Below w.heap.size w w2 := (after (w := w) (by go_grown) hb2).1
    clear hb2 hc hf hB hb1 c2 c3
    obtain ⟨u, hu⟩ : ∃ u, decide (-m ≤ c ∧ c ≤ d ∧ d ≤ m) = u := ⟨_, rfl⟩
    rw [hu]
    go_wp2_with fail
    go_returns
    exact ⟨ret_bool (by rw [← hu]; unfold windB inB; rw [Bool.eq_iff_iff]; simp; omega), by go_grown⟩
  · rw [show decide (-m ≤ a ∧ a ≤ b ∧ b ≤ m) = false by simpa using h1]
    go_wp2_with fail
    go_returns
    exact ⟨ret_bool (by unfold windB inB; rw [Bool.eq_iff_iff]; simp; omega), by go_grown⟩

/-- checkWind's loop: the first k parts are spans. -/
def CwHead (a b c d : Int) (w wr : World) (v12 : Value) : Prop := ∃ k : Nat, k ≤ 2 ∧ v12 = .int .i64 k ∧ allValid ([(a, b), (c, d)].take k) = true ∧ Below w.heap.size w wr ∧ w.heap.size + 1 < wr.heap.size ∧
  spanCells wr w.heap.size 0 [(a, b), (c, d)] ∧ spanCells wr (w.heap.size + 1) 0 [(a, b), (c, d)]
theorem spanCells_two {w : World} {B : Nat} {a b c d : Int} (h : spanCells w B 0 [(a, b), (c, d)]) :
    w.cell? ⟨B, 0, none⟩ = some (.int .i64 a) ∧ w.cell? ⟨B, 1, none⟩ = some (.int .i64 b) ∧ w.cell? ⟨B, 2, none⟩ = some (.int .i64 c) ∧ w.cell? ⟨B, 3, none⟩ = some (.int .i64 d) := by
  have h0 := h 0 a b rfl
  have h1 := h 1 c d rfl
  exact ⟨h0.1, h0.2, h1.1, h1.2⟩
theorem spanCells_mk2 {w : World} {B : Nat} {a b c d : Int} (h0 : w.cell? ⟨B, 0, none⟩ = some (.int .i64 a)) (h1 : w.cell? ⟨B, 1, none⟩ = some (.int .i64 b)) (h2 : w.cell? ⟨B, 2, none⟩ = some (.int .i64 c)) (h3 : w.cell? ⟨B, 3, none⟩ = some (.int .i64 d)) : spanCells w B 0 [(a, b), (c, d)] :=
  spanCells_cons h0 h1 (spanCells_cons h2 h3 (spanCells_nil _ _ _))
theorem spanCells_later {w w1 : World} {B off : Nat} {l : List (Int × Int)} (h : spanCells w B off l) (hb : Below w.heap.size w w1) : spanCells w1 B off l := fun i lo hi hx => ⟨cell_later hb (h i lo hi hx).1, cell_later hb (h i lo hi hx).2⟩

set_option linter.unusedSimpArgs false in
set_option maxHeartbeats 1000000 in
theorem checkWind_any (a b c d : Int) (w : World) :
    Calls Try.prog 92 #[wd a b c d] w fun e w' => e = .returned (.int .i64 (blowN a b c d)) ∧ Below w.heap.size w w' := by
  go_enter Try.func92, Try.ntmps92
  go_wp2_with fail
  go_loopw [12] (fun v12 wr => CwHead a b c d w wr v12) (fun v12 _ => 2 - (intOf v12).toNat)
  case atStart =>
    exact ⟨0, by omega, rfl, rfl, by go_grown, by simp, spanCells_mk2 (by go_cell) (by go_cell) (by go_cell) (by go_cell), spanCells_mk2 (by go_cell) (by go_cell) (by go_cell) (by go_cell)⟩
  case round =>
    obtain ⟨k, hk, rfl, hav, hbr, hsz, hq0, hq1⟩ := hrel
    have hsz' : w.heap.size ≤ wr.heap.size := by omega
    obtain ⟨m0, m1, m2, m3⟩ := spanCells_two hq0
    obtain ⟨n0, n1, n2, n3⟩ := spanCells_two hq1
    have HA := Lib.hid hav
    have Q0 := Lib.hid hq0
    have Q1 := Lib.hid hq1
    clear hav hq0 hq1
    rcases (show k = 0 ∨ k = 1 ∨ k = 2 by omega) with rfl | rfl | rfl
    ·
      go_wp2_with fail
      refine (check_any a b _).mono ?_
      rintro e w1 ⟨rfl, hb1⟩
      have hB1 : Below w.heap.size w w1 := hbr.trans (((Below.refl _ _).alloc hsz' _).trans (hb1.mono (by simp; omega)))
      have hbb : Below wr.heap.size wr w1 := ((Below.refl _ _).alloc (Nat.le_refl _) _).trans (hb1.mono (by simp))
      have q0' := spanCells_later Q0.out hbb
      have q1' := spanCells_later Q1.out hbb
      have hz' : w.heap.size + 1 < w1.heap.size := by have := hbb.size; omega
      by_cases hv : validB a b = true
      · rw [checkN_yes hv]
        have HV := Lib.hid hv
        have Q0' := Lib.hid q0'
        have Q1' := Lib.hid q1'
        clear hv q0' q1'
        go_wp2_with fail
        go_roundw
        case rel => exact ⟨1, by omega, by go_num, by have h1 := HA.out; have h2 := HV.out; simp [allValid] at h1 ⊢; simp [h1, h2], hB1, hz', Q0'.out, Q1'.out⟩
        case measure => simp [intOf]
      · have hv' : validB a b = false := by simpa using hv
        rw [checkN_no hv']
        have HV := Lib.hid hv'
        clear hv hv' q0' q1'
        go_wp2_with fail
        go_returns
        exact ⟨ret_int (by unfold blowN; rw [HV.out]; simp), hB1⟩
    ·
      go_wp2_with fail
      refine (check_any c d _).mono ?_
      rintro e w1 ⟨rfl, hb1⟩
      have hB1 : Below w.heap.size w w1 := hbr.trans (((Below.refl _ _).alloc hsz' _).trans (hb1.mono (by simp; omega)))
      have hbb : Below wr.heap.size wr w1 := ((Below.refl _ _).alloc (Nat.le_refl _) _).trans (hb1.mono (by simp))
      have q0' := spanCells_later Q0.out hbb
      have q1' := spanCells_later Q1.out hbb
      have hz' : w.heap.size + 1 < w1.heap.size := by have := hbb.size; omega
      by_cases hv : validB c d = true
      · rw [checkN_yes hv]
        have HV := Lib.hid hv
        have Q0' := Lib.hid q0'
        have Q1' := Lib.hid q1'
        clear hv q0' q1'
        go_wp2_with fail
        go_roundw
        case rel => exact ⟨2, by omega, by go_num, by have h1 := HA.out; have h2 := HV.out; simp [allValid] at h1 ⊢; simp [h1, h2], hB1, hz', Q0'.out, Q1'.out⟩
        case measure => simp [intOf]
      · have hv' : validB c d = false := by simpa using hv
        rw [checkN_no hv']
        have HV := Lib.hid hv'
        clear hv hv' q0' q1'
        go_wp2_with fail
        go_returns
        exact ⟨ret_int (by unfold blowN; rw [HV.out]; simp), hB1⟩
    · go_wp2_with fail
      refine (isWind_any a b c d 2000 _ (by omega) (by omega)).mono ?_
      rintro e w1 ⟨rfl, hb1⟩
      have hB1 := hbr.trans (hb1.mono hsz')
      have hva : (validB a b && validB c d) = true := by have := HA.out; simpa [allValid] using this
      have HV := Lib.hid hva
      clear hva hb1
      obtain ⟨u, hu⟩ : ∃ u, windB a b c d 2000 = u := ⟨_, rfl⟩
      rw [hu]
      have HU := Lib.hid hu
      clear hu
      cases u
      all_goals
        go_wp2_with fail
        go_returns
        exact ⟨ret_int (by unfold blowN; rw [HV.out, HU.out]; rfl), hB1⟩

set_option maxHeartbeats 1000000 in
theorem blows_any (a b c d : Int) (w : World) :
    Calls Try.prog 94 #[wd a b c d] w fun e w' => e = .returned (.int .i64 (blowN a b c d)) ∧ Below w.heap.size w w' := by
  go_enter Try.func94, Try.ntmps94
  go_wp2_with fail
  refine (rvalid_any a b _).mono ?_
  rintro e w1 ⟨rfl, hb1⟩
  have hB1 : Below w.heap.size w w1 := (after (w := w) (by go_grown) hb1).1
  have k1 : Cells w1 [(w.heap.size, 0, .int .i64 a), (w.heap.size, 1, .int .i64 b), (w.heap.size, 2, .int .i64 c), (w.heap.size, 3, .int .i64 d)] := (Cells.cons (by go_cell) (Cells.cons (by go_cell) (Cells.cons (by go_cell) (Cells.cons (by go_cell) (Cells.nil _))))).later hb1
  have hz1 : w.heap.size < w1.heap.size := by have := hb1.size; simp at this; omega
  have K1 := Lib.hid k1
  have c2 := k1.rest.rest.first
  have c3 := k1.rest.rest.rest.first
  clear hb1 k1
  by_cases hv : validB a b = true
  · rw [hv]
    have HV := Lib.hid hv
    clear hv
    go_wp2_with fail
    refine (rvalid_any c d _).mono ?_
    rintro e w2 ⟨rfl, hb2⟩
    have hB2 : Below w.heap.size w w2 := (after (w := w) hB1 hb2).1
    have k2 := K1.out.later hb2
    have hz2 : w.heap.size < w2.heap.size := by have := hb2.size; omega
    have K2 := Lib.hid k2
    clear c2 c3 hb2 hB1 K1 hz1
    have c0 := k2.first
    have c1 := k2.rest.first
    clear k2
    by_cases hv2 : validB c d = true
    · rw [hv2]
      have HV2 := Lib.hid hv2
      clear hv2
      go_wp2_with fail
      refine (in_any a b (-2000) 2000 _).mono ?_
      rintro e w3 ⟨rfl, hb3⟩
      have hB3 : Below w.heap.size w w3 := (after (w := w) hB2 hb3).1
      have k3 := K2.out.later hb3
      have hz3 : w.heap.size < w3.heap.size := by have := hb3.size; omega
      clear c0 c1 hb3 hB2 K2 hz2
      have c2 := k3.rest.rest.first
      have c3 := k3.rest.rest.rest.first
      clear k3
      obtain ⟨u, hu⟩ : ∃ u, inB a b (-2000) 2000 = u := ⟨_, rfl⟩
      rw [hu]
      have HU := Lib.hid hu
      clear hu
      cases u
      · go_wp2_with fail
        go_returns
        exact ⟨ret_int (by unfold blowN windB; rw [HV.out, HV2.out, HU.out]; rfl), hB3⟩
      · go_wp2_with fail
        refine (in_any c d (-2000) 2000 _).mono ?_
        rintro e w4 ⟨rfl, hb4⟩
        have hB4 : Below w.heap.size w w4 := (after (w := w) hB3 hb4).1
        clear hb4 hB3 c2 c3
        obtain ⟨u, hu⟩ : ∃ u, inB c d (-2000) 2000 = u := ⟨_, rfl⟩
        rw [hu]
        have HU2 := Lib.hid hu
        clear hu
        cases u
        all_goals
          go_wp2_with fail
          go_returns
          exact ⟨ret_int (by unfold blowN windB; rw [HV.out, HV2.out, HU.out, HU2.out]; rfl), hB4⟩
    · have hv2' : validB c d = false := by simpa using hv2
      rw [hv2']
      have HV2 := Lib.hid hv2'
      clear hv2 hv2'
      go_wp2_with fail
      go_returns
      exact ⟨ret_int (by unfold blowN; rw [HV2.out]; simp), hB2⟩
  · have hv' : validB a b = false := by simpa using hv
    rw [hv']
    have HV := Lib.hid hv'
    clear hv hv'
    go_wp2_with fail
    go_returns
    exact ⟨ret_int (by unfold blowN; rw [HV.out]; simp), hB1⟩

end Go.Proofs.Ytflgdckeinappaa
