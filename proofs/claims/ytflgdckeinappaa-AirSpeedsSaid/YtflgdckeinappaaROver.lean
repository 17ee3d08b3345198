/- The reference's abs, Quotient, Over, Mul. -/
import Derived.Test.YtflgdckeinappaaSatMath
namespace Go.Proofs.Ytflgdckeinappaa
open Go.RowKit

set_option maxHeartbeats 400000 in
theorem abs_any (n : Int) (w : World) (h1 : -1099511627776 ≤ n) (h2 : n ≤ 1099511627776) :
    Calls Try.prog 132 #[.int .i64 n] w fun e w' => e = .returned (.int .i64 ((n.natAbs : Nat) : Int)) ∧ w = w' := by
  go_enter Try.func132, Try.ntmps132
  go_wp2
  all_goals (go_returns; exact ⟨ret_int (by omega), rfl⟩)

theorem qQ_bd {x y z : Int} (hx : 0 ≤ x) (hy : 0 ≤ y) (hz : 1 ≤ z) : 0 ≤ qQ x y z ∧ qQ x y z ≤ 4398046511104 := by
  have hd := Int.ediv_nonneg (Int.mul_nonneg hx hy) (by omega : 0 ≤ z)
  unfold qQ; split <;> omega

set_option maxHeartbeats 1000000 in
theorem Quotient_any (x y z : Int) (w : World) (hx1 : -1099511627776 ≤ x) (hx2 : x ≤ 1099511627776) (hy1 : -1099511627776 ≤ y) (hy2 : y ≤ 1099511627776) (hz1 : 1 ≤ z) (hz2 : z ≤ 1099511627776) :
    Calls Try.prog 69 #[.int .i64 x, .int .i64 y, .int .i64 z] w fun e w' => e = .returned (.tuple #[.int .i64 (QD x y z), .int .i64 (QU x y z)]) ∧ Below w.heap.size w w' := by
  go_enter Try.func69, Try.ntmps69
  go_wp2_with fail
  refine (abs_any x _ hx1 hx2).mono ?_
  rintro e w1 ⟨rfl, rfl⟩
  go_wp2_with fail
  refine (abs_any y _ hy1 hy2).mono ?_
  rintro e w1 ⟨rfl, rfl⟩
  go_wp2_with fail
  refine (quotient_any _ _ _ _ (by omega) (by omega) (by omega) (by omega) hz1 hz2).mono ?_
  rintro e w1 ⟨rfl, hb1⟩
  obtain ⟨b0, b1⟩ := qQ_bd (x := x.natAbs) (y := y.natAbs) (z := z) (by omega) (by omega) hz1
  obtain ⟨q, hq⟩ : ∃ q : Int, qQ x.natAbs y.natAbs z = q := ⟨_, rfl⟩
  obtain ⟨u, hu⟩ : ∃ u : Bool, qW x.natAbs y.natAbs z = u := ⟨_, rfl⟩
  rw [hq] at b0 b1
  rw [hq, hu]
  have HQ := Lib.hid hq
  have HU := Lib.hid hu
  clear hq hu
  have hx : x < 0 ∨ x = 0 ∨ 0 < x := by omega
  have hy : y < 0 ∨ y = 0 ∨ 0 < y := by omega
  cases u <;> rcases hx with hx | hx | hx <;> rcases hy with hy | hy | hy
  all_goals
    try subst hx
    try subst hy
    go_wp2_with fail
    go_returns
    exact ⟨ret_ii (by unfold QD qU; rw [HQ.out, HU.out]; simp; try omega) (by unfold QU qU; rw [HQ.out, HU.out]; simp; try omega), by go_grown⟩
end Go.Proofs.Ytflgdckeinappaa
