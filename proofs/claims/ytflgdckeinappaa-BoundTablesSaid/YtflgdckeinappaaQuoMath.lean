/- The plain mathematics of the reference's quotient: a product made bit by bit. -/
namespace Go.Proofs.Ytflgdckeinappaa

/-- After n bits are left: of rest * (y / 2^n) the quotient and the rest. -/
structure QS (rest z y : Int) (n : Nat) (q r : Int) : Prop where
  sum : q * z + r = rest * (y / 2 ^ n)
  r0 : 0 ≤ r
  r1 : r < z
  q0 : 0 ≤ q
  q1 : q ≤ 1099511627776

theorem half (y : Int) (n : Nat) : y / 2 ^ n = 2 * (y / 2 ^ (n + 1)) + y / 2 ^ n % 2 := by
  have : y / 2 ^ (n + 1) = y / 2 ^ n / 2 := by rw [Int.pow_succ, Int.ediv_ediv_of_nonneg (by exact Int.le_of_lt (Int.pow_pos (by omega)))]
  rw [this]
  omega

theorem bit_pos (n : Nat) : 0 < (2 : Int) ^ n := Int.pow_pos (by omega)
theorem quo_le (y : Int) (n : Nat) (h : 0 ≤ y) (h1 : y ≤ 1099511627776) : 0 ≤ y / 2 ^ n ∧ y / 2 ^ n ≤ 1099511627776 := by
  refine ⟨Int.ediv_nonneg h (Int.le_of_lt (bit_pos n)), ?_⟩
  have : y / 2 ^ n ≤ y := Int.ediv_le_self _ h
  omega

/-- A round's sum, doubled. -/
theorem QS.dbl {rest z y : Int} {n : Nat} {q r : Int} (h : QS rest z y (n + 1) q r) :
    (2 * q) * z + (2 * r + rest * (y / 2 ^ n % 2)) = rest * (y / 2 ^ n) := by
  conv => rhs; rw [half y n, Int.mul_add]
  rw [show rest * (2 * (y / 2 ^ (n + 1))) = 2 * (rest * (y / 2 ^ (n + 1))) by rw [Int.mul_left_comm], ← h.sum, Int.mul_assoc]
  generalize q * z = X
  generalize rest * (y / 2 ^ n % 2) = Y
  omega

theorem q_le {rest z y q r : Int} {n : Nat} (hs : q * z + r = rest * (y / 2 ^ n)) (hr : 0 ≤ r) (hz : 1 ≤ z) (h1 : rest < z) (hy : 0 ≤ y) (hy1 : y ≤ 1099511627776) : q ≤ 1099511627776 := by
  obtain ⟨p0, p1⟩ := quo_le y n hy hy1
  generalize y / 2 ^ n = p at *
  have a : rest * p ≤ z * p := Int.mul_le_mul_of_nonneg_right (by omega) p0
  have b : z * p ≤ z * 1099511627776 := Int.mul_le_mul_of_nonneg_left p1 (by omega)
  have c : q * z ≤ 1099511627776 * z := by rw [Int.mul_comm 1099511627776]; omega
  exact Int.le_of_mul_le_mul_right c (by omega)

/-- What quotient returns. -/
def qQ (x y z : Int) : Int := if 0 < x / z ∧ 4398046511104 / (x / z) < y then 4398046511104 else min (x * y / z) 4398046511104
def qW (x y z : Int) : Bool := if 0 < x / z ∧ 4398046511104 / (x / z) < y then false else decide (x * y % z = 0)

theorem quo_end {x y z q r : Int} (hz : 1 ≤ z) (h : QS (x % z) z y 0 q r) : x / z * y + q = x * y / z ∧ r = x * y % z := by
  have hs := h.sum
  rw [Int.pow_zero, Int.ediv_one] at hs
  have hx : x * y = (x / z * y + q) * z + r := by
    have e : x = x / z * z + x % z := by have := Int.emod_def x z; rw [Int.mul_comm] at this; omega
    conv => lhs; rw [e]
    rw [Int.add_mul, Int.add_mul, ← hs, Int.mul_right_comm]
    omega
  have hq : x * y / z = x / z * y + q := by
    generalize x / z * y + q = Q at *
    have r0 := h.r0
    have r1 := h.r1
    have a : Q ≤ x * y / z := by rw [Int.le_ediv_iff_mul_le (by omega)]; omega
    have b : x * y / z < Q + 1 := by rw [Int.ediv_lt_iff_lt_mul (by omega), Int.add_mul, Int.one_mul]; omega
    omega
  refine ⟨hq.symm, ?_⟩
  have := Int.emod_def (x * y) z
  rw [hq, Int.mul_comm z] at this
  omega

end Go.Proofs.Ytflgdckeinappaa
