/- The plain mathematics of a long division by two digits: nothing of the program. -/
import Derived.Lib.BitFns
import Derived.Laws.BitsAllLaws
import Derived.IntWalk
namespace Go.Proofs.Ytflgdckeinappaa

/-- The state of one digit's search: q may be too great; q * n1 + r is the head. -/
structure Dig (n1 n0 h u q r : Int) : Prop where
  sum : q * n1 + r = h
  top : (h * 4294967296 + u) / (n1 * 4294967296 + n0) ≤ q
  r0 : 0 ≤ r
  q0 : 0 ≤ q
  qB : q ≤ 4294967297

/-- The divisor is normal: its head has its highest bit. -/
structure Norm (n1 n0 h u : Int) : Prop where
  a1 : 2147483648 ≤ n1
  a2 : n1 < 4294967296
  b1 : 0 ≤ n0
  b2 : n0 < 4294967296
  c1 : 0 ≤ h
  c2 : h < n1 * 4294967296 + n0
  d1 : 0 ≤ u
  d2 : u < 4294967296

theorem split_prod (q n1 n0 : Int) : q * (n1 * 4294967296 + n0) = q * n1 * 4294967296 + q * n0 := by rw [Int.mul_add, Int.mul_assoc]

theorem Norm.posV {n1 n0 h u : Int} (k : Norm n1 n0 h u) : 0 < n1 * 4294967296 + n0 := by have := k.a1; have := k.b1; omega
theorem Norm.quo_lt {n1 n0 h u : Int} (k : Norm n1 n0 h u) : (h * 4294967296 + u) / (n1 * 4294967296 + n0) < 4294967296 := by
  rw [Int.ediv_lt_iff_lt_mul k.posV]
  have := k.c2; have := k.d2; have := k.c1; omega
theorem Norm.quo_ge {n1 n0 h u : Int} (k : Norm n1 n0 h u) : 0 ≤ (h * 4294967296 + u) / (n1 * 4294967296 + n0) :=
  Int.ediv_nonneg (by have := k.c1; have := k.d1; omega) (Int.le_of_lt k.posV)

theorem Dig.start {n1 n0 h u : Int} (k : Norm n1 n0 h u) : Dig n1 n0 h u (h / n1) (h - h / n1 * n1) := by
  have hn : 0 < n1 := by have := k.a1; omega
  have hm : h / n1 * n1 ≤ h := Int.ediv_mul_le h (by omega)
  have hq : 0 ≤ h / n1 := Int.ediv_nonneg k.c1 (by omega)
  refine ⟨by omega, ?_, by omega, hq, ?_⟩
  · have h1 : h < h / n1 * n1 + n1 := Int.lt_ediv_add_one_mul_self h hn |> fun t => by rw [Int.add_mul, Int.one_mul] at t; exact t
    have hlt : (h * 4294967296 + u) / (n1 * 4294967296 + n0) < h / n1 + 1 := by
      rw [Int.ediv_lt_iff_lt_mul k.posV, split_prod, Int.add_mul, Int.one_mul, Int.add_mul (h / n1) 1 n0, Int.one_mul, Int.add_mul (h / n1 * n1)]
      have : 0 ≤ h / n1 * n0 := Int.mul_nonneg hq k.b1
      have := k.d2; have := k.b1; omega
    omega
  · have : h / n1 < 4294967298 := by
      rw [Int.ediv_lt_iff_lt_mul hn]
      have := k.c2; have := k.a1; have := k.b2; omega
    omega

theorem Dig.exact {n1 n0 h u q r : Int} (k : Norm n1 n0 h u) (d : Dig n1 n0 h u q r) (hq : q * n0 ≤ 4294967296 * r + u) : q = (h * 4294967296 + u) / (n1 * 4294967296 + n0) := by
  have : q ≤ (h * 4294967296 + u) / (n1 * 4294967296 + n0) := by
    rw [Int.le_ediv_iff_mul_le k.posV, split_prod]
    have := d.sum
    generalize q * n1 = X at *
    omega
  have := d.top
  omega

theorem Dig.next {n1 n0 h u q r : Int} (k : Norm n1 n0 h u) (d : Dig n1 n0 h u q r) (ht : 4294967296 ≤ q ∨ 4294967296 * r + u < q * n0) : Dig n1 n0 h u (q - 1) (r + n1) ∧ 1 ≤ q := by
  have hlt : (h * 4294967296 + u) / (n1 * 4294967296 + n0) < q := by
    rcases ht with ht | ht
    · have := k.quo_lt; omega
    · rw [Int.ediv_lt_iff_lt_mul k.posV, split_prod]
      have := d.sum
      generalize q * n1 = X at *
      omega
  have := k.quo_ge
  have := k.a1
  exact ⟨⟨by have := d.sum; rw [Int.sub_mul, Int.one_mul]; omega, by omega, by have := d.r0; omega, by omega, by have := d.qB; omega⟩, by omega⟩

/-- Behind a step whose rest is beyond a digit nothing is left to do. -/
theorem Dig.out {n1 n0 h u q r : Int} (k : Norm n1 n0 h u) (d : Dig n1 n0 h u q r) (hq : q ≤ 4294967296) (hr : 4294967296 ≤ r) : q = (h * 4294967296 + u) / (n1 * 4294967296 + n0) := by
  apply d.exact k
  have : q * n0 ≤ 4294967296 * n0 := Int.mul_le_mul_of_nonneg_right hq k.b1
  have := k.b2
  have := k.d1
  omega

theorem rem_bd {n1 n0 h u : Int} (k : Norm n1 n0 h u) : 0 ≤ h * 4294967296 + u - (h * 4294967296 + u) / (n1 * 4294967296 + n0) * (n1 * 4294967296 + n0) ∧ h * 4294967296 + u - (h * 4294967296 + u) / (n1 * 4294967296 + n0) * (n1 * 4294967296 + n0) < n1 * 4294967296 + n0 := by
  have hV := k.posV
  have h1 := Int.ediv_mul_le (h * 4294967296 + u) (b := n1 * 4294967296 + n0) (by omega)
  have h2 := Int.lt_ediv_add_one_mul_self (h * 4294967296 + u) hV
  rw [Int.add_mul, Int.one_mul] at h2
  omega

/-- All of it: the parts of the dividend times P by two digits are its quotient and its rest times P. -/
theorem whole {N y P V h u1 u0 q1 q0 m : Int} (hy : 0 < y) (hP : 0 < P) (hV : V = y * P) (hN : N * P = (h * 4294967296 + u1) * 4294967296 + u0)
    (hm : m = h * 4294967296 + u1 - q1 * V) (r0 : 0 ≤ m * 4294967296 + u0 - q0 * V) (r1 : m * 4294967296 + u0 - q0 * V < V) :
    q1 * 4294967296 + q0 = N / y ∧ (m * 4294967296 + u0 - q0 * V) / P = N % y := by
  have e1 : m * 4294967296 + u0 - q0 * V = (N - (q1 * 4294967296 + q0) * y) * P := by
    rw [Int.sub_mul, hN, Int.mul_assoc _ y P, ← hV, hm, Int.add_mul]
    have : (q1 * 4294967296 + q0) * V = q1 * V * 4294967296 + q0 * V := by rw [Int.add_mul, Int.mul_assoc q1, Int.mul_comm 4294967296 V, ← Int.mul_assoc]
    rw [this]
    generalize q1 * V = X at *
    omega
  rw [e1] at r0 r1 ⊢
  rw [Int.mul_ediv_cancel _ (by omega)]
  have h0 : 0 ≤ N - (q1 * 4294967296 + q0) * y := by
    rcases Int.lt_or_le (N - (q1 * 4294967296 + q0) * y) 0 with hlt | hle
    · have := Int.mul_neg_of_neg_of_pos hlt hP; omega
    · exact hle
  have h1 : N - (q1 * 4294967296 + q0) * y < y := by
    rw [hV] at r1
    exact Int.lt_of_mul_lt_mul_right r1 (Int.le_of_lt hP)
  have hq : N / y = q1 * 4294967296 + q0 := by
    generalize q1 * 4294967296 + q0 = Q at *
    have a : Q ≤ N / y := by rw [Int.le_ediv_iff_mul_le hy]; omega
    have b : N / y < Q + 1 := by rw [Int.ediv_lt_iff_lt_mul hy, Int.add_mul, Int.one_mul]; omega
    omega
  refine ⟨hq.symm, ?_⟩
  have := Int.emod_def N y
  rw [this, hq, Int.mul_comm]

end Go.Proofs.Ytflgdckeinappaa
