/- What is beyond the bound may come out as anything beyond it: the same spans fit. -/
import Derived.Test.YtflgdckeinappaaOvers
import Derived.Test.YtflgdckeinappaaQuo
namespace Go.Proofs.Ytflgdckeinappaa

/-- v' stands for v: it is v within the bound, and beyond it where v is. -/
structure Sat (v v' : Int) : Prop where
  is : -1099511627776 ≤ v → v ≤ 1099511627776 → v' = v
  up : 1099511627776 < v → 1099511627776 < v'
  dn : v < -1099511627776 → v' < -1099511627776

theorem Sat.min {u u' v v' : Int} (h : Sat u u') (k : Sat v v') : Sat (min u v) (min u' v') := by
  have := h.is; have := h.up; have := h.dn; have := k.is; have := k.up; have := k.dn
  exact ⟨by omega, by omega, by omega⟩
theorem Sat.max {u u' v v' : Int} (h : Sat u u') (k : Sat v v') : Sat (max u v) (max u' v') := by
  have := h.is; have := h.up; have := h.dn; have := k.is; have := k.up; have := k.dn
  exact ⟨by omega, by omega, by omega⟩
theorem Sat.neg {u u' : Int} (h : Sat u u') : Sat (-u) (-u') := by
  have := h.is; have := h.up; have := h.dn
  exact ⟨by omega, by omega, by omega⟩
theorem Sat.fit {lo lo' hi hi' : Int} (h : Sat lo lo') (k : Sat hi hi') (hle : lo ≤ hi) : fitE lo' hi' = fitE lo hi := by
  have := h.is; have := h.up; have := h.dn; have := k.is; have := k.up; have := k.dn
  by_cases hf : -1099511627776 ≤ lo ∧ hi ≤ 1099511627776
  · have e1 : lo' = lo := by omega
    have e2 : hi' = hi := by omega
    rw [e1, e2]
  · have : ¬ (-1099511627776 ≤ lo' ∧ hi' ≤ 1099511627776) := by omega
    rw [fitE_no (by unfold fitB; simpa using this), fitE_no (by unfold fitB; simpa using hf)]

/-- Rounded up. -/
def cdiv (p z : Int) : Int := if 0 < p % z then p / z + 1 else p / z
theorem div_unique {n z q : Int} (hz : 0 < z) (h1 : q * z ≤ n) (h2 : n < q * z + z) : n / z = q := by
  have a : q ≤ n / z := by rw [Int.le_ediv_iff_mul_le hz]; omega
  have b : n / z < q + 1 := by rw [Int.ediv_lt_iff_lt_mul hz, Int.add_mul, Int.one_mul]; omega
  omega
theorem neg_div {p z : Int} (hz : 0 < z) : (-p) / z = -cdiv p z := by
  have hm := Int.emod_def p z
  rw [Int.mul_comm] at hm
  have h0 := Int.emod_nonneg p (by omega : z ≠ 0)
  have h1 := Int.emod_lt_of_pos p hz
  unfold cdiv
  apply div_unique hz
  · split
    · rw [Int.neg_mul, Int.add_mul, Int.one_mul]; generalize p / z * z = X at *; omega
    · rw [Int.neg_mul]; generalize p / z * z = X at *; omega
  · split
    · rw [Int.neg_mul, Int.add_mul, Int.one_mul]; generalize p / z * z = X at *; omega
    · rw [Int.neg_mul]; generalize p / z * z = X at *; omega
theorem neg_cdiv {p z : Int} (hz : 0 < z) : cdiv (-p) z = -(p / z) := by
  have := neg_div (p := -p) hz
  rw [Int.neg_neg] at this
  omega
theorem cdiv_ge (p z : Int) : p / z ≤ cdiv p z := by unfold cdiv; split <;> omega

theorem ratD_sat {p z : Int} (hp : 0 ≤ p) (hz : 1 ≤ z) : Sat (p / z) (ratD p z) ∧ Sat (cdiv p z) (ratU p z) := by
  have hd := Int.ediv_nonneg hp (by omega : 0 ≤ z)
  have hm := Int.emod_nonneg p (by omega : z ≠ 0)
  unfold ratU ratD ratR ratQ cdiv
  by_cases h : p / 18446744073709551616 < z
  · simp only [if_pos h]
    constructor
    · constructor <;> split <;> omega
    · constructor <;> (repeat' split) <;> omega
  · simp only [if_neg h]
    have hb : 18446744073709551616 ≤ p / z := by
      rw [Int.le_ediv_iff_mul_le (by omega)]
      have : z * 18446744073709551616 ≤ p / 18446744073709551616 * 18446744073709551616 := Int.mul_le_mul_of_nonneg_right (by omega) (by omega)
      have := Int.ediv_mul_le p (by omega : (18446744073709551616 : Int) ≠ 0)
      rw [Int.mul_comm]; omega
    constructor
    · constructor <;> (repeat' split) <;> omega
    · constructor <;> (repeat' split) <;> omega

theorem magn_is (x y : Int) : (x < 0 → y < 0 → x * y = magn x y) ∧ (x < 0 → 0 ≤ y → x * y = -magn x y) ∧ (0 ≤ x → y < 0 → x * y = -magn x y) ∧ (0 ≤ x → 0 ≤ y → x * y = magn x y) := by
  unfold magn
  refine ⟨fun a b => ?_, fun a b => ?_, fun a b => ?_, fun a b => ?_⟩
  · rw [Int.ofNat_natAbs_of_nonpos (by omega), Int.ofNat_natAbs_of_nonpos (by omega), Int.neg_mul_neg]
  · rw [Int.ofNat_natAbs_of_nonpos (by omega), Int.natAbs_of_nonneg b, Int.neg_mul, Int.neg_neg]
  · rw [Int.ofNat_natAbs_of_nonpos (by omega : y ≤ 0), Int.natAbs_of_nonneg a, Int.mul_neg, Int.neg_neg]
  · rw [Int.natAbs_of_nonneg a, Int.natAbs_of_nonneg b]

/-- x * y / z, rounded down and up. -/
def fl (x y z : Int) : Int := x * y / z
def ce (x y z : Int) : Int := cdiv (x * y) z

theorem rD_sat (x y : Int) {z : Int} (hz : 1 ≤ z) : Sat (fl x y z) (rD x y z) ∧ Sat (ce x y z) (rU x y z) := by
  obtain ⟨m1, m2, m3, m4⟩ := magn_is x y
  obtain ⟨s1, s2⟩ := ratD_sat (magn_nonneg x y) hz
  unfold fl ce rD rU
  by_cases hx : x < 0
  · rw [if_pos hx, if_pos hx]
    by_cases hy : y < 0
    · rw [if_pos hy, if_pos hy, m1 hx hy]; exact ⟨s1, s2⟩
    · rw [if_neg hy, if_neg hy, m2 hx (by omega), neg_div (by omega), neg_cdiv (by omega)]; exact ⟨s2.neg, s1.neg⟩
  · rw [if_neg hx, if_neg hx]
    by_cases hy : y < 0
    · rw [if_pos hy, if_pos hy, m3 (by omega) hy, neg_div (by omega), neg_cdiv (by omega)]; exact ⟨s2.neg, s1.neg⟩
    · rw [if_neg hy, if_neg hy, m4 (by omega) (by omega)]; exact ⟨s1, s2⟩

/-- The reference's Quotient. -/
def qU (x y z : Int) : Int := if qW x y z then qQ x y z else qQ x y z + 1
def QD (x y z : Int) : Int := if (x < 0 ∧ 0 < y) ∨ (0 < x ∧ y < 0) then -qU x.natAbs y.natAbs z else qQ x.natAbs y.natAbs z
def QU (x y z : Int) : Int := if (x < 0 ∧ 0 < y) ∨ (0 < x ∧ y < 0) then -qQ x.natAbs y.natAbs z else qU x.natAbs y.natAbs z

theorem qQ_sat {x y z : Int} (hx : 0 ≤ x) (hy : 0 ≤ y) (hz : 1 ≤ z) : Sat (x * y / z) (qQ x y z) ∧ Sat (cdiv (x * y) z) (qU x y z) := by
  have hp := Int.mul_nonneg hx hy
  have hd := Int.ediv_nonneg hp (by omega : 0 ≤ z)
  have hm := Int.emod_nonneg (x * y) (by omega : z ≠ 0)
  unfold qU qQ qW cdiv
  by_cases h : 0 < x / z ∧ 4398046511104 / (x / z) < y
  · simp only [if_pos h]
    have hb : 4398046511104 ≤ x * y / z := by
      have h2 := h.2
      rw [Int.ediv_lt_iff_lt_mul h.1] at h2
      have h3 : y * (x / z) ≤ x * y / z := by
        rw [Int.le_ediv_iff_mul_le (by omega), Int.mul_assoc, Int.mul_comm x y]
        exact Int.mul_le_mul_of_nonneg_left (Int.ediv_mul_le x (by omega)) hy
      omega
    constructor
    · constructor <;> omega
    · constructor <;> (repeat' split) <;> first | omega | (rename_i t; simp at t)
  · simp only [if_neg h]
    constructor
    · constructor <;> omega
    · constructor <;> (repeat' split) <;> rename_i t <;> simp at t <;> omega

theorem QD_sat (x y : Int) {z : Int} (hz : 1 ≤ z) : Sat (fl x y z) (QD x y z) ∧ Sat (ce x y z) (QU x y z) := by
  obtain ⟨m1, m2, m3, m4⟩ := magn_is x y
  obtain ⟨s1, s2⟩ := qQ_sat (x := x.natAbs) (y := y.natAbs) (by omega) (by omega) hz
  unfold fl ce QD QU
  by_cases hd : (x < 0 ∧ 0 < y) ∨ (0 < x ∧ y < 0)
  · rw [if_pos hd, if_pos hd]
    have e : x * y = -((x.natAbs : Int) * (y.natAbs : Int)) := by
      rcases hd with ⟨a, b⟩ | ⟨a, b⟩
      · exact m2 a (by omega)
      · exact m3 (by omega) b
    rw [e, neg_div (by omega), neg_cdiv (by omega)]
    exact ⟨s2.neg, s1.neg⟩
  · rw [if_neg hd, if_neg hd]
    have e : x * y = (x.natAbs : Int) * (y.natAbs : Int) := by
      rcases Int.lt_trichotomy x 0 with a | a | a
      · rcases Int.lt_trichotomy y 0 with b | b | b
        · exact m1 a b
        · subst b; simp
        · exact absurd (.inl ⟨a, b⟩) hd
      · subst a; simp
      · rcases Int.lt_trichotomy y 0 with b | b | b
        · exact absurd (.inr ⟨a, b⟩) hd
        · subst b; simp
        · exact m4 (by omega) (by omega)
    rw [e]
    exact ⟨s1, s2⟩

end Go.Proofs.Ytflgdckeinappaa
