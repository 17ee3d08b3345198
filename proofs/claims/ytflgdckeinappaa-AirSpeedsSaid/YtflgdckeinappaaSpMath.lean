/- Speeds and ways: plain mathematics of products at the ends, squares, and roots of quotients. -/
import Derived.Test.YtflgdckeinappaaSame
import Derived.Test.YtflgdckeinappaaRoots
namespace Go.Proofs.Ytflgdckeinappaa
open Go.RowKit

def lo4 (a b c d : Int) : Int := min (min (a * c) (b * c)) (min (a * d) (b * d))
def hi4 (a b c d : Int) : Int := max (max (a * c) (b * c)) (max (a * d) (b * d))
theorem fl_one (x y : Int) : fl x y 1 = x * y := by unfold fl; exact Int.ediv_one _
theorem ce_one (x y : Int) : ce x y 1 = x * y := by unfold ce cdiv; rw [if_neg (by omega)]; exact Int.ediv_one _
theorem endOf_same (a n : Int) : endOf a a n = a := by unfold endOf; split <;> rfl
theorem picks (a b : Int) : (pickA a b 0 = a ∧ pickA a b 1 = b ∧ pickA a b 2 = a ∧ pickA a b 3 = b ∧ pickA a b 4 = a ∧ pickA a b 5 = b ∧ pickA a b 6 = a ∧ pickA a b 7 = b) ∧
    (pickB a b 0 = a ∧ pickB a b 1 = a ∧ pickB a b 2 = b ∧ pickB a b 3 = b ∧ pickB a b 4 = a ∧ pickB a b 5 = a ∧ pickB a b 6 = b ∧ pickB a b 7 = b) := ⟨⟨rfl, rfl, rfl, rfl, rfl, rfl, rfl, rfl⟩, ⟨rfl, rfl, rfl, rfl, rfl, rfl, rfl, rfl⟩⟩
theorem pickC_same (a : Int) (i : Nat) : pickC a a i = a := endOf_same _ _
theorem tD_one (a b c d : Int) : tD a b c d 1 1 = lo4 a b c d := by
  obtain ⟨⟨a0, a1, a2, a3, a4, a5, a6, a7⟩, -⟩ := picks a b
  obtain ⟨-, ⟨b0, b1, b2, b3, b4, b5, b6, b7⟩⟩ := picks c d
  unfold tD min8 lo4
  simp only [pickC_same, fl_one, List.foldl, a0, a1, a2, a3, a4, a5, a6, a7, b0, b1, b2, b3, b4, b5, b6, b7]
  omega
theorem tU_one (a b c d : Int) : tU a b c d 1 1 = hi4 a b c d := by
  obtain ⟨⟨a0, a1, a2, a3, a4, a5, a6, a7⟩, -⟩ := picks a b
  obtain ⟨-, ⟨b0, b1, b2, b3, b4, b5, b6, b7⟩⟩ := picks c d
  unfold tU max8 hi4
  simp only [pickC_same, ce_one, List.foldl, a0, a1, a2, a3, a4, a5, a6, a7, b0, b1, b2, b3, b4, b5, b6, b7]
  omega
theorem pickA_same (a : Int) (i : Nat) : pickA a a i = a := endOf_same _ _
theorem pickB_same (a : Int) (i : Nat) : pickB a a i = a := endOf_same _ _
theorem tD_same (x y z : Int) : tD x x y y z z = fl x y z := by
  unfold tD min8
  simp only [pickA_same, pickB_same, pickC_same, List.foldl]
  omega
theorem tU_same (x y z : Int) : tU x x y y z z = ce x y z := by
  unfold tU max8
  simp only [pickA_same, pickB_same, pickC_same, List.foldl]
  omega

/-! ### Squares -/
def near (a b : Int) : Int := max (max a (-b)) 0
def far (a b : Int) : Int := max b (-a)
theorem near_pos {a b : Int} (h : 0 < a) (hab : a ≤ b) : near a b = a := by unfold near; omega
theorem near_neg {a b : Int} (h : b < 0) (hab : a ≤ b) : near a b = -b := by unfold near; omega
theorem near_mid {a b : Int} (h : a ≤ 0) (h' : 0 ≤ b) : near a b = 0 := by unfold near; omega
theorem sq_parts {a b : Int} (hab : a ≤ b) : max (lo4 a b a b) 0 = near a b * near a b ∧ hi4 a b a b = far a b * far a b := by
  have hc : b * a = a * b := Int.mul_comm _ _
  have naa : (-a) * (-a) = a * a := Int.neg_mul_neg _ _
  have nbb : (-b) * (-b) = b * b := Int.neg_mul_neg _ _
  have pa : 0 ≤ a * a := by
    rcases Int.le_total 0 a with h | h
    · exact Int.mul_nonneg h h
    · rw [← naa]; exact Int.mul_nonneg (by omega) (by omega)
  have pb : 0 ≤ b * b := by
    rcases Int.le_total 0 b with h | h
    · exact Int.mul_nonneg h h
    · rw [← nbb]; exact Int.mul_nonneg (by omega) (by omega)
  unfold lo4 hi4
  rw [hc]
  have hm : (max b (-a)) * (max b (-a)) = max (a * a) (b * b) := by
    rcases Int.le_total b (-a) with h | h
    · rw [show max b (-a) = -a by omega, naa]
      have : b * b ≤ a * a := by
        rcases Int.le_total 0 b with h0 | h0
        · rw [← naa]; exact sq_mono h0 h
        · rw [← naa, ← nbb]; exact sq_mono (by omega) (by omega)
      omega
    · rw [show max b (-a) = b by omega]
      have : a * a ≤ b * b := by
        rcases Int.le_total 0 a with h0 | h0
        · exact sq_mono h0 hab
        · rw [← naa]; exact sq_mono (by omega) h
      omega
  unfold far
  rw [hm]
  by_cases h0 : 0 < a
  · rw [near_pos h0 hab]
    have h1 : a * a ≤ a * b := Int.mul_le_mul_of_nonneg_left hab (by omega)
    have h2 : a * b ≤ b * b := Int.mul_le_mul_of_nonneg_right hab (by omega)
    omega
  · by_cases h1 : b < 0
    · rw [near_neg h1 hab, nbb]
      have h2 : (-b) * (-b) ≤ (-a) * (-b) := Int.mul_le_mul_of_nonneg_right (by omega) (by omega)
      have h3 : (-a) * (-b) ≤ (-a) * (-a) := Int.mul_le_mul_of_nonneg_left (by omega) (by omega)
      rw [nbb, Int.neg_mul_neg] at h2
      rw [naa, Int.neg_mul_neg] at h3
      omega
    · rw [near_mid (by omega) (by omega)]
      have h2 : 0 ≤ (-a) * b := Int.mul_nonneg (by omega) (by omega)
      rw [Int.neg_mul] at h2
      omega
theorem near_bd {a b m : Int} (h0 : -m ≤ a) (h1 : b ≤ m) (hab : a ≤ b) : 0 ≤ near a b ∧ near a b ≤ far a b ∧ far a b ≤ m := by unfold near far; omega

/-! ### Roots of quotients -/
/-- n through the root of q, rounded down. -/
def PLo (n q u : Int) : Prop := if 0 ≤ n then IsLo (n * n / q) u else IsHi (cdiv (n * n) q) (-u)
theorem PLo.pos {n q u : Int} (h : 0 ≤ n) : PLo n q u ↔ IsLo (n * n / q) u := by unfold PLo; rw [if_pos h]
theorem PLo.neg {n q u : Int} (h : n < 0) : PLo n q u ↔ IsHi (cdiv (n * n) q) (-u) := by unfold PLo; rw [if_neg (by omega)]
theorem PLo.uniq {n q u v : Int} (h : PLo n q u) (k : PLo n q v) : u = v := by
  by_cases hn : 0 ≤ n
  · rw [PLo.pos hn] at h k; exact h.uniq k
  · rw [PLo.neg (by omega)] at h k; have := h.uniq k; omega
/-- The other end, by the number's opposite. -/
theorem PLo.hi {n q r s : Int} (hr : IsLo (n * n / q) r) (hs : IsHi (cdiv (n * n) q) s) : PLo n q (if n < 0 then -s else r) ∧ PLo (-n) q (-(if n < 0 then -r else s)) := by
  by_cases hn : n < 0
  · rw [if_pos hn, if_pos hn, PLo.neg hn, PLo.pos (by omega), Int.neg_mul_neg, Int.neg_neg, Int.neg_neg]
    exact ⟨hs, hr⟩
  · rw [if_neg hn, if_neg hn, PLo.pos (by omega)]
    refine ⟨hr, ?_⟩
    by_cases h0 : n = 0
    · subst h0
      have hs' : s = 0 := by
        rcases hs.2.2.2 with e | e
        · exact e
        · have e0 : cdiv (0 * 0 : Int) q = 0 := by unfold cdiv; simp
          rw [e0] at e
          have h1 := hs.1
          by_cases h2 : s = 0
          · exact h2
          · have := Int.mul_nonneg (show (0 : Int) ≤ s - 1 by omega) (show (0 : Int) ≤ s - 1 by omega)
            omega
      rw [hs', PLo.pos (by omega)]
      refine ⟨by omega, by omega, by simp, by simp⟩
    · rw [PLo.neg (by omega), Int.neg_mul_neg, Int.neg_neg]
      exact hs
theorem cdiv_le {p q m : Int} (hq : 1 ≤ q) (h : p ≤ m * q) : cdiv p q ≤ m := by
  have h1 : p / q ≤ m := by
    have := Int.ediv_le_ediv (by omega : (0 : Int) < q) h
    rwa [Int.mul_ediv_cancel _ (by omega)] at this
  unfold cdiv
  split
  · rename_i hr
    have hd : q * (p / q) + p % q = p := Int.mul_ediv_add_emod p q
    by_cases he : p / q = m
    · rw [he, Int.mul_comm] at hd; omega
    · omega
  · exact h1
theorem le_cdiv_mul {p q : Int} (hq : 1 ≤ q) : p ≤ cdiv p q * q ∧ ∀ m, p ≤ m * q → cdiv p q ≤ m := by
  refine ⟨?_, fun m h => cdiv_le hq h⟩
  have hd : q * (p / q) + p % q = p := Int.mul_ediv_add_emod p q
  have hm : p % q < q := Int.emod_lt_of_pos _ (by omega)
  have hm0 : 0 ≤ p % q := Int.emod_nonneg _ (by omega)
  unfold cdiv
  rw [Int.mul_comm] at hd
  split
  · rw [Int.add_mul, Int.one_mul]; omega
  · omega
/-- The reference's way to the root, rounded up. -/
theorem root_up {p q k : Int} (hq : 1 ≤ q) (h : IsLo (p / q) k) : (k * k * q < p → IsHi (cdiv p q) (k + 1)) ∧ (¬ k * k * q < p → IsHi (cdiv p q) k) := by
  obtain ⟨k0, k1, k2, k3⟩ := h
  obtain ⟨c1, c2⟩ := le_cdiv_mul (p := p) hq
  have hge := cdiv_ge p q
  constructor
  · intro hlt
    refine ⟨by omega, by omega, ?_, .inr ?_⟩
    · unfold cdiv; split <;> omega
    · rw [Int.add_sub_cancel]
      rcases Int.lt_or_le (k * k) (cdiv p q) with h1 | h1
      · exact h1
      · have := Int.mul_le_mul_of_nonneg_right h1 (show (0 : Int) ≤ q by omega)
        omega
  · intro hge'
    have hc : cdiv p q ≤ k * k := c2 _ (by omega)
    refine ⟨by omega, by omega, hc, ?_⟩
    by_cases h0 : k = 0
    · exact .inl h0
    · have e : (k - 1) * (k - 1) = k * k - 2 * k + 1 := by rw [Int.sub_mul, Int.mul_sub, Int.mul_sub]; omega
      exact .inr (by omega)

/-- The bound of a wind along a way. -/
theorem sq_abs {x m : Int} (h0 : -m ≤ x) (h1 : x ≤ m) : x * x ≤ m * m := by
  rcases Int.le_total 0 x with h | h
  · exact sq_mono h h1
  · rw [← Int.neg_mul_neg x x]; exact sq_mono (by omega) (by omega)
theorem sq_nn (x : Int) : 0 ≤ x * x := by
  rcases Int.le_total 0 x with h | h
  · exact Int.mul_nonneg h h
  · rw [← Int.neg_mul_neg x x]; exact Int.mul_nonneg (by omega) (by omega)
theorem along_bd {x y dx dy : Int} (hx0 : -2000 ≤ x) (hx1 : x ≤ 2000) (hy0 : -2000 ≤ y) (hy1 : y ≤ 2000) :
    (x * dx + y * dy) * (x * dx + y * dy) ≤ 8000000 * (dx * dx + dy * dy) := by
  obtain ⟨A, hA⟩ : ∃ A, x * dx = A := ⟨_, rfl⟩
  obtain ⟨B, hB⟩ : ∃ B, y * dy = B := ⟨_, rfl⟩
  have h1 : A * A ≤ 4000000 * (dx * dx) := by
    rw [← hA, show x * dx * (x * dx) = x * x * (dx * dx) by rw [Int.mul_assoc, Int.mul_left_comm dx x dx, ← Int.mul_assoc]]
    exact Int.mul_le_mul_of_nonneg_right (by have := sq_abs hx0 hx1; omega) (sq_nn dx)
  have h2 : B * B ≤ 4000000 * (dy * dy) := by
    rw [← hB, show y * dy * (y * dy) = y * y * (dy * dy) by rw [Int.mul_assoc, Int.mul_left_comm dy y dy, ← Int.mul_assoc]]
    exact Int.mul_le_mul_of_nonneg_right (by have := sq_abs hy0 hy1; omega) (sq_nn dy)
  have h3 := sq_nn (A - B)
  rw [Int.sub_mul, Int.mul_sub, Int.mul_sub, Int.mul_comm B A] at h3
  rw [hA, hB, Int.add_mul, Int.mul_add, Int.mul_add, Int.mul_comm B A]
  omega
/-- The least and the greatest of a span's products by a number. -/
theorem lo4_one (a b d : Int) : lo4 a b d d = min (a * d) (b * d) := by unfold lo4; omega
theorem hi4_one (a b d : Int) : hi4 a b d d = max (a * d) (b * d) := by unfold hi4; omega
def low (a b c d dx dy : Int) : Int := min (a * dx) (b * dx) + min (c * dy) (d * dy)
def high (a b c d dx dy : Int) : Int := max (a * dx) (b * dx) + max (c * dy) (d * dy)
theorem mul_lim {x d : Int} (hx0 : -2000 ≤ x) (hx1 : x ≤ 2000) (hd0 : -10000 ≤ d) (hd1 : d ≤ 10000) : -20000000 ≤ x * d ∧ x * d ≤ 20000000 := by
  have h := Int.mul_le_mul (show (x.natAbs : Int) ≤ 2000 by omega) (show (d.natAbs : Int) ≤ 10000 by omega) (by omega) (by omega)
  have e : ((x * d).natAbs : Int) = x.natAbs * d.natAbs := by rw [Int.natAbs_mul]; rfl
  omega
theorem low_bd {a b c d dx dy : Int} (ha0 : -2000 ≤ a) (ha1 : a ≤ 2000) (hb0 : -2000 ≤ b) (hb1 : b ≤ 2000) (hc0 : -2000 ≤ c) (hc1 : c ≤ 2000) (hd0 : -2000 ≤ d) (hd1 : d ≤ 2000) :
    low a b c d dx dy * low a b c d dx dy ≤ 8000000 * (dx * dx + dy * dy) ∧ high a b c d dx dy * high a b c d dx dy ≤ 8000000 * (dx * dx + dy * dy) := by
  unfold low high
  constructor
  · rcases (show min (a * dx) (b * dx) = a * dx ∨ min (a * dx) (b * dx) = b * dx by omega) with h | h <;>
    rcases (show min (c * dy) (d * dy) = c * dy ∨ min (c * dy) (d * dy) = d * dy by omega) with k | k <;> rw [h, k] <;> apply along_bd <;> assumption
  · rcases (show max (a * dx) (b * dx) = a * dx ∨ max (a * dx) (b * dx) = b * dx by omega) with h | h <;>
    rcases (show max (c * dy) (d * dy) = c * dy ∨ max (c * dy) (d * dy) = d * dy by omega) with k | k <;> rw [h, k] <;> apply along_bd <;> assumption
end Go.Proofs.Ytflgdckeinappaa
