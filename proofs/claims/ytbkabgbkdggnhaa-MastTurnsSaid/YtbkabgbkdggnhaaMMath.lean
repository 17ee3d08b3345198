/- Crosswinds: numbers only. -/
import Derived.Test.YtbkabgbkdggnhaaBase
namespace Go.Proofs.Ytbkabgbkdggnhaa

theorem sq_mono {a b : Int} (h0 : 0 ≤ a) (h : a ≤ b) : a * a ≤ b * b := Int.mul_le_mul h h h0 (by omega)
theorem sq_nonneg (a : Int) : 0 ≤ a * a := by
  rcases Int.le_total 0 a with h | h
  · exact Int.mul_nonneg h h
  · have := Int.mul_nonneg (show 0 ≤ -a by omega) (show 0 ≤ -a by omega)
    rwa [Int.neg_mul_neg] at this
theorem nat_sq (x : Int) : (x.natAbs : Int) * x.natAbs = x * x := by
  rcases Int.natAbs_eq x with h | h
  · rw [← h]
  · have e : (x.natAbs : Int) = -x := by omega
    rw [e, Int.neg_mul_neg]
theorem sq_two (u v : Int) : (2000 * u + 2000 * v) * (2000 * u + 2000 * v) = 4000000 * (u * u + 2 * (u * v) + v * v) := by
  have e1 : 2000 * u + 2000 * v = 2000 * (u + v) := by omega
  have e2 : (2000 * (u + v)) * (2000 * (u + v)) = 4000000 * ((u + v) * (u + v)) := by
    rw [Int.mul_assoc, Int.mul_left_comm (u + v) 2000, ← Int.mul_assoc]
    rfl
  have e3 : (u + v) * (u + v) = u * u + u * v + (u * v + v * v) := by rw [Int.add_mul, Int.mul_add, Int.mul_add, Int.mul_comm v u]
  rw [e1, e2, e3]
  omega
theorem sq_sub (u v : Int) : (u - v) * (u - v) = u * u - 2 * (u * v) + v * v := by
  rw [Int.sub_mul, Int.mul_sub, Int.mul_sub, Int.mul_comm v u]
  omega
theorem sqm_mono {a b n : Int} (h0 : 0 ≤ a) (hn : 0 ≤ n) (h : a ≤ b) : a * a * n ≤ b * b * n := Int.mul_le_mul_of_nonneg_right (sq_mono h0 h) hn
theorem sqm_lt {a b n : Int} (h0 : 0 ≤ b) (hn : 0 ≤ n) (h : a * a * n < b * b * n) : a < b := by
  rcases Int.lt_or_le a b with h1 | h1
  · exact h1
  · have := sqm_mono h0 hn h1; omega

/-- The greatest whole number that is not above n over the root of q. -/
def IsDn (n q r : Int) : Prop := 0 ≤ r ∧ r * r * q ≤ n * n ∧ n * n < (r + 1) * (r + 1) * q
/-- The least one that is not below it. -/
def IsUp (n q r : Int) : Prop := 0 ≤ r ∧ n * n ≤ r * r * q ∧ (r = 0 ∨ (r - 1) * (r - 1) * q < n * n)
theorem IsDn.uniq {n q r r' : Int} (hq : 0 ≤ q) (h : IsDn n q r) (h' : IsDn n q r') : r = r' := by
  have a : r < r' + 1 := sqm_lt (by have := h'.1; omega) hq (by have := h.2.1; have := h'.2.2; omega)
  have b : r' < r + 1 := sqm_lt (by have := h.1; omega) hq (by have := h'.2.1; have := h.2.2; omega)
  omega
theorem IsUp.le {n q s s' : Int} (hq : 0 ≤ q) (h : IsUp n q s) (h' : IsUp n q s') : s ≤ s' := by
  rcases h.2.2 with e | e
  · have := h'.1; omega
  · have : s - 1 < s' := sqm_lt h'.1 hq (by have := h'.2.1; omega)
    omega
theorem IsUp.uniq {n q s s' : Int} (hq : 0 ≤ q) (h : IsUp n q s) (h' : IsUp n q s') : s = s' := by
  have := h.le hq h'; have := h'.le hq h; omega
theorem IsUp.most {n q s m : Int} (hq : 0 ≤ q) (h : IsUp n q s) (hm : 0 ≤ m) : s ≤ m ↔ n * n ≤ m * m * q := by
  constructor
  · intro h1
    have := sqm_mono h.1 hq h1
    have := h.2.1
    omega
  · intro h1
    rcases h.2.2 with e | e
    · omega
    · have : s - 1 < m := sqm_lt hm hq (by omega)
      omega

/-- A span in a range, its ends in order; a number in a range. -/
def spB (a b lo hi : Int) : Bool := decide (lo ≤ a ∧ a ≤ b ∧ b ≤ hi)
def inB (n lo hi : Int) : Bool := decide (lo ≤ n ∧ n ≤ hi)
/-- Valid winds and axes, and their errors. -/
def windB (a b c d : Int) : Bool := spB a b (-2000) 2000 && spB c d (-2000) 2000
def axisB (x y : Int) : Bool := inB x (-1000) 1000 && inB y (-1000) 1000 && !(decide (x = 0) && decide (y = 0))
def windN (a b c d : Int) : Int := if windB a b c d then 0 else 71
def axisN (x y : Int) : Int := if axisB x y then 0 else 70
theorem windB_bd {a b c d : Int} (h : windB a b c d = true) : -2000 ≤ a ∧ a ≤ b ∧ b ≤ 2000 ∧ -2000 ≤ c ∧ c ≤ d ∧ d ≤ 2000 := by
  simp [windB, spB] at h; omega
theorem axisB_bd {x y : Int} (h : axisB x y = true) : -1000 ≤ x ∧ x ≤ 1000 ∧ -1000 ≤ y ∧ y ≤ 1000 ∧ (x ≠ 0 ∨ y ≠ 0) := by
  simp [axisB, inB] at h; omega

/-- What goes across, times the axis' length: its least and its greatest. -/
def acrL (a b c d x y : Int) : Int := min (a * y) (b * y) + min (c * (-x)) (d * (-x))
def acrH (a b c d x y : Int) : Int := max (a * y) (b * y) + max (c * (-x)) (d * (-x))
def crL (a b c d x y : Int) : Int := max 0 (max (acrL a b c d x y) (-(acrH a b c d x y)))
def crG (a b c d x y : Int) : Int := max (-(acrL a b c d x y)) (acrH a b c d x y)
/-- The square of the axis' length. -/
def lon (x y : Int) : Int := x * x + y * y

theorem mul_bd {a y m : Int} (h0 : -m ≤ a) (h1 : a ≤ m) : a * y ≤ m * (y.natAbs : Int) ∧ -(m * (y.natAbs : Int)) ≤ a * y := by
  rcases Int.le_total 0 y with h | h
  · rw [show (y.natAbs : Int) = y by omega]
    have := Int.mul_le_mul_of_nonneg_right h1 h
    have := Int.mul_le_mul_of_nonneg_right h0 h
    rw [Int.neg_mul] at this
    exact ⟨by omega, by omega⟩
  · rw [show (y.natAbs : Int) = -y by omega]
    have h2 := Int.mul_le_mul_of_nonneg_right h1 (show 0 ≤ -y by omega)
    have h3 := Int.mul_le_mul_of_nonneg_right h0 (show 0 ≤ -y by omega)
    simp only [Int.mul_neg, Int.neg_mul, Int.neg_neg] at h2 h3 ⊢
    exact ⟨by omega, by omega⟩
theorem lon_bd {x y : Int} (h : axisB x y = true) : 1 ≤ lon x y ∧ lon x y ≤ 2000000 ∧ 0 ≤ x * x ∧ x * x ≤ 1000000 ∧ 0 ≤ y * y ∧ y * y ≤ 1000000 := by
  obtain ⟨x0, x1, y0, y1, hn⟩ := axisB_bd h
  have a0 := sq_nonneg x
  have b0 := sq_nonneg y
  have a1 : x * x ≤ 1000000 := by
    have := sq_mono (a := (x.natAbs : Int)) (b := 1000) (by omega) (by omega)
    rw [nat_sq] at this
    omega
  have b1 : y * y ≤ 1000000 := by
    have := sq_mono (a := (y.natAbs : Int)) (b := 1000) (by omega) (by omega)
    rw [nat_sq] at this
    omega
  refine ⟨?_, by unfold lon; omega, a0, a1, b0, b1⟩
  unfold lon
  rcases hn with e | e
  · have : 1 ≤ x * x := by
      have := sq_mono (a := 1) (b := (x.natAbs : Int)) (by omega) (by omega)
      rw [nat_sq] at this
      omega
    omega
  · have : 1 ≤ y * y := by
      have := sq_mono (a := 1) (b := (y.natAbs : Int)) (by omega) (by omega)
      rw [nat_sq] at this
      omega
    omega
/-- All that is known of what goes across. -/
theorem acr_bd {a b c d x y : Int} (hw : windB a b c d = true) (hx : axisB x y = true) :
    acrL a b c d x y ≤ acrH a b c d x y ∧ -4000000 ≤ acrL a b c d x y ∧ acrH a b c d x y ≤ 4000000 ∧ 0 ≤ crL a b c d x y ∧ crL a b c d x y ≤ crG a b c d x y ∧ crG a b c d x y ≤ 4000000 ∧ crG a b c d x y * crG a b c d x y < 4000 * 4000 * lon x y := by
  obtain ⟨w0, w1, w2, w3, w4, w5⟩ := windB_bd hw
  obtain ⟨x0, x1, y0, y1, hn⟩ := axisB_bd hx
  obtain ⟨l0, l1, l2, l3, l4, l5⟩ := lon_bd hx
  obtain ⟨p0, p1⟩ := mul_bd (y := y) (show -2000 ≤ a by omega) (show a ≤ 2000 by omega)
  obtain ⟨q0, q1⟩ := mul_bd (y := y) (show -2000 ≤ b by omega) (show b ≤ 2000 by omega)
  obtain ⟨r0, r1⟩ := mul_bd (y := -x) (show -2000 ≤ c by omega) (show c ≤ 2000 by omega)
  obtain ⟨s0, s1⟩ := mul_bd (y := -x) (show -2000 ≤ d by omega) (show d ≤ 2000 by omega)
  rw [Int.natAbs_neg] at r0 r1 s0 s1
  have hG : crG a b c d x y ≤ 2000 * (x.natAbs : Int) + 2000 * (y.natAbs : Int) := by unfold crG acrL acrH; omega
  have hG0 : 0 ≤ crG a b c d x y := by unfold crG acrL acrH; omega
  have hc : crG a b c d x y * crG a b c d x y < 4000 * 4000 * lon x y := by
    have h1 := sq_mono hG0 hG
    have e := sq_two (x.natAbs : Int) (y.natAbs : Int)
    have h2 := sq_nonneg ((x.natAbs : Int) - y.natAbs)
    have e2 := sq_sub (x.natAbs : Int) (y.natAbs : Int)
    rw [nat_sq, nat_sq] at e e2
    unfold lon at l0 ⊢
    omega
  refine ⟨by unfold acrL acrH; omega, by unfold acrL; omega, by unfold acrH; omega, by unfold crL; omega, by unfold crL crG acrL acrH; omega, by omega, hc⟩

/-- Whether a wind is calm. -/
def calmB (a b c d x y m : Int) : Bool := decide (crG a b c d x y * crG a b c d x y ≤ m * m * lon x y)
/-- The span of crosswinds. -/
def CrossP (a b c d x y r s : Int) : Prop := IsDn (crL a b c d x y) (lon x y) r ∧ IsUp (crG a b c d x y) (lon x y) s

/-- The four corners, as the reference has them. -/
theorem corners {a b c d x y : Int} :
    min (min (min (a * y - c * x) (a * y - d * x)) (b * y - c * x)) (b * y - d * x) = acrL a b c d x y ∧ max (max (max (a * y - c * x) (a * y - d * x)) (b * y - c * x)) (b * y - d * x) = acrH a b c d x y := by
  unfold acrL acrH
  simp only [Int.mul_neg]
  omega
end Go.Proofs.Ytbkabgbkdggnhaa
