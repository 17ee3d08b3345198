/- size, ratio: x * y / z, rounded down and up, what is beyond MaxBound just beyond it. -/
import Derived.Test.YtflgdckeinappaaDiv64
import Derived.Test.YtflgdckeinappaaSpans
namespace Go.Proofs.Ytflgdckeinappaa
open Go.RowKit

/-- What ratio's walk comes to, for a product p of the sizes. -/
def ratQ (p z : Int) : Int := if p / 18446744073709551616 < z then p / z else 1099511627777
def ratR (p z : Int) : Int := if p / 18446744073709551616 < z then p % z else 0
def ratD (p z : Int) : Int := if 1099511627777 < ratQ p z then 1099511627777 else ratQ p z
def ratU (p z : Int) : Int := if 0 < ratR p z then ratD p z + 1 else ratD p z
def magn (x y : Int) : Int := (x.natAbs : Int) * (y.natAbs : Int)
def rD (x y z : Int) : Int := if x < 0 then (if y < 0 then ratD (magn x y) z else -ratU (magn x y) z) else (if y < 0 then -ratU (magn x y) z else ratD (magn x y) z)
def rU (x y z : Int) : Int := if x < 0 then (if y < 0 then ratU (magn x y) z else -ratD (magn x y) z) else (if y < 0 then -ratD (magn x y) z else ratU (magn x y) z)

theorem ratQ_yes {p z hi lo : Int} (h : hi * 18446744073709551616 + lo = p) (h0 : 0 ≤ lo) (h1 : lo < 18446744073709551616) (hz : hi < z) : ratQ p z = p / z ∧ ratR p z = p % z := by
  have : p / 18446744073709551616 = hi := by omega
  unfold ratQ ratR; rw [this, if_pos hz, if_pos hz]; exact ⟨rfl, rfl⟩
theorem ratQ_no {p z hi lo : Int} (h : hi * 18446744073709551616 + lo = p) (h0 : 0 ≤ lo) (h1 : lo < 18446744073709551616) (hz : ¬ hi < z) : ratQ p z = 1099511627777 ∧ ratR p z = 0 := by
  have : p / 18446744073709551616 = hi := by omega
  unfold ratQ ratR; rw [this, if_neg hz, if_neg hz]; exact ⟨rfl, rfl⟩

theorem magn_nonneg (x y : Int) : 0 ≤ magn x y := Int.mul_nonneg (by omega) (by omega)
theorem ratQ_nonneg {p z : Int} (hp : 0 ≤ p) (hz : 1 ≤ z) : 0 ≤ ratQ p z := by
  unfold ratQ; split
  · exact Int.ediv_nonneg hp (by omega)
  · omega
theorem ratD_bd {p z : Int} (hp : 0 ≤ p) (hz : 1 ≤ z) : 0 ≤ ratD p z ∧ ratD p z ≤ 1099511627777 := by
  have := ratQ_nonneg hp hz
  unfold ratD; split <;> omega
theorem ratU_bd {p z : Int} (hp : 0 ≤ p) (hz : 1 ≤ z) : 0 ≤ ratU p z ∧ ratU p z ≤ 1099511627778 := by
  have := ratD_bd hp hz
  unfold ratU; split <;> omega
theorem rD_bd (x y : Int) {z : Int} (hz : 1 ≤ z) : -1099511627778 ≤ rD x y z ∧ rD x y z ≤ 1099511627778 := by
  have := ratD_bd (magn_nonneg x y) hz; have := ratU_bd (magn_nonneg x y) hz
  unfold rD; repeat' split
  all_goals omega
theorem rU_bd (x y : Int) {z : Int} (hz : 1 ≤ z) : -1099511627778 ≤ rU x y z ∧ rU x y z ≤ 1099511627778 := by
  have := ratD_bd (magn_nonneg x y) hz; have := ratU_bd (magn_nonneg x y) hz
  unfold rU; repeat' split
  all_goals omega

set_option maxHeartbeats 400000 in
theorem size_any (n : Int) (w : World) (h1 : -1099511627776 ≤ n) (h2 : n ≤ 1099511627776) :
    Calls Try.prog 150 #[.int .i64 n] w fun e w' => e = .returned (.int .u64 ((n.natAbs : Nat) : Int)) ∧ w = w' := by
  go_enter Try.func150, Try.ntmps150
  go_wp2
  all_goals (go_returns; exact ⟨ret_int (by omega), rfl⟩)

theorem ret_ii {k : IntKind} {a b a' b' : Int} (h1 : a = a') (h2 : b = b') : Ending.returned (.tuple #[.int k a, .int k b]) = .returned (.tuple #[.int k a', .int k b']) := by rw [h1, h2]

theorem lt_64 {n : Int} (h1 : -1099511627776 ≤ n) (h2 : n ≤ 1099511627776) : n.natAbs < 18446744073709551616 := by omega
/-- The product's two words. -/
theorem words (x y : Int) : ∃ hi lo : Int, ((x.natAbs * y.natAbs / 18446744073709551616 : Nat) : Int) = hi ∧ ((x.natAbs * y.natAbs % 18446744073709551616 : Nat) : Int) = lo ∧ hi * 18446744073709551616 + lo = magn x y ∧ 0 ≤ hi ∧ 0 ≤ lo ∧ lo ≤ 18446744073709551615 := by
  refine ⟨_, _, rfl, rfl, ?_, by omega, by omega, by omega⟩
  unfold magn
  rw [← Int.natCast_mul]
  omega

theorem dec_lt (x : Int) : (decide (x < 0) = true ∧ x < 0) ∨ (decide (x < 0) = false ∧ 0 ≤ x) := by
  by_cases h : x < 0
  · exact .inl ⟨by simp [h], h⟩
  · exact .inr ⟨by simp; omega, by omega⟩

set_option maxHeartbeats 1000000 in
theorem ratio_any (x y z : Int) (w : World) (hx1 : -1099511627776 ≤ x) (hx2 : x ≤ 1099511627776) (hy1 : -1099511627776 ≤ y) (hy2 : y ≤ 1099511627776) (hz1 : 1 ≤ z) (hz2 : z ≤ 1099511627776) :
    Calls Try.prog 129 #[.int .i64 x, .int .i64 y, .int .i64 z] w fun e w' => e = .returned (.tuple #[.int .i64 (rD x y z), .int .i64 (rU x y z)]) ∧ Below w.heap.size w w' := by
  obtain ⟨hi, lo, hhi, hlo, hsum, h0, l0, l1⟩ := words x y
  have Hhi := Lib.hid hhi
  have Hlo := Lib.hid hlo
  have Hsum := Lib.hid hsum
  clear hhi hlo hsum
  go_enter Try.func129, Try.ntmps129
  go_wp2_with fail
  refine (size_any x _ hx1 hx2).mono ?_
  rintro e w1 ⟨rfl, rfl⟩
  go_wp2_with fail
  refine (size_any y _ hy1 hy2).mono ?_
  rintro e w1 ⟨rfl, rfl⟩
  go_wp2_with fail
  refine (Try.bits_Mul64 _ _ (lt_64 hx1 hx2) (lt_64 hy1 hy2) _).mono ?_
  rintro e w1 ⟨rfl, rfl⟩
  rw [Hhi.out, Hlo.out]
  by_cases hz : hi < z
  · go_wp2_with fail
    refine (div64_any _ _ _ _ h0 hz l0 l1 hz2).mono ?_
    rintro e w2 ⟨rfl, hb2⟩
    obtain ⟨gq, gr⟩ := ratQ_yes Hsum.out l0 (by omega) hz
    rw [Hsum.out, ← gq, ← gr]
    clear gq gr
    obtain ⟨q, hq⟩ : ∃ q : Int, ratQ (magn x y) z = q := ⟨_, rfl⟩
    obtain ⟨r, hr⟩ : ∃ r : Int, ratR (magn x y) z = r := ⟨_, rfl⟩
    have hq0 := ratQ_nonneg (magn_nonneg x y) hz1
    rw [hq] at hq0
    rw [hq, hr]
    have Hq := Lib.hid hq
    have Hr := Lib.hid hr
    clear hq hr
    by_cases c1 : 1099511627777 < q <;> by_cases c2 : 0 < r <;> rcases dec_lt x with ⟨hx, c3⟩ | ⟨hx, c3⟩ <;> rcases dec_lt y with ⟨hy, c4⟩ | ⟨hy, c4⟩
    all_goals
      go_wp2_with fail
      go_returns
      exact ⟨ret_ii (by unfold rD ratU ratD; rw [Hq.out, Hr.out]; repeat' (first | omega | split)) (by unfold rU ratU ratD; rw [Hq.out, Hr.out]; repeat' (first | omega | split)), by go_grown⟩
  · obtain ⟨gq, gr⟩ := ratQ_no Hsum.out l0 (by omega) hz
    have Hq := Lib.hid gq
    have Hr := Lib.hid gr
    clear gq gr
    rcases dec_lt x with ⟨hx, c3⟩ | ⟨hx, c3⟩ <;> rcases dec_lt y with ⟨hy, c4⟩ | ⟨hy, c4⟩
    all_goals
      go_wp2_with fail
      go_returns
      exact ⟨ret_ii (by unfold rD ratU ratD; rw [Hq.out, Hr.out]; repeat' (first | omega | split)) (by unfold rU ratU ratD; rw [Hq.out, Hr.out]; repeat' (first | omega | split)), by go_grown⟩

end Go.Proofs.Ytflgdckeinappaa
