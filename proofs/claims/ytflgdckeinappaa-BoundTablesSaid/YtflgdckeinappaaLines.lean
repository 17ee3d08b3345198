/- beyond, floor, and the lines between two knots. -/
import Derived.Test.YtflgdckeinappaaSatMath
namespace Go.Proofs.Ytflgdckeinappaa
open Go.RowKit

def beyondB (n m : Int) : Bool := decide (n < -m ∨ m < n)
set_option maxHeartbeats 400000 in
theorem beyond_any (n m : Int) (w : World) (h0 : 0 ≤ m) (h1 : m ≤ 4611686018427387904) :
    Calls Try.prog 91 #[.int .i64 n, .int .i64 m] w fun e w' => e = .returned (.bool (beyondB n m)) ∧ w = w' := by
  go_enter Try.func91, Try.ntmps91
  go_wp2
  all_goals (go_returns; exact ⟨ret_bool (by unfold beyondB; rw [Bool.eq_iff_iff]; simp; try omega), rfl⟩)

theorem tdiv_floor (n d : Int) (hd : 0 < d) : n / d = if n.tmod d < 0 then n.tdiv d - 1 else n.tdiv d := by
  have e := Int.tmod_add_mul_tdiv n d
  rw [Int.mul_comm] at e
  have ha : (n.tmod d).natAbs < d.natAbs := by rw [Int.natAbs_tmod]; exact Nat.mod_lt _ (by omega)
  have hlt : n.tmod d < d := by omega
  have hgt : -d < n.tmod d := by omega
  split
  · apply div_unique hd
    · rw [Int.sub_mul, Int.one_mul]; generalize n.tdiv d * d = X at *; omega
    · rw [Int.sub_mul, Int.one_mul]; generalize n.tdiv d * d = X at *; omega
  · apply div_unique hd
    · generalize n.tdiv d * d = X at *; omega
    · generalize n.tdiv d * d = X at *; omega

theorem tdiv_bd (n d : Int) (h0 : -4611686018427387904 ≤ n) (h1 : n ≤ 4611686018427387904) : -4611686018427387904 ≤ n.tdiv d ∧ n.tdiv d ≤ 4611686018427387904 := by
  have h := Int.natAbs_tdiv_le_natAbs n d
  omega

set_option maxHeartbeats 400000 in
theorem floor_any (n d : Int) (w : World) (hd : 1 ≤ d) (hd1 : d ≤ 4611686018427387904) (h0 : -4611686018427387904 ≤ n) (h1 : n ≤ 4611686018427387904) :
    Calls Try.prog 133 #[.int .i64 n, .int .i64 d] w fun e w' => e = .returned (.int .i64 (n / d)) ∧ w = w' := by
  obtain ⟨b0, b1⟩ := tdiv_bd n d h0 h1
  have hf := tdiv_floor n d (by omega)
  obtain ⟨fl, hfl⟩ : ∃ x : Int, n / d = x := ⟨_, rfl⟩
  rw [hfl] at hf ⊢
  have HF := Lib.hid hf
  have Hfl := Lib.hid hfl
  clear hf hfl
  go_enter Try.func133, Try.ntmps133
  go_wp2
  all_goals (go_returns; exact ⟨ret_int (by rw [HF.out]; split <;> omega), rfl⟩)

/-- A line between two knots. -/
abbrev ln (a v b u : Int) : Value := .agg #[.int .i64 a, .int .i64 v, .int .i64 b, .int .i64 u]
/-- A knot. -/
abbrev kn (a l h : Int) : Value := .agg #[.int .i64 a, .int .i64 l, .int .i64 h]
/-- A line's value at x, rounded down; up. -/
def dn (a v b u x : Int) : Int := v + (u - v) * (x - a) / (b - a)
def upw (a v b u x : Int) : Int := -dn a (-v) b (-u) x

set_option maxHeartbeats 400000 in
theorem lower_any (a l h a' l' h' : Int) (w : World) :
    Calls Try.prog 76 #[kn a l h, kn a' l' h'] w fun e w' => e = .returned (ln a l a' l') ∧ Below w.heap.size w w' := by
  go_enter Try.func76, Try.ntmps76
  go_wp2
  go_returns
  exact ⟨rfl, by go_grown⟩
set_option maxHeartbeats 400000 in
theorem upper_any (a l h a' l' h' : Int) (w : World) :
    Calls Try.prog 79 #[kn a l h, kn a' l' h'] w fun e w' => e = .returned (ln a h a' h') ∧ Below w.heap.size w w' := by
  go_enter Try.func79, Try.ntmps79
  go_wp2
  go_returns
  exact ⟨rfl, by go_grown⟩
set_option maxHeartbeats 400000 in
theorem turned_any (a v b u : Int) (w : World) (h1 : -1073741824 ≤ v) (h2 : v ≤ 1073741824) (h3 : -1073741824 ≤ u) (h4 : u ≤ 1073741824) :
    Calls Try.prog 134 #[ln a v b u] w fun e w' => e = .returned (ln a (-v) b (-u)) ∧ Below w.heap.size w w' := by
  go_enter Try.func134, Try.ntmps134
  go_wp2
  go_returns
  exact ⟨rfl, by go_grown⟩

/-- The knots of a line in their ranges, and x between them. -/
structure LnOk (a v b u x : Int) : Prop where
  a0 : -1073741824 ≤ a
  b1 : b ≤ 1073741824
  lt : a < b
  x0 : a ≤ x
  x1 : x ≤ b
  v0 : -1073741824 ≤ v
  v1 : v ≤ 1073741824
  u0 : -1073741824 ≤ u
  u1 : u ≤ 1073741824

theorem prod_bd {p q : Int} (h1 : -2147483648 ≤ p) (h2 : p ≤ 2147483648) (h3 : 0 ≤ q) (h4 : q ≤ 2147483648) : -4611686018427387904 ≤ p * q ∧ p * q ≤ 4611686018427387904 := by
  have a : p * q ≤ 2147483648 * q := Int.mul_le_mul_of_nonneg_right h2 h3
  have b : -2147483648 * q ≤ p * q := Int.mul_le_mul_of_nonneg_right h1 h3
  omega

theorem LnOk.turn {a v b u x : Int} (k : LnOk a v b u x) : LnOk a (-v) b (-u) x :=
  ⟨k.a0, k.b1, k.lt, k.x0, k.x1, by have := k.v1; omega, by have := k.v0; omega, by have := k.u1; omega, by have := k.u0; omega⟩

/-- Between two knots a line's value lies between theirs. -/
theorem dn_bd {a v b u x : Int} (k : LnOk a v b u x) : min v u ≤ dn a v b u x ∧ dn a v b u x ≤ max v u := by
  obtain ⟨_, _, lt, x0, x1, _, _, _, _⟩ := k
  unfold dn
  have hd : 0 < b - a := by omega
  rcases Int.le_total v u with h | h
  · have h0 : 0 ≤ (u - v) * (x - a) / (b - a) := Int.ediv_nonneg (Int.mul_nonneg (by omega) (by omega)) (by omega)
    have h1 : (u - v) * (x - a) / (b - a) ≤ u - v := by
      have : (u - v) * (x - a) / (b - a) < (u - v) + 1 := by
        rw [Int.ediv_lt_iff_lt_mul hd, Int.add_mul, Int.one_mul]
        have : (u - v) * (x - a) ≤ (u - v) * (b - a) := Int.mul_le_mul_of_nonneg_left (by omega) (by omega)
        omega
      omega
    omega
  · have h0 : (u - v) * (x - a) / (b - a) ≤ 0 := by
      have : (u - v) * (x - a) / (b - a) < 1 := by
        rw [Int.ediv_lt_iff_lt_mul hd, Int.one_mul]
        have : (v - u) * (x - a) ≥ 0 := Int.mul_nonneg (by omega) (by omega)
        have e : (u - v) * (x - a) = -((v - u) * (x - a)) := by rw [← Int.neg_mul, Int.neg_sub]
        omega
      omega
    have h1 : u - v ≤ (u - v) * (x - a) / (b - a) := by
      rw [Int.le_ediv_iff_mul_le hd]
      have : (v - u) * (x - a) ≤ (v - u) * (b - a) := Int.mul_le_mul_of_nonneg_left (by omega) (by omega)
      have e : (u - v) * (x - a) = -((v - u) * (x - a)) := by rw [← Int.neg_mul, Int.neg_sub]
      have e2 : (u - v) * (b - a) = -((v - u) * (b - a)) := by rw [← Int.neg_mul, Int.neg_sub]
      omega
    omega

set_option maxHeartbeats 1000000 in
theorem down_any (a v b u x : Int) (w : World) (k : LnOk a v b u x) :
    Calls Try.prog 77 #[ln a v b u, .int .i64 x] w fun e w' => e = .returned (.int .i64 (dn a v b u x)) ∧ Below w.heap.size w w' := by
  obtain ⟨d0, d1⟩ := dn_bd k
  have e : dn a v b u x = v + (u - v) * (x - a) / (b - a) := rfl
  obtain ⟨a0, b1, lt, x0, x1, v0, v1, u0, u1⟩ := k
  obtain ⟨p0, p1⟩ := prod_bd (p := u - v) (q := x - a) (by omega) (by omega) (by omega) (by omega)
  obtain ⟨p, hp⟩ : ∃ p : Int, (u - v) * (x - a) = p := ⟨_, rfl⟩
  rw [hp] at p0 p1 e
  obtain ⟨q, hq⟩ : ∃ q : Int, p / (b - a) = q := ⟨_, rfl⟩
  rw [hq] at e
  rw [e] at d0 d1
  have d2 : -1073741824 ≤ v + p / (b - a) := by omega
  have d3 : v + p / (b - a) ≤ 1073741824 := by omega
  have HE := Lib.hid e
  have HQ := Lib.hid hq
  clear e hq
  have f : IntKind.i64.wrap p = p := IntWalk.i64_in _ ⟨by omega, by omega⟩
  go_enter Try.func77, Try.ntmps77
  go_wp2_with fail
  go_quiet ((go_at_call 133; exact Calls.quiet_of_same ((floor_any _ _ _ (by omega) (by omega) (by omega) (by omega)).mono fun _ _ ⟨he, hw⟩ => ⟨he, hw.symm⟩)))
  rw [HQ.out]
  go_wp2_with fail
  go_returns
  exact ⟨ret_int HE.out.symm, (below_drewN (by go_grown) _)⟩

theorem neg_dn_bd {a v b u x : Int} (k : LnOk a v b u x) : min v u ≤ upw a v b u x ∧ upw a v b u x ≤ max v u := by
  have := dn_bd k.turn
  unfold upw
  omega
set_option maxHeartbeats 1000000 in
theorem up_any (a v b u x : Int) (w : World) (k : LnOk a v b u x) :
    Calls Try.prog 80 #[ln a v b u, .int .i64 x] w fun e w' => e = .returned (.int .i64 (upw a v b u x)) ∧ Below w.heap.size w w' := by
  have kt := k.turn
  obtain ⟨b0, b1⟩ := dn_bd kt
  obtain ⟨_, _, _, _, _, _, _, _, _⟩ := k
  go_enter Try.func80, Try.ntmps80
  go_wp2_with fail
  refine (turned_any _ _ _ _ _ (by omega) (by omega) (by omega) (by omega)).mono ?_
  rintro e w1 ⟨rfl, hb1⟩
  obtain ⟨hB, hc, hf⟩ := after (w := w) (by go_grown) hb1
  go_wp2_with fail
  refine (down_any _ _ _ _ _ _ kt).mono ?_
  rintro e w2 ⟨rfl, hb2⟩
  clear hc hf hB
  obtain ⟨hB, hc, hf⟩ := after (w := w) (by go_grown) (two hb1 hb2)
  go_wp2_with fail
  go_returns
  exact ⟨rfl, hB⟩

end Go.Proofs.Ytflgdckeinappaa
