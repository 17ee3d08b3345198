/- The reference's quotient, abs and Quotient. -/
import Derived.Test.YtflgdckeinappaaQuoMath
import Derived.Test.YtflgdckeinappaaSpans
import Derived.Deep.CutBlock
import Derived.Deep.DeepCutAuto
namespace Go.Proofs.Ytflgdckeinappaa
open Go.RowKit

/-- The loop's head: n bits are left. -/
def QHead (rest z y : Int) (v10 v11 v12 : Value) : Prop := ∃ (n : Nat) (q r : Int), n ≤ 41 ∧ QS rest z y n q r ∧ v10 = .int .i64 q ∧ v11 = .int .i64 r ∧ v12 = .int .i64 (2 ^ n / 2)
/-- The inner loop's head. -/
def QIn (T z : Int) (v10 v11 : Value) : Prop := ∃ q r : Int, q * z + r = T ∧ 0 ≤ r ∧ r ≤ 4398046511104 ∧ 0 ≤ q ∧ v10 = .int .i64 q ∧ v11 = .int .i64 r

theorem pow_half (m : Nat) : (2 : Int) ^ (m + 1) / 2 = 2 ^ m := by rw [Int.pow_succ, Int.mul_ediv_cancel _ (by omega)]
theorem pow_le (m : Nat) (h : m ≤ 40) : (2 : Int) ^ m ≤ 1099511627776 := by
  have : (2 : Nat) ^ m ≤ 2 ^ 40 := Nat.pow_le_pow_right (by omega) h
  have e : ((2 ^ m : Nat) : Int) = 2 ^ m := by rw [Int.natCast_pow]; rfl
  omega

theorem ret_ib {k : IntKind} {a a' : Int} {b b' : Bool} (h1 : a = a') (h2 : b = b') : Ending.returned (.tuple #[.int k a, .bool b]) = .returned (.tuple #[.int k a', .bool b']) := by rw [h1, h2]
theorem below_drewN {B : Nat} {a w : World} (h : Below B a w) (n : Nat) : Below B a (w.drewN n) := h.trans ⟨rfl, rfl, rfl, Nat.le_refl _, fun _ _ => rfl⟩

set_option maxHeartbeats 1000000 in
theorem quotient_any (x y z : Int) (w : World) (hx1 : 0 ≤ x) (hx2 : x ≤ 1099511627776) (hy1 : 0 ≤ y) (hy2 : y ≤ 1099511627776) (hz1 : 1 ≤ z) (hz2 : z ≤ 1099511627776) :
    Calls Try.prog 131 #[.int .i64 x, .int .i64 y, .int .i64 z] w fun e w' => e = .returned (.tuple #[.int .i64 (qQ x y z), .bool (qW x y z)]) ∧ Below w.heap.size w w' := by
  go_enter Try.func131, Try.ntmps131
  go_wp2_with fail
  go_quiet (fail)
  have hw0 : 0 ≤ x / z := Int.ediv_nonneg hx1 (by omega)
  have hw1 : x / z ≤ 1099511627776 := by have := Int.ediv_le_self z hx1; omega
  have hr0 : 0 ≤ x % z := Int.emod_nonneg x (by omega)
  have hr1 : x % z < z := Int.emod_lt_of_pos x (by omega)
  by_cases c1 : 0 < x / z ∧ 4398046511104 / (x / z) < y
  · obtain ⟨c1a, c1b⟩ := c1
    go_wp2_with fail
    go_returns
    exact ⟨ret_ib (by unfold qQ; rw [if_pos ⟨c1a, c1b⟩]) (by unfold qW; rw [if_pos ⟨c1a, c1b⟩]), below_drewN (Below.refl _ _) _⟩
  · have eq1 : qQ x y z = min (x * y / z) 4398046511104 := if_neg c1
    have ew1 : qW x y z = decide (x * y % z = 0) := if_neg c1
    have EQ := Lib.hid eq1
    have EW := Lib.hid ew1
    clear eq1 ew1
    have hW1 : x / z * y ≤ 4398046511104 := by
      by_cases h0 : 0 < x / z
      · have : y ≤ 4398046511104 / (x / z) := by omega
        rw [Int.le_ediv_iff_mul_le h0] at this
        rw [Int.mul_comm]; exact this
      · have : x / z = 0 := by omega
        rw [this]; omega
    have hW0 : 0 ≤ x / z * y := Int.mul_nonneg hw0 hy1
    have hcc : ¬ 0 < x / z ∨ (0 < x / z ∧ ¬ 4398046511104 / (x / z) < y) := by
      by_cases h0 : 0 < x / z
      · exact .inr ⟨h0, fun h => c1 ⟨h0, h⟩⟩
      · exact .inl h0
    clear c1
    obtain ⟨m0, hm0⟩ : ∃ m : Int, x % z = m := ⟨_, rfl⟩
    have QE := Lib.hid (fun (q r : Int) (h : QS m0 z y 0 q r) => quo_end (x := x) hz1 (by rw [hm0]; exact h))
    rw [hm0] at hr0 hr1
    rcases hcc with c2 | ⟨c2, c3⟩
    all_goals
      go_wp2_with fail
      go_loop [10, 11, 12] (fun v10 v11 v12 => QHead m0 z y v10 v11 v12) (fun _ _ v12 => (intOf v12).toNat)
      case atStart => exact ⟨41, 0, 0, by omega, ⟨by have : y / 2 ^ 41 = 0 := Int.ediv_eq_zero_of_lt hy1 (by omega)
                                                     rw [this]; omega, by omega, by omega, by omega, by omega⟩, rfl, rfl, by congr 1⟩
      case round =>
        obtain ⟨n, q, r, hn, hs, rfl, rfl, rfl⟩ := hrel
        have hr0' := hs.r0
        have hr1' := hs.r1
        have hq0' := hs.q0
        have hq1' := hs.q1
        rcases n with _ | m
        · have e0 : (2 : Int) ^ 0 / 2 = 0 := by decide
          rw [e0]
          obtain ⟨E1, E2⟩ := QE.out _ _ hs
          have H1 := Lib.hid E1
          have H2 := Lib.hid E2
          clear hs E1 E2
          obtain ⟨W, hW⟩ : ∃ W : Int, x / z * y = W := ⟨_, rfl⟩
          rw [hW] at hW0 hW1
          have fW : IntKind.i64.wrap W = W := IntWalk.i64_in _ ⟨by omega, by omega⟩
          go_wp2_with fail
          all_goals
            go_returns
            exact ⟨ret_ib (by rw [EQ.out, ← H1.out, hW]; omega) (by rw [EW.out, ← H2.out]; rfl), below_drewN (Below.refl _ _) _⟩
        · rw [pow_half]
          have hb0 := bit_pos m
          have hb1 := pow_le m (by omega)
          have hdb := hs.dbl
          obtain ⟨y0, y1⟩ := quo_le y m hy1 hy2
          obtain ⟨bt, hbt⟩ : ∃ bt : Int, (2 : Int) ^ m = bt := ⟨_, rfl⟩
          rw [hbt] at hb0 hb1 hdb y0 y1 ⊢
          have Hbt := Lib.hid hbt
          clear hbt hs
          have hd : y / bt % 2 = 1 ∨ y / bt % 2 = 0 := by omega
          obtain ⟨T, hT⟩ : ∃ T : Int, m0 * (y / bt) = T := ⟨_, rfl⟩
          rw [hT] at hdb
          have HT := Lib.hid hT
          clear hT
          rcases hd with hd | hd
          · rw [hd, Int.mul_one] at hdb
            have ht : (y / bt % 2 == 1) = true := by rw [hd]; rfl
            have HD := Lib.hid hdb
            clear hdb hd
            go_wp2_with fail
            go_loop [10, 11] (fun v10 v11 => QIn T z v10 v11) (fun _ v11 => (intOf v11).toNat)
            case atStart => exact ⟨2 * q, 2 * r + m0, HD.out, by omega, by omega, by omega, rfl, rfl⟩
            case round =>
              obtain ⟨q', r', hs', h0', h1', h2', rfl, rfl⟩ := hrel
              have hql : q' ≤ 1099511627776 := q_le (rest := m0) (n := m) (by rw [Hbt.out, HT.out]; exact hs') h0' hz1 hr1 hy1 hy2
              have HS := Lib.hid hs'
              clear hs'
              by_cases hge : z ≤ r'
              · go_wp2_with fail
                go_round
                case rel => exact ⟨q' + 1, r' - z, by have := HS.out; rw [Int.add_mul, Int.one_mul]; omega, by omega, by omega, by omega, rfl, rfl⟩
                case measure => simp [intOf]; omega
              · go_wp2_with fail
                go_round
                case rel => exact ⟨m, q', r', by omega, ⟨by rw [Hbt.out, HT.out]; exact HS.out, h0', by omega, h2', hql⟩, rfl, rfl, by rw [Hbt.out]⟩
                case measure => simp [intOf]; omega
          · rw [hd, Int.mul_zero, Int.add_zero] at hdb
            have ht : (y / bt % 2 == 1) = false := by rw [hd]; rfl
            have HD := Lib.hid hdb
            clear hdb hd
            go_wp2_with fail
            go_loop [10, 11] (fun v10 v11 => QIn T z v10 v11) (fun _ v11 => (intOf v11).toNat)
            case atStart => exact ⟨2 * q, 2 * r, HD.out, by omega, by omega, by omega, rfl, rfl⟩
            case round =>
              obtain ⟨q', r', hs', h0', h1', h2', rfl, rfl⟩ := hrel
              have hql : q' ≤ 1099511627776 := q_le (rest := m0) (n := m) (by rw [Hbt.out, HT.out]; exact hs') h0' hz1 hr1 hy1 hy2
              have HS := Lib.hid hs'
              clear hs'
              by_cases hge : z ≤ r'
              · go_wp2_with fail
                go_round
                case rel => exact ⟨q' + 1, r' - z, by have := HS.out; rw [Int.add_mul, Int.one_mul]; omega, by omega, by omega, by omega, rfl, rfl⟩
                case measure => simp [intOf]; omega
              · go_wp2_with fail
                go_round
                case rel => exact ⟨m, q', r', by omega, ⟨by rw [Hbt.out, HT.out]; exact HS.out, h0', by omega, h2', hql⟩, rfl, rfl, by rw [Hbt.out]⟩
                case measure => simp [intOf]; omega
end Go.Proofs.Ytflgdckeinappaa
