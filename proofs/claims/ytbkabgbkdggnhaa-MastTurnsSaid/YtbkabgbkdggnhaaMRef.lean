/- The reference of package mast: cross, long, root, Cross, calm, Calm. -/
import Derived.Test.YtbkabgbkdggnhaaMCalm
namespace Go.Proofs.Ytbkabgbkdggnhaa
open Go.RowKit

/-- The greatest whole number whose square is not above n. -/
def IsRt (n r : Int) : Prop := 0 ≤ r ∧ r ≤ 4000000 ∧ r * r ≤ n ∧ n < (r + 1) * (r + 1)
theorem sq_up {h n : Int} (hn : n ≤ 16000000000000) (h1 : h * h ≤ n) : h ≤ 4000000 := by
  rcases Int.lt_or_le 4000000 h with h2 | h2
  · have := sq_mono (a := 4000001) (b := h) (by omega) (by omega)
    omega
  · exact h2
def Rt1 (v4 : Value) : Prop := ∃ h : Int, 1 ≤ h ∧ h ≤ 8000000 ∧ v4 = .int .i64 h
def Rt2 (n : Int) (v3 v4 : Value) : Prop := ∃ l h : Int, 0 ≤ l ∧ l < h ∧ h ≤ 8000000 ∧ l * l ≤ n ∧ n < h * h ∧ v3 = .int .i64 l ∧ v4 = .int .i64 h
set_option maxRecDepth 100000 in
set_option maxHeartbeats 2000000 in
theorem rroot_any (n : Int) (w : World) (n0 : 0 ≤ n) (n1 : n ≤ 16000000000000) :
    Calls Try.prog 50 #[.int .i64 n] w fun e w' => (∃ r, e = .returned (.int .i64 r) ∧ IsRt n r) ∧ w = w' := by
  go_enter Try.func50, Try.ntmps50
  go_wp2_with fail
  go_loop [4] (fun v4 => Rt1 v4) (fun v4 => (16000000 - intOf v4).toNat)
  case atStart => exact ⟨1, by omega, by omega, rfl⟩
  case round =>
    obtain ⟨h, h0, h1, rfl⟩ := hrel
    obtain ⟨p0, p1⟩ := sq_bd (m := h) (b := 8000000) (by omega) h1
    obtain ⟨p, hp⟩ : ∃ p, h * h = p := ⟨_, rfl⟩
    rw [hp] at p0 p1
    have f : IntKind.i64.wrap p = p := IntWalk.i64_in _ ⟨by omega, by omega⟩
    by_cases hlt : p ≤ n
    · have h2 : h ≤ 4000000 := sq_up n1 (by rw [hp]; exact hlt)
      go_wp2_with fail
      go_round
      case rel => exact ⟨h * 2, by omega, by omega, rfl⟩
      case measure => simp [intOf]; omega
    · have HP := Lib.hid hp
      go_wp2_with fail
      clear hp f p0 p1
      go_loop [3, 4] (fun v3 v4 => Rt2 n v3 v4) (fun v3 v4 => (intOf v4 - intOf v3).toNat)
      case atStart => exact ⟨0, h, by omega, by omega, h1, by omega, by rw [HP.out]; omega, rfl, rfl⟩
      case round =>
        obtain ⟨l, g, l0, l1, l2, hl, hg, rfl, rfl⟩ := hrel
        have HL := Lib.hid hl
        have HG := Lib.hid hg
        clear hl hg
        by_cases hd : 1 < g - l
        · obtain ⟨m, hm⟩ : ∃ m, (l + g) / 2 = m := ⟨_, rfl⟩
          have hm2 : (l + g).tdiv 2 = m := by rw [Int.tdiv_eq_ediv_of_nonneg (by omega)]; exact hm
          have m0 : l < m := by omega
          have m1 : m < g := by omega
          obtain ⟨q0, q1⟩ := sq_bd (m := m) (b := 8000000) (by omega) (by omega)
          obtain ⟨q, hq⟩ : ∃ q, m * m = q := ⟨_, rfl⟩
          rw [hq] at q0 q1
          have f : IntKind.i64.wrap q = q := IntWalk.i64_in _ ⟨by omega, by omega⟩
          have fm : IntKind.i64.wrap m = m := IntWalk.i64_in _ ⟨by omega, by omega⟩
          have HM := Lib.hid hm
          by_cases ht : q ≤ n
          · have HT := Lib.hid ht
            have HQ := Lib.hid hq
            go_wp2_with fail
            go_round
            case rel => exact ⟨m, g, by omega, m1, l2, by rw [HQ.out]; exact HT.out, HG.out, rfl, rfl⟩
            case measure => simp [intOf]; omega
          · have HT := Lib.hid ht
            have HQ := Lib.hid hq
            go_wp2_with fail
            go_round
            case rel => exact ⟨l, m, l0, m0, by omega, HL.out, by rw [HQ.out]; have := HT.out; omega, rfl, rfl⟩
            case measure => simp [intOf]; omega
        · go_wp2_with fail
          go_returns
          have e : g = l + 1 := by omega
          exact ⟨⟨l, rfl, l0, sq_up n1 HL.out, HL.out, by have := HG.out; rw [e] at this; exact this⟩, rfl⟩

set_option maxHeartbeats 400000 in
theorem rlong_any (x y : Int) (w : World) (hx : axisB x y = true) :
    Calls Try.prog 49 #[sp x y] w fun e w' => e = .returned (.int .i64 (lon x y)) ∧ Below w.heap.size w w' := by
  obtain ⟨l0, l1, l2, l3, l4, l5⟩ := lon_bd hx
  have hlo : x * x + y * y = lon x y := rfl
  obtain ⟨xx, hxx⟩ : ∃ u, x * x = u := ⟨_, rfl⟩
  obtain ⟨yy, hyy⟩ : ∃ u, y * y = u := ⟨_, rfl⟩
  obtain ⟨q, hq⟩ : ∃ u, lon x y = u := ⟨_, rfl⟩
  rw [hxx] at l2 l3
  rw [hyy] at l4 l5
  rw [hq] at l0 l1
  rw [hq, hxx, hyy] at hlo
  rw [hq]
  have fxx : IntKind.i64.wrap xx = xx := IntWalk.i64_in _ ⟨by omega, by omega⟩
  have fyy : IntKind.i64.wrap yy = yy := IntWalk.i64_in _ ⟨by omega, by omega⟩
  have fq : IntKind.i64.wrap q = q := IntWalk.i64_in _ ⟨by omega, by omega⟩
  clear hx hq l0 l1 l2 l3 l4 l5
  go_enter Try.func49, Try.ntmps49
  go_wp2_with fail
  go_returns
  exact ⟨rfl, by go_grown⟩

/-- The loop's head: the least and the greatest of the first numbers. -/
def RcHead (k0 k1 k2 k3 : Int) (v7 v8 v9 : Value) : Prop :=
  (v7 = .int .i64 k0 ∧ v8 = .int .i64 k0 ∧ v9 = .int .i64 1) ∨ (v7 = .int .i64 (min k0 k1) ∧ v8 = .int .i64 (max k0 k1) ∧ v9 = .int .i64 2) ∨
  (v7 = .int .i64 (min (min k0 k1) k2) ∧ v8 = .int .i64 (max (max k0 k1) k2) ∧ v9 = .int .i64 3) ∨ (v7 = .int .i64 (min (min (min k0 k1) k2) k3) ∧ v8 = .int .i64 (max (max (max k0 k1) k2) k3) ∧ v9 = .int .i64 4)

set_option maxRecDepth 100000 in
set_option maxHeartbeats 4000000 in
theorem rcross_any (a b c d x y : Int) (w : World) (hw : windB a b c d = true) (hx : axisB x y = true) :
    Calls Try.prog 48 #[wd a b c d, sp x y] w fun e w' => e = .returned (.tuple #[.int .i64 (crL a b c d x y), .int .i64 (crG a b c d x y)]) ∧ Below w.heap.size w w' := by
  obtain ⟨t1, t2, t3, t4, t5, t6, t7⟩ := acr_bd hw hx
  obtain ⟨w0, w1, w2, w3, w4, w5⟩ := windB_bd hw
  obtain ⟨x0, x1, y0, y1, hn⟩ := axisB_bd hx
  obtain ⟨p0, p1⟩ := mul_bd (y := y) (show -2000 ≤ a by omega) (show a ≤ 2000 by omega)
  obtain ⟨q0, q1⟩ := mul_bd (y := y) (show -2000 ≤ b by omega) (show b ≤ 2000 by omega)
  obtain ⟨r0, r1⟩ := mul_bd (y := x) (show -2000 ≤ c by omega) (show c ≤ 2000 by omega)
  obtain ⟨s0, s1⟩ := mul_bd (y := x) (show -2000 ≤ d by omega) (show d ≤ 2000 by omega)
  have hna : (y.natAbs : Int) ≤ 1000 := by omega
  have hnb : (x.natAbs : Int) ≤ 1000 := by omega
  obtain ⟨hc1, hc2⟩ := corners (a := a) (b := b) (c := c) (d := d) (x := x) (y := y)
  have hL : crL a b c d x y = max 0 (max (acrL a b c d x y) (-(acrH a b c d x y))) := rfl
  have hG : crG a b c d x y = max (-(acrL a b c d x y)) (acrH a b c d x y) := rfl
  obtain ⟨p, hp⟩ : ∃ p, a * y = p := ⟨_, rfl⟩
  obtain ⟨q, hq⟩ : ∃ p, b * y = p := ⟨_, rfl⟩
  obtain ⟨r, hr⟩ : ∃ p, c * x = p := ⟨_, rfl⟩
  obtain ⟨s, hs⟩ : ∃ p, d * x = p := ⟨_, rfl⟩
  rw [hp] at p0 p1
  rw [hq] at q0 q1
  rw [hr] at r0 r1
  rw [hs] at s0 s1
  rw [hp, hq, hr, hs] at hc1 hc2
  obtain ⟨L, eL⟩ : ∃ u, acrL a b c d x y = u := ⟨_, rfl⟩
  obtain ⟨H, eH⟩ : ∃ u, acrH a b c d x y = u := ⟨_, rfl⟩
  rw [eL] at hc1 hL hG t1 t2
  rw [eH] at hc2 hL hG t1 t3
  obtain ⟨l, el⟩ : ∃ u, crL a b c d x y = u := ⟨_, rfl⟩
  obtain ⟨g, eg⟩ : ∃ u, crG a b c d x y = u := ⟨_, rfl⟩
  rw [el] at hL
  rw [eg] at hG
  rw [el, eg]
  have fp : IntKind.i64.wrap p = p := IntWalk.i64_in _ ⟨by omega, by omega⟩
  have fq : IntKind.i64.wrap q = q := IntWalk.i64_in _ ⟨by omega, by omega⟩
  have fr : IntKind.i64.wrap r = r := IntWalk.i64_in _ ⟨by omega, by omega⟩
  have fs : IntKind.i64.wrap s = s := IntWalk.i64_in _ ⟨by omega, by omega⟩
  have g1 : IntKind.i64.wrap (p - r) = p - r := IntWalk.i64_in _ ⟨by omega, by omega⟩
  have g2 : IntKind.i64.wrap (p - s) = p - s := IntWalk.i64_in _ ⟨by omega, by omega⟩
  have g3 : IntKind.i64.wrap (q - r) = q - r := IntWalk.i64_in _ ⟨by omega, by omega⟩
  have g4 : IntKind.i64.wrap (q - s) = q - s := IntWalk.i64_in _ ⟨by omega, by omega⟩
  have fL : IntKind.i64.wrap (-L) = -L := IntWalk.i64_in _ ⟨by omega, by omega⟩
  have fH : IntKind.i64.wrap (-H) = -H := IntWalk.i64_in _ ⟨by omega, by omega⟩
  have HC := Lib.hid (And.intro hc1 hc2)
  have HR := Lib.hid (And.intro hL hG)
  have HT := Lib.hid t1
  clear t1 t2 t3 t4 t5 t6 t7 w0 w1 w2 w3 w4 w5 x0 x1 y0 y1 hn p0 p1 q0 q1 r0 r1 s0 s1 hna hnb hc1 hc2 hL hG eL eH el eg hw hx
  go_enter Try.func48, Try.ntmps48
  go_wp2_with fail
  obtain ⟨W, hW⟩ : ∃ W, ((w.alloc (.cells #[.int .i64 a, .int .i64 b, .int .i64 c, .int .i64 d] 25)).alloc (.cells #[.int .i64 x, .int .i64 y] 27)).alloc (.cells #[.int .i64 (p - r), .int .i64 (p - s), .int .i64 (q - r), .int .i64 (q - s)] 3) = W := ⟨_, rfl⟩
  have hF : Four W (w.heap.size + 1 + 1) (p - r) (p - s) (q - r) (q - s) := by subst hW; exact ⟨by go_cell, by go_cell, by go_cell, by go_cell⟩
  have hBW : Below w.heap.size w W := by subst hW; go_grown
  rw [hW]
  obtain ⟨z0, z1, z2, z3⟩ := hF
  have HB := Lib.hid hBW
  clear hW hBW fp fq fr fs g1 g2 g3 g4 hp hq hr hs
  obtain ⟨k0, e0⟩ : ∃ u, p - r = u := ⟨_, rfl⟩
  obtain ⟨k1, e1⟩ : ∃ u, p - s = u := ⟨_, rfl⟩
  obtain ⟨k2, e2⟩ : ∃ u, q - r = u := ⟨_, rfl⟩
  obtain ⟨k3, e3⟩ : ∃ u, q - s = u := ⟨_, rfl⟩
  have hC := HC.out
  rw [e0] at z0 hC
  rw [e1] at z1 hC
  rw [e2] at z2 hC
  rw [e3] at z3 hC
  rw [e0, e1, e2, e3]
  have HC' := Lib.hid hC
  clear hC HC e0 e1 e2 e3
  go_quiet (fail)
  go_wp2_with fail
  go_loop [7, 8, 9] (fun v7 v8 v9 => RcHead k0 k1 k2 k3 v7 v8 v9) (fun _ _ v9 => (4 - intOf v9).toNat)
  case atStart => exact .inl ⟨rfl, rfl, rfl⟩
  case round =>
    rcases hrel with ⟨rfl, rfl, rfl⟩ | ⟨rfl, rfl, rfl⟩ | ⟨rfl, rfl, rfl⟩ | ⟨rfl, rfl, rfl⟩
    · go_wp2_with fail
      go_round
      case rel => exact .inr (.inl ⟨rfl, rfl, rfl⟩)
      case measure => simp [intOf]
    · obtain ⟨m0, n0⟩ : ∃ u, min k0 k1 = u := ⟨_, rfl⟩
      obtain ⟨m1, n1⟩ : ∃ u, max k0 k1 = u := ⟨_, rfl⟩
      rw [n0, n1]
      have HN := Lib.hid (And.intro n0 n1)
      clear n0 n1
      go_wp2_with fail
      go_round
      case rel => exact .inr (.inr (.inl ⟨by rw [HN.out.1], by rw [HN.out.2], rfl⟩))
      case measure => simp [intOf]
    · obtain ⟨m0, n0⟩ : ∃ u, min (min k0 k1) k2 = u := ⟨_, rfl⟩
      obtain ⟨m1, n1⟩ : ∃ u, max (max k0 k1) k2 = u := ⟨_, rfl⟩
      rw [n0, n1]
      have HN := Lib.hid (And.intro n0 n1)
      clear n0 n1
      go_wp2_with fail
      go_round
      case rel => exact .inr (.inr (.inr ⟨by rw [HN.out.1], by rw [HN.out.2], rfl⟩))
      case measure => simp [intOf]
    · rw [HC'.out.1, HC'.out.2]
      have hh := HT.out
      by_cases h1 : L ≤ 0
      · by_cases h2 : 0 ≤ H
        · go_wp2_with fail
          go_returns
          exact ⟨ret_ii (by rw [HR.out.1]; omega) (by rw [HR.out.2]), by first | exact HB.out | exact below_drewN HB.out _⟩
        · go_wp2_with fail
          go_returns
          exact ⟨ret_ii (by rw [HR.out.1]; omega) (by rw [HR.out.2]), by first | exact HB.out | exact below_drewN HB.out _⟩
      · go_wp2_with fail
        go_returns
        exact ⟨ret_ii (by rw [HR.out.1]; omega) (by rw [HR.out.2]), by first | exact HB.out | exact below_drewN HB.out _⟩

theorem rt_dn {n q r : Int} (hq : 0 < q) (h : IsRt (n * n / q) r) : IsDn n q r := by
  obtain ⟨h0, _, h1, h2⟩ := h
  exact ⟨h0, (Int.le_ediv_iff_mul_le hq).1 h1, (Int.ediv_lt_iff_lt_mul hq).1 h2⟩
theorem dn_up {n q r : Int} (h : IsDn n q r) (hlt : r * r * q < n * n) : IsUp n q (r + 1) := by
  obtain ⟨a, b, c⟩ := h
  exact ⟨by omega, by omega, .inr (by rw [Int.add_sub_cancel]; exact hlt)⟩
theorem dn_same {n q r : Int} (hq : 0 < q) (h : IsDn n q r) (hge : ¬ r * r * q < n * n) : IsUp n q r := by
  obtain ⟨a, b, c⟩ := h
  refine ⟨a, by omega, ?_⟩
  by_cases h0 : r = 0
  · exact .inl h0
  · have e : (r - 1) * (r - 1) * q < r * r * q := by
      have h1 : (r - 1) * (r - 1) < r * r := by
        have e : (r - 1) * (r - 1) = r * r - 2 * r + 1 := by rw [Int.sub_mul, Int.mul_sub, Int.mul_sub]; omega
        omega
      exact Int.mul_lt_mul_of_pos_right h1 hq
    exact .inr (by omega)


set_option linter.unusedSimpArgs false in
set_option maxRecDepth 100000 in
set_option maxHeartbeats 4000000 in
theorem rcalm_any (a b c d x y m : Int) (w : World) (hw : windB a b c d = true) (hx : axisB x y = true) (hm : 0 ≤ m) (hm1 : m ≤ 2000) :
    Calls Try.prog 54 #[wd a b c d, sp x y, .int .i64 m] w fun e w' => e = .returned (.bool (calmB a b c d x y m)) ∧ Below w.heap.size w w' := by
  obtain ⟨t1, t2, t3, t4, t5, t6, t7⟩ := acr_bd hw hx
  obtain ⟨l0, l1, _⟩ := lon_bd hx
  have hcb : calmB a b c d x y m = decide (crG a b c d x y * crG a b c d x y ≤ m * m * lon x y) := rfl
  obtain ⟨g, hg⟩ : ∃ u, crG a b c d x y = u := ⟨_, rfl⟩
  obtain ⟨q, hq⟩ : ∃ u, lon x y = u := ⟨_, rfl⟩
  rw [hg] at t5 t6 hcb
  rw [hq] at l0 l1 hcb
  obtain ⟨gg0, gg1⟩ := sq_bd (m := g) (b := 4000000) (by omega) t6
  obtain ⟨mm0, mm1⟩ := sq_bd (m := m) (b := 2000) (by omega) hm1
  obtain ⟨gg, hgg⟩ : ∃ u, g * g = u := ⟨_, rfl⟩
  obtain ⟨mm, hmm⟩ : ∃ u, m * m = u := ⟨_, rfl⟩
  rw [hgg] at gg0 gg1 hcb
  rw [hmm] at mm0 mm1 hcb
  obtain ⟨mq0, mq1⟩ := mulq_bd mm0 mm1 (show 0 ≤ q by omega) l1
  obtain ⟨mq, hmq⟩ : ∃ u, mm * q = u := ⟨_, rfl⟩
  rw [hmq] at mq0 mq1 hcb
  rw [hcb]
  have f1 : IntKind.i64.wrap gg = gg := IntWalk.i64_in _ ⟨by omega, by omega⟩
  have f2 : IntKind.i64.wrap mm = mm := IntWalk.i64_in _ ⟨by omega, by omega⟩
  have f3 : IntKind.i64.wrap mq = mq := IntWalk.i64_in _ ⟨by omega, by omega⟩
  have HW := Lib.hid hw
  have HX := Lib.hid hx
  have HG := Lib.hid hg
  have HQ := Lib.hid hq
  clear t1 t2 t3 t4 t5 t6 t7 l0 l1 gg0 gg1 mm0 mm1 mq0 mq1 hw hx hcb hm hm1 hg hq
  go_enter Try.func54, Try.ntmps54
  go_wp2_with fail
  refine (rcross_any a b c d x y _ HW.out HX.out).mono ?_
  rintro e w1 ⟨rfl, hb1⟩
  have hB1 : Below w.heap.size w w1 := (after (w := w) (by go_grown) hb1).1
  have k1 : Two2 w1 (w.heap.size + 1) x y := Two2.later ⟨by go_cell, by go_cell⟩ hb1
  obtain ⟨c0, c1⟩ := k1
  have hz1 := World.block_lt_of_cell? _ _ c0
  rw [HG.out]
  clear hb1
  go_wp2_with fail
  refine (rlong_any x y _ HX.out).mono ?_
  rintro e w2 ⟨rfl, hb2⟩
  have hB2 : Below w.heap.size w w2 := (after (w := w) (by go_grown) hb2).1
  rw [HQ.out]
  clear hb2 hB1
  go_wp2_with fail
  go_returns
  exact ⟨rfl, by go_grown⟩

set_option linter.unusedSimpArgs false in
set_option maxRecDepth 100000 in
set_option maxHeartbeats 4000000 in
theorem rCalm_any (a b c d x y m : Int) (w : World) :
    Calls Try.prog 12 #[wd a b c d, sp x y, .int .i64 m] w fun e w' => e = .returned (.tuple #[.bool (calmR a b c d x y m).1, .int .i64 (calmR a b c d x y m).2]) ∧ Below w.heap.size w w' := by
  go_enter Try.func12, Try.ntmps12
  go_wp2_with fail
  refine (rwind_any a b c d _).mono ?_
  rintro e w1 ⟨rfl, hb1⟩
  have hB1 : Below w.heap.size w w1 := (after (w := w) (by go_grown) hb1).1
  have k1 : Four w1 w.heap.size a b c d := Four.later ⟨by go_cell, by go_cell, by go_cell, by go_cell⟩ hb1
  have k2 : Two2 w1 (w.heap.size + 1) x y := Two2.later ⟨by go_cell, by go_cell⟩ hb1
  have HF := Lib.hid k1
  obtain ⟨c0, c1⟩ := k2
  have hz1 := World.block_lt_of_cell? _ _ c0
  clear hb1 k1
  cases hw : windB a b c d
  · have HW := Lib.hid hw
    clear hw
    go_wp2_with fail
    go_returns
    exact ⟨ret_bi (by simp [calmR, HW.out]) (by simp [calmR, HW.out]), by go_grown⟩
  have HW := Lib.hid hw
  clear hw
  go_wp2_with fail
  refine (raxis_any x y _).mono ?_
  rintro e w2 ⟨rfl, hb2⟩
  have hB2 : Below w.heap.size w w2 := hB1.trans (hb2.mono hB1.size)
  have HF2 := Lib.hid (And.intro (HF.out.later hb2) (Two2.later (show Two2 w1 _ x y from ⟨c0, c1⟩) hb2))
  clear hb2 hB1 c0 c1 hz1 HF
  cases hx : axisB x y
  · have HX := Lib.hid hx
    clear hx
    go_wp2_with fail
    go_returns
    exact ⟨ret_bi (by simp [calmR, HW.out, HX.out]) (by simp [calmR, HW.out, HX.out]), by go_grown⟩
  have HX := Lib.hid hx
  clear hx
  go_wp2_with fail
  refine (rwithin_any m 0 2000 _).mono ?_
  rintro e w3 ⟨rfl, rfl⟩
  cases hm : inB m 0 2000
  · have HM := Lib.hid hm
    clear hm
    go_wp2_with fail
    go_returns
    exact ⟨ret_bi (by simp [calmR, HW.out, HX.out, HM.out]) (by simp [calmR, HW.out, HX.out, HM.out]), by go_grown⟩
  have HM := Lib.hid hm
  have hm0 : 0 ≤ m ∧ m ≤ 2000 := by simp [inB] at hm; omega
  obtain ⟨hm0, hm1⟩ := hm0
  clear hm
  obtain ⟨⟨z0, z1, z2, z3⟩, z4, z5⟩ := HF2.out
  have q1 := World.block_lt_of_cell? _ _ z4
  go_wp2_with fail
  refine (rcalm_any a b c d x y m _ HW.out HX.out hm0 hm1).mono ?_
  rintro e w4 ⟨rfl, hb2⟩
  have hB3 : Below w.heap.size w w4 := hB2.trans (hb2.mono hB2.size)
  clear hb2 hB2 z0 z1 z2 z3 z4 z5 q1
  obtain ⟨u, hu⟩ : ∃ u, calmB a b c d x y m = u := ⟨_, rfl⟩
  rw [hu]
  have HU := Lib.hid hu
  clear hu
  go_wp2_with fail
  go_returns
  exact ⟨ret_bi (by simp [calmR, HW.out, HX.out, HM.out, HU.out]) (by simp [calmR, HW.out, HX.out, HM.out]), by go_grown⟩
end Go.Proofs.Ytbkabgbkdggnhaa
