/- The reference's Speed; Along of both. -/
import Derived.Test.YtflgdckeinappaaSpSpeed
namespace Go.Proofs.Ytflgdckeinappaa
open Go.RowKit

theorem wx_box (w : World) (a b c d : Int) (o0 o1 : Value) (t u : TypeId) : WX w.heap.size ((w.alloc (.cells #[.int .i64 a, .int .i64 b, .int .i64 c, .int .i64 d] t)).alloc (.cells #[o0, o1] u)) a b c d := ⟨by go_cell, by go_cell, by go_cell, by go_cell⟩
theorem bx_box (w : World) (a b c d : Value) (t u : TypeId) : BX (w.heap.size + 1) ((w.alloc (.cells #[a, b, c, d] t)).alloc (.cells #[.int .i64 0, .int .i64 0] u)) := ⟨by go_cell, by go_cell, by go_cell, by go_cell, by simp⟩

set_option linter.unusedSimpArgs false in
set_option maxHeartbeats 2000000 in
theorem rspeed_any (a b c d : Int) (w : World) :
    Calls Try.prog 44 #[wd a b c d] w fun e w' => SpdP a b c d e ∧ Below w.heap.size w w' := by
  go_enter Try.func44, Try.ntmps44
  go_wp2_with fail
  refine (blows_any a b c d _).mono ?_
  rintro e w1 ⟨rfl, hb1⟩
  have hB1 : Below w.heap.size w w1 := (after (w := w) (by go_grown) hb1).1
  have HX := Lib.hid ((wx_box w a b c d (.int .i64 0) (.int .i64 0) 55 23).later hb1)
  have HR := Lib.hid ((bx_box w (.int .i64 a) (.int .i64 b) (.int .i64 c) (.int .i64 d) 55 23).later hb1)
  clear hb1
  rcases blowN_cases a b c d with h0 | h0 | h0
  · have HP : Hid (∀ e, RootP (near a b * near a b + near c d * near c d) (far a b * far a b + far c d * far c d) e → SpdP a b c d e) := Lib.hid (fun e h => .inr ⟨h0, h⟩)
    obtain ⟨⟨h1, h2, h3⟩, h4, h5, h6⟩ := blowN_zero h0
    obtain ⟨N1, F1, N2, F2, E1, E2, E3, E4, t1, t2, t3, t4, t5, t6⟩ := speed_sum h0
    rw [E1, E2, E3, E4] at HP
    rw [h0]
    clear h0
    obtain ⟨x0, x1, x2, x3⟩ := HX.out
    go_wp2_with fail
    refine (squares_any a b _ (by omega) (by omega) (by omega)).mono ?_
    rintro e w2 ⟨rfl, hb2⟩
    rw [E1, E2]
    have hB2 : Below w.heap.size w w2 := (after (w := w) hB1 hb2).1
    have HX2 := Lib.hid (HX.out.later hb2)
    have HR2 := Lib.hid (HR.out.later hb2)
    clear hb2 hB1 HX HR x0 x1 x2 x3 E1 E2
    obtain ⟨x0, x1, x2, x3⟩ := HX2.out
    go_wp2_with fail
    refine (squares_any c d _ (by omega) (by omega) (by omega)).mono ?_
    rintro e w3 ⟨rfl, hb3⟩
    rw [E3, E4]
    have hB3 : Below w.heap.size w w3 := (after (w := w) hB2 hb3).1
    have HR3 := Lib.hid (HR2.out.later hb3)
    clear hb3 hB2 HX2 HR2 x0 x1 x2 x3 E3 E4
    have g1 : IntKind.i64.wrap (N1 + N2) = N1 + N2 := IntWalk.i64_in _ ⟨by omega, by omega⟩
    have g2 : IntKind.i64.wrap (F1 + F2) = F1 + F2 := IntWalk.i64_in _ ⟨by omega, by omega⟩
    go_wp2_with fail
    refine (rroot_any (N1 + N2) (F1 + F2) _).mono ?_
    rintro e w4 ⟨hr, hb4⟩
    have hB4 := (after (w := w) hB3 hb4).1
    obtain ⟨r0, r1, rf0, rf1, rl⟩ := HR3.out.later hb4
    obtain ⟨x, y, n, rfl⟩ := hr.spi
    have HQ := Lib.hid (HP.out _ hr)
    clear hr hb4 hB3 HP HR3
    go_wp2_with fail
    exact bodyPost_ret (v := .tuple #[sp x y, .int .i64 n]) (by simp [results, Try.results44, go_sem, *]) rfl ⟨HQ.out, by go_grown⟩
  ·
    have HP : Hid (SpdP a b c d (.returned (.tuple #[sp 0 0, .int .i64 2]))) := Lib.hid (.inl ⟨by omega, by rw [h0]⟩)
    rw [h0]
    clear h0
    obtain ⟨r0, r1, rf0, rf1, rl⟩ := HR.out
    go_wp2_with fail
    exact bodyPost_ret (v := .tuple #[sp 0 0, .int .i64 2]) (by simp [results, Try.results44, go_sem, *]) rfl ⟨HP.out, by go_grown⟩
  ·
    have HP : Hid (SpdP a b c d (.returned (.tuple #[sp 0 0, .int .i64 10]))) := Lib.hid (.inl ⟨by omega, by rw [h0]⟩)
    rw [h0]
    clear h0
    obtain ⟨r0, r1, rf0, rf1, rl⟩ := HR.out
    go_wp2_with fail
    exact bodyPost_ret (v := .tuple #[sp 0 0, .int .i64 10]) (by simp [results, Try.results44, go_sem, *]) rfl ⟨HP.out, by go_grown⟩

/-- The error of a wind along a way. -/
def alN (a b c d dx dy : Int) : Int := if blowN a b c d = 0 then (if (-10000 ≤ dx ∧ dx ≤ 10000) ∧ (-10000 ≤ dy ∧ dy ≤ 10000) ∧ ¬ (dx = 0 ∧ dy = 0) then 0 else 2) else blowN a b c d
/-- What Along returns. -/
def AlP (a b c d dx dy : Int) (e : Ending) : Prop :=
  (alN a b c d dx dy ≠ 0 ∧ e = .returned (.tuple #[sp 0 0, .int .i64 (alN a b c d dx dy)])) ∨
  (alN a b c d dx dy = 0 ∧ ∃ u v : Int, e = .returned (.tuple #[sp u v, .int .i64 0]) ∧ PLo (low a b c d dx dy) (dx * dx + dy * dy) u ∧ PLo (-high a b c d dx dy) (dx * dx + dy * dy) (-v))
theorem AlP.uniq {a b c d dx dy : Int} {e e' : Ending} (h : AlP a b c d dx dy e) (h' : AlP a b c d dx dy e') : e = e' := by
  rcases h with ⟨x, rfl⟩ | ⟨x, u, v, rfl, y, z⟩ <;> rcases h' with ⟨x', rfl⟩ | ⟨x', u', v', rfl, y', z'⟩
  · rfl
  · exact absurd x' x
  · exact absurd x x'
  · have e1 := y.uniq y'
    have e2 := z.uniq z'
    rw [e1, show v = v' by omega]
theorem AlP.spi {a b c d dx dy : Int} {e : Ending} (h : AlP a b c d dx dy e) : ∃ x y n : Int, e = .returned (.tuple #[sp x y, .int .i64 n]) := by
  rcases h with ⟨x, rfl⟩ | ⟨x, u, v, rfl, _, _⟩
  all_goals exact ⟨_, _, _, rfl⟩
/-- What Along computes with. -/
theorem along_facts {a b c d dx dy : Int} (h : blowN a b c d = 0) (hx0 : -10000 ≤ dx) (hx1 : dx ≤ 10000) (hy0 : -10000 ≤ dy) (hy1 : dy ≤ 10000) (hn : ¬ (dx = 0 ∧ dy = 0)) :
    (1 ≤ dx * dx + dy * dy ∧ dx * dx ≤ 100000000 ∧ dy * dy ≤ 100000000 ∧ 0 ≤ dx * dx ∧ 0 ≤ dy * dy) ∧
    (-40000000 ≤ low a b c d dx dy ∧ low a b c d dx dy ≤ 40000000 ∧ -40000000 ≤ high a b c d dx dy ∧ high a b c d dx dy ≤ 40000000 ∧ low a b c d dx dy ≤ high a b c d dx dy) ∧
    low a b c d dx dy * low a b c d dx dy ≤ 8000000 * (dx * dx + dy * dy) ∧ high a b c d dx dy * high a b c d dx dy ≤ 8000000 * (dx * dx + dy * dy) := by
  obtain ⟨⟨h1, h2, h3⟩, h4, h5, h6⟩ := blowN_zero h
  have p1 := mul_lim (x := a) (d := dx) (by omega) (by omega) hx0 hx1
  have p2 := mul_lim (x := b) (d := dx) (by omega) (by omega) hx0 hx1
  have p3 := mul_lim (x := c) (d := dy) (by omega) (by omega) hy0 hy1
  have p4 := mul_lim (x := d) (d := dy) (by omega) (by omega) hy0 hy1
  refine ⟨⟨?_, sq_abs hx0 hx1, sq_abs hy0 hy1, sq_nn _, sq_nn _⟩, ?_, low_bd (by omega) (by omega) (by omega) (by omega) (by omega) (by omega) (by omega) (by omega)⟩
  · have q1 := sq_nn dx
    have q2 := sq_nn dy
    rcases Int.lt_or_le 0 (dx * dx + dy * dy) with h | h
    · omega
    · exfalso
      have e1 : dx * dx = 0 := by omega
      have e2 : dy * dy = 0 := by omega
      rcases Int.mul_eq_zero.1 e1 with e | e <;> rcases Int.mul_eq_zero.1 e2 with f | f <;> exact hn ⟨e, f⟩
  · unfold low high; omega

end Go.Proofs.Ytflgdckeinappaa
