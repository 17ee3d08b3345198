/- The reference of layer 4: within, spanned, place, Limit; CheckLoads, CheckLimits, CheckFrames. -/
import Derived.Test.YtldnpnplgfkebaaTSl
namespace Go.Proofs.Ytldnpnplgfkebaa
open Go.RowKit

set_option maxHeartbeats 400000 in
theorem rwithin_any (n lo hi : Int) (w : World) :
    Calls Try.prog 60 #[.int .i64 n, .int .i64 lo, .int .i64 hi] w fun e w' => e = .returned (.bool (inB n lo hi)) ∧ w = w' := by
  go_enter Try.func60, Try.ntmps60
  go_wp2
  all_goals (go_returns; exact ⟨ret_bool (by unfold inB; simp; omega), rfl⟩)
set_option maxHeartbeats 400000 in
theorem rplace_any (n : Int) (w : World) : Calls Try.prog 59 #[.int .i64 n] w fun e w' => e = .returned (.bool (inB n (-20000) 20000)) ∧ w = w' := by
  go_enter Try.func59, Try.ntmps59
  go_wp2_with fail
  refine (rwithin_any n (-20000) 20000 _).mono ?_
  rintro e w1 ⟨rfl, rfl⟩
  obtain ⟨u, hu⟩ : ∃ u, inB n (-20000) 20000 = u := ⟨_, rfl⟩
  rw [hu]
  go_wp2_with fail
  go_returns
  exact ⟨ret_bool hu.symm, rfl⟩
set_option maxHeartbeats 400000 in
theorem rspanned_any (a b m : Int) (w : World) (h0 : 0 ≤ m) (h1 : m ≤ 1073741824) :
    Calls Try.prog 53 #[sp a b, .int .i64 m] w fun e w' => e = .returned (.bool (spB a b (-m) m)) ∧ Below w.heap.size w w' := by
  go_enter Try.func53, Try.ntmps53
  go_wp2
  all_goals (go_returns; exact ⟨ret_bool (by unfold spB; rw [Bool.eq_iff_iff]; simp; try omega), by go_grown⟩)
set_option maxHeartbeats 1000000 in
theorem rLimit_any (l : Li) (w : World) : Calls Try.prog 56 #[liV l] w fun e w' => e = .returned (.bool l.ok) ∧ Below w.heap.size w w' := by
  go_enter Try.func56, Try.ntmps56
  go_wp2_with fail
  refine (rwithin_any _ _ _ _).mono ?_
  rintro e w1 ⟨rfl, rfl⟩
  by_cases h1 : inB l.a (-1000) 1000 = true
  rotate_left 1
  · rw [show inB l.a (-1000) 1000 = false by simpa using h1]
    have H1 := Lib.hid (show inB l.a (-1000) 1000 = false by simpa using h1)
    clear h1
    go_wp2_with fail
    go_returns
    exact ⟨ret_bool (by unfold Li.ok; rw [H1.out]; simp), by go_grown⟩
  rw [h1]
  have H1 := Lib.hid h1
  clear h1
  go_wp2_with fail
  refine (rwithin_any _ _ _ _).mono ?_
  rintro e w1 ⟨rfl, rfl⟩
  by_cases h2 : inB l.b (-1000) 1000 = true
  rotate_left 1
  · rw [show inB l.b (-1000) 1000 = false by simpa using h2]
    have H2 := Lib.hid (show inB l.b (-1000) 1000 = false by simpa using h2)
    clear h2
    go_wp2_with fail
    go_returns
    exact ⟨ret_bool (by unfold Li.ok; rw [H1.out, H2.out]; simp), by go_grown⟩
  rw [h2]
  have H2 := Lib.hid h2
  clear h2
  go_wp2_with fail
  refine (rwithin_any _ _ _ _).mono ?_
  rintro e w1 ⟨rfl, rfl⟩
  obtain ⟨u, hu⟩ : ∃ u, inB l.c (-1000000000000000000) 1000000000000000000 = u := ⟨_, rfl⟩
  rw [hu]
  have H3 := Lib.hid hu
  clear hu
  go_wp2_with fail
  go_returns
  exact ⟨ret_bool (by unfold Li.ok; rw [H1.out, H2.out, H3.out]; simp), by go_grown⟩
end Go.Proofs.Ytldnpnplgfkebaa
