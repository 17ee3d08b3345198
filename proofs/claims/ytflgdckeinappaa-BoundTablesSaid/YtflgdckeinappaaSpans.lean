/- The contracts of package bound's small functions on spans, and of the reference's. -/
import Derived.Test.YtflgdckeinappaaBase
namespace Go.Proofs.Ytflgdckeinappaa
open Go.RowKit

set_option maxHeartbeats 400000 in
theorem check_any (lo hi : Int) (w : World) :
    Calls Try.prog 27 #[sp lo hi] w fun e w' => e = .returned (.int .i64 (checkN lo hi)) ∧ Below w.heap.size w w' := by
  go_enter Try.func27, Try.ntmps27
  go_wp2
  all_goals (go_returns; exact ⟨ret_int (by unfold checkN validB; split <;> rename_i hh <;> simp at hh <;> omega), by go_grown⟩)

def fitB (lo hi : Int) : Bool := decide (-1099511627776 ≤ lo ∧ hi ≤ 1099511627776)
/-- What 'fitting' returns: the span, or nothing and the error. -/
def fitE (lo hi : Int) : Ending := if fitB lo hi then .returned (.tuple #[sp lo hi, .int .i64 0]) else .returned (.tuple #[sp 0 0, .int .i64 11])

set_option maxHeartbeats 400000 in
theorem fitting_any (lo hi : Int) (w : World) :
    Calls Try.prog 65 #[sp lo hi] w fun e w' => e = fitE lo hi ∧ Below w.heap.size w w' := by
  go_enter Try.func65, Try.ntmps65
  go_wp2
  all_goals (go_returns; exact ⟨by unfold fitE fitB; split <;> rename_i hh <;> simp at hh <;> first | rfl | omega, by go_grown⟩)

set_option maxHeartbeats 400000 in
theorem rfit_any (lo hi : Int) (w : World) :
    Calls Try.prog 67 #[.int .i64 lo, .int .i64 hi] w fun e w' => e = fitE lo hi ∧ Below w.heap.size w w' := by
  go_enter Try.func67, Try.ntmps67
  go_wp2
  all_goals (go_returns; exact ⟨by unfold fitE fitB; split <;> rename_i hh <;> simp at hh <;> first | rfl | omega, by go_grown⟩)

set_option maxHeartbeats 400000 in
theorem rwithin_any (n lo hi : Int) (w : World) :
    Calls Try.prog 83 #[.int .i64 n, .int .i64 lo, .int .i64 hi] w fun e w' => e = .returned (.bool (decide (lo ≤ n ∧ n ≤ hi))) ∧ w = w' := by
  go_enter Try.func83, Try.ntmps83
  go_wp2
  all_goals (go_returns; exact ⟨ret_bool (by simp; omega), rfl⟩)

theorem validB_bd {lo hi : Int} (h : validB lo hi = true) : lo ≤ hi ∧ -1099511627776 ≤ lo ∧ hi ≤ 1099511627776 := by simpa [validB] using h

set_option maxHeartbeats 400000 in
theorem rvalid_any (lo hi : Int) (w : World) :
    Calls Try.prog 66 #[sp lo hi] w fun e w' => e = .returned (.bool (validB lo hi)) ∧ Below w.heap.size w w' := by
  go_enter Try.func66, Try.ntmps66
  go_wp2
  all_goals (go_returns; exact ⟨ret_bool (by unfold validB; rw [Bool.eq_iff_iff]; simp; try omega), by go_grown⟩)


end Go.Proofs.Ytflgdckeinappaa
