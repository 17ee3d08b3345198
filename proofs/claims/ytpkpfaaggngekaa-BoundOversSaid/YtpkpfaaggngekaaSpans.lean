/- The contracts of package bound's small functions on spans, and of the reference's. -/
import Derived.Test.YtpkpfaaggngekaaBase
namespace Go.Proofs.Ytpkpfaaggngekaa
open Go.RowKit

set_option maxHeartbeats 400000 in
theorem check_any (lo hi : Int) (w : World) :
    Calls Try.prog 26 #[sp lo hi] w fun e w' => e = .returned (.int .i64 (checkN lo hi)) ∧ Below w.heap.size w w' := by
  go_enter Try.func26, Try.ntmps26
  go_wp2
  all_goals (go_returns; exact ⟨ret_int (by unfold checkN validB; split <;> rename_i hh <;> simp at hh <;> omega), by go_grown⟩)

def fitB (lo hi : Int) : Bool := decide (-1099511627776 ≤ lo ∧ hi ≤ 1099511627776)
/-- What 'fitting' returns: the span, or nothing and the error. -/
def fitE (lo hi : Int) : Ending := if fitB lo hi then .returned (.tuple #[sp lo hi, .int .i64 0]) else .returned (.tuple #[sp 0 0, .int .i64 11])

set_option maxHeartbeats 400000 in
theorem fitting_any (lo hi : Int) (w : World) :
    Calls Try.prog 58 #[sp lo hi] w fun e w' => e = fitE lo hi ∧ Below w.heap.size w w' := by
  go_enter Try.func58, Try.ntmps58
  go_wp2
  all_goals (go_returns; exact ⟨by unfold fitE fitB; split <;> rename_i hh <;> simp at hh <;> first | rfl | omega, by go_grown⟩)

set_option maxHeartbeats 400000 in
theorem rfit_any (lo hi : Int) (w : World) :
    Calls Try.prog 60 #[.int .i64 lo, .int .i64 hi] w fun e w' => e = fitE lo hi ∧ Below w.heap.size w w' := by
  go_enter Try.func60, Try.ntmps60
  go_wp2
  all_goals (go_returns; exact ⟨by unfold fitE fitB; split <;> rename_i hh <;> simp at hh <;> first | rfl | omega, by go_grown⟩)

set_option maxHeartbeats 400000 in
theorem rwithin_any (n lo hi : Int) (w : World) :
    Calls Try.prog 76 #[.int .i64 n, .int .i64 lo, .int .i64 hi] w fun e w' => e = .returned (.bool (decide (lo ≤ n ∧ n ≤ hi))) ∧ w = w' := by
  go_enter Try.func76, Try.ntmps76
  go_wp2
  all_goals (go_returns; exact ⟨ret_bool (by simp; omega), rfl⟩)

theorem validB_bd {lo hi : Int} (h : validB lo hi = true) : lo ≤ hi ∧ -1099511627776 ≤ lo ∧ hi ≤ 1099511627776 := by simpa [validB] using h

set_option maxHeartbeats 400000 in
theorem rvalid_any (lo hi : Int) (w : World) :
    Calls Try.prog 59 #[sp lo hi] w fun e w' => e = .returned (.bool (validB lo hi)) ∧ Below w.heap.size w w' := by
  go_enter Try.func59, Try.ntmps59
  go_wp2
  all_goals (go_returns; exact ⟨ret_bool (by unfold validB; rw [Bool.eq_iff_iff]; simp; try omega), by go_grown⟩)


end Go.Proofs.Ytpkpfaaggngekaa
