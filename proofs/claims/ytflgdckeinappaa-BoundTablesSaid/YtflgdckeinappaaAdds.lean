/- Add, Sub, Meet, Join, Holds. -/
import Derived.Test.YtflgdckeinappaaCheckAll
namespace Go.Proofs.Ytflgdckeinappaa
open Go.RowKit

/-- Two valid spans: this; else: the zero span and the error. -/
def if2 (a b c d : Int) (x : Ending) : Ending := if allValid [(a, b), (c, d)] then x else .returned (.tuple #[sp 0 0, .int .i64 10])
theorem if2_yes {a b c d : Int} {x : Ending} (h : allValid [(a, b), (c, d)] = true) : if2 a b c d x = x := if_pos h
theorem if2_no {a b c d : Int} {x : Ending} (h : allValid [(a, b), (c, d)] = false) : if2 a b c d x = .returned (.tuple #[sp 0 0, .int .i64 10]) := if_neg (by simp [h])
theorem fitE_yes {lo hi : Int} (h : fitB lo hi = true) : fitE lo hi = .returned (.tuple #[sp lo hi, .int .i64 0]) := if_pos h
theorem fitE_no {lo hi : Int} (h : fitB lo hi = false) : fitE lo hi = .returned (.tuple #[sp 0 0, .int .i64 11]) := if_neg (by simp [h])
theorem valid4 {a b c d : Int} (h : allValid [(a, b), (c, d)] = true) : (a ≤ b ∧ -1099511627776 ≤ a ∧ b ≤ 1099511627776) ∧ (c ≤ d ∧ -1099511627776 ≤ c ∧ d ≤ 1099511627776) := by
  rw [allValid2, Bool.and_eq_true] at h
  exact ⟨validB_bd h.1, validB_bd h.2⟩

set_option maxHeartbeats 400000 in
theorem add_any (a b c d : Int) (w : World) :
    Calls Try.prog 15 #[sp a b, sp c d] w fun e w' => e = if2 a b c d (fitE (a + c) (b + d)) ∧ Below w.heap.size w w' := by
  go_enter Try.func15, Try.ntmps15
  go_wp2_with fail
  refine (checkAll2 _ a b c d _ (by simp) (by go_cell) (by go_cell) (by go_cell) (by go_cell)).mono ?_
  rintro e w1 ⟨rfl, hb1⟩
  obtain ⟨hB, hc, hf⟩ := after (w := w) (by go_grown) hb1
  have hz : w.heap.size + 3 < w1.heap.size := by have := hb1.size; simp at this; omega
  by_cases hv : allValid [(a, b), (c, d)] = true
  · obtain ⟨⟨_, _, _⟩, ⟨_, _, _⟩⟩ := valid4 hv
    rw [allN_yes hv]
    have Hv := Lib.hid hv
    clear hv
    go_wp2_with fail
    refine (fitting_any _ _ _).mono ?_
    rintro e w2 ⟨rfl, hb2⟩
    clear hc hf hB
    obtain ⟨hB, hc, hf⟩ := after (w := w) (by go_grown) (two hb1 hb2)
    by_cases hft : fitB (a + c) (b + d) = true
    · rw [fitE_yes hft]
      go_wp2_with fail
      exact bodyPost_ret (v := .tuple #[sp (a + c) (b + d), .int .i64 0]) (by simp [results, Try.results15, go_sem, hc]) rfl ⟨by rw [if2_yes Hv.out, fitE_yes hft], by go_grown⟩
    · rw [fitE_no (by simpa using hft)]
      go_wp2_with fail
      exact bodyPost_ret (v := .tuple #[sp 0 0, .int .i64 11]) (by simp [results, Try.results15, go_sem, hc]) rfl ⟨by rw [if2_yes Hv.out, fitE_no (by simpa using hft)], by go_grown⟩
  · rw [allN_no (by simpa using hv)]
    go_wp2_with fail
    exact bodyPost_ret (v := .tuple #[sp 0 0, .int .i64 10]) (by simp [results, Try.results15, go_sem, hc]) rfl ⟨by rw [if2_no (by simpa using hv)], by go_grown⟩

set_option maxHeartbeats 400000 in
theorem sub_any (a b c d : Int) (w : World) :
    Calls Try.prog 17 #[sp a b, sp c d] w fun e w' => e = if2 a b c d (fitE (a - d) (b - c)) ∧ Below w.heap.size w w' := by
  go_enter Try.func17, Try.ntmps17
  go_wp2_with fail
  refine (checkAll2 _ a b c d _ (by simp) (by go_cell) (by go_cell) (by go_cell) (by go_cell)).mono ?_
  rintro e w1 ⟨rfl, hb1⟩
  obtain ⟨hB, hc, hf⟩ := after (w := w) (by go_grown) hb1
  have hz : w.heap.size + 3 < w1.heap.size := by have := hb1.size; simp at this; omega
  by_cases hv : allValid [(a, b), (c, d)] = true
  · obtain ⟨⟨_, _, _⟩, ⟨_, _, _⟩⟩ := valid4 hv
    rw [allN_yes hv]
    have Hv := Lib.hid hv
    clear hv
    go_wp2_with fail
    refine (fitting_any _ _ _).mono ?_
    rintro e w2 ⟨rfl, hb2⟩
    clear hc hf hB
    obtain ⟨hB, hc, hf⟩ := after (w := w) (by go_grown) (two hb1 hb2)
    by_cases hft : fitB (a - d) (b - c) = true
    · rw [fitE_yes hft]
      go_wp2_with fail
      exact bodyPost_ret (v := .tuple #[sp (a - d) (b - c), .int .i64 0]) (by simp [results, Try.results17, go_sem, hc]) rfl ⟨by rw [if2_yes Hv.out, fitE_yes hft], by go_grown⟩
    · rw [fitE_no (by simpa using hft)]
      go_wp2_with fail
      exact bodyPost_ret (v := .tuple #[sp 0 0, .int .i64 11]) (by simp [results, Try.results17, go_sem, hc]) rfl ⟨by rw [if2_yes Hv.out, fitE_no (by simpa using hft)], by go_grown⟩
  · rw [allN_no (by simpa using hv)]
    go_wp2_with fail
    exact bodyPost_ret (v := .tuple #[sp 0 0, .int .i64 10]) (by simp [results, Try.results17, go_sem, hc]) rfl ⟨by rw [if2_no (by simpa using hv)], by go_grown⟩

end Go.Proofs.Ytflgdckeinappaa
