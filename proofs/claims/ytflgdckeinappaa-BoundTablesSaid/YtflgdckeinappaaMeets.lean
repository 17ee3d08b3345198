/- Meet, Join, Holds, and the reference's Add, Sub, Meet, Join, Holds. -/
import Derived.Test.YtflgdckeinappaaAdds
namespace Go.Proofs.Ytflgdckeinappaa
open Go.RowKit

def meetE (a b c d : Int) : Ending := if decide (min b d < max a c) then .returned (.tuple #[sp 0 0, .int .i64 6]) else .returned (.tuple #[sp (max a c) (min b d), .int .i64 0])
theorem meetE_none {a b c d : Int} (h : min b d < max a c) : meetE a b c d = .returned (.tuple #[sp 0 0, .int .i64 6]) := if_pos (by simpa using h)
theorem meetE_some {a b c d : Int} (h : ¬ min b d < max a c) : meetE a b c d = .returned (.tuple #[sp (max a c) (min b d), .int .i64 0]) := if_neg (by simpa using h)
def if2b (a b c d : Int) (x : Bool) : Ending := if allValid [(a, b), (c, d)] then .returned (.tuple #[.bool x, .int .i64 0]) else .returned (.tuple #[.bool false, .int .i64 10])
theorem if2b_yes {a b c d : Int} {x : Bool} (h : allValid [(a, b), (c, d)] = true) : if2b a b c d x = .returned (.tuple #[.bool x, .int .i64 0]) := if_pos h
theorem if2b_no {a b c d : Int} {x : Bool} (h : allValid [(a, b), (c, d)] = false) : if2b a b c d x = .returned (.tuple #[.bool false, .int .i64 10]) := if_neg (by simp [h])
def holdsB (a b c d : Int) : Bool := decide (a ≤ c ∧ d ≤ b)
theorem ret_bi {k : IntKind} {a b : Bool} {n : Int} (h : a = b) : Ending.returned (.tuple #[.bool a, .int k n]) = .returned (.tuple #[.bool b, .int k n]) := by rw [h]

theorem meetE_is {a b c d x y : Int} (hx : x = max a c) (hy : y = min b d) (h : x ≤ y) : Ending.returned (.tuple #[sp x y, .int .i64 0]) = meetE a b c d := by rw [meetE_some (by omega), hx, hy]
theorem joinE_is {a b c d x y : Int} (hx : x = min a c) (hy : y = max b d) : Ending.returned (.tuple #[sp x y, .int .i64 0]) = .returned (.tuple #[sp (min a c) (max b d), .int .i64 0]) := by rw [hx, hy]
set_option maxHeartbeats 400000 in
theorem meet_any (a b c d : Int) (w : World) :
    Calls Try.prog 21 #[sp a b, sp c d] w fun e w' => e = if2 a b c d (meetE a b c d) ∧ Below w.heap.size w w' := by
  go_enter Try.func21, Try.ntmps21
  go_wp2_with fail
  refine (checkAll2 _ a b c d _ (by simp) (by go_cell) (by go_cell) (by go_cell) (by go_cell)).mono ?_
  rintro e w1 ⟨rfl, hb1⟩
  obtain ⟨hB, hc, hf⟩ := after (w := w) (by go_grown) hb1
  have hz : w.heap.size + 1 + 1 + 1 < w1.heap.size := by have := hb1.size; simp at this; omega
  have hz0 : w.heap.size < w1.heap.size := by omega
  have hz1 : w.heap.size + 1 < w1.heap.size := by omega
  have hz2 : w.heap.size + 1 + 1 < w1.heap.size := by omega
  by_cases hv : allValid [(a, b), (c, d)] = true
  · obtain ⟨⟨_, _, _⟩, ⟨_, _, _⟩⟩ := valid4 hv
    rw [allN_yes hv]
    have Hv := Lib.hid hv
    clear hv
    by_cases h1 : a < c <;> by_cases h2 : d < b
    · by_cases h3 : d < c
      · exfalso; omega
      · go_wp2_with fail
        exact bodyPost_ret (v := .tuple #[sp c d, .int .i64 0]) (by simp [results, Try.results21, go_sem, *]) rfl ⟨by rw [if2_yes Hv.out]; exact meetE_is (by omega) (by omega) (by omega), by go_grown⟩
    · by_cases h3 : b < c
      · go_wp2_with fail
        exact bodyPost_ret (v := .tuple #[sp 0 0, .int .i64 6]) (by simp [results, Try.results21, go_sem, *]) rfl ⟨by rw [if2_yes Hv.out, meetE_none (by omega)], by go_grown⟩
      · go_wp2_with fail
        exact bodyPost_ret (v := .tuple #[sp c b, .int .i64 0]) (by simp [results, Try.results21, go_sem, *]) rfl ⟨by rw [if2_yes Hv.out]; exact meetE_is (by omega) (by omega) (by omega), by go_grown⟩
    · by_cases h3 : d < a
      · go_wp2_with fail
        exact bodyPost_ret (v := .tuple #[sp 0 0, .int .i64 6]) (by simp [results, Try.results21, go_sem, *]) rfl ⟨by rw [if2_yes Hv.out, meetE_none (by omega)], by go_grown⟩
      · go_wp2_with fail
        exact bodyPost_ret (v := .tuple #[sp a d, .int .i64 0]) (by simp [results, Try.results21, go_sem, *]) rfl ⟨by rw [if2_yes Hv.out]; exact meetE_is (by omega) (by omega) (by omega), by go_grown⟩
    · by_cases h3 : b < a
      · exfalso; omega
      · go_wp2_with fail
        exact bodyPost_ret (v := .tuple #[sp a b, .int .i64 0]) (by simp [results, Try.results21, go_sem, *]) rfl ⟨by rw [if2_yes Hv.out]; exact meetE_is (by omega) (by omega) (by omega), by go_grown⟩
  · rw [allN_no (by simpa using hv)]
    go_wp2_with fail
    exact bodyPost_ret (v := .tuple #[sp 0 0, .int .i64 10]) (by simp [results, Try.results21, go_sem, *]) rfl ⟨by rw [if2_no (by simpa using hv)], by go_grown⟩

set_option maxHeartbeats 400000 in
theorem join_any (a b c d : Int) (w : World) :
    Calls Try.prog 23 #[sp a b, sp c d] w fun e w' => e = if2 a b c d (.returned (.tuple #[sp (min a c) (max b d), .int .i64 0])) ∧ Below w.heap.size w w' := by
  go_enter Try.func23, Try.ntmps23
  go_wp2_with fail
  refine (checkAll2 _ a b c d _ (by simp) (by go_cell) (by go_cell) (by go_cell) (by go_cell)).mono ?_
  rintro e w1 ⟨rfl, hb1⟩
  obtain ⟨hB, hc, hf⟩ := after (w := w) (by go_grown) hb1
  have hz : w.heap.size + 1 + 1 + 1 < w1.heap.size := by have := hb1.size; simp at this; omega
  have hz0 : w.heap.size < w1.heap.size := by omega
  have hz1 : w.heap.size + 1 < w1.heap.size := by omega
  have hz2 : w.heap.size + 1 + 1 < w1.heap.size := by omega
  by_cases hv : allValid [(a, b), (c, d)] = true
  · obtain ⟨⟨_, _, _⟩, ⟨_, _, _⟩⟩ := valid4 hv
    rw [allN_yes hv]
    have Hv := Lib.hid hv
    clear hv
    by_cases h1 : c < a <;> by_cases h2 : b < d
    · go_wp2_with fail
      exact bodyPost_ret (v := .tuple #[sp c d, .int .i64 0]) (by simp [results, Try.results23, go_sem, *]) rfl ⟨by rw [if2_yes Hv.out]; exact joinE_is (by omega) (by omega), by go_grown⟩
    · go_wp2_with fail
      exact bodyPost_ret (v := .tuple #[sp c b, .int .i64 0]) (by simp [results, Try.results23, go_sem, *]) rfl ⟨by rw [if2_yes Hv.out]; exact joinE_is (by omega) (by omega), by go_grown⟩
    · go_wp2_with fail
      exact bodyPost_ret (v := .tuple #[sp a d, .int .i64 0]) (by simp [results, Try.results23, go_sem, *]) rfl ⟨by rw [if2_yes Hv.out]; exact joinE_is (by omega) (by omega), by go_grown⟩
    · go_wp2_with fail
      exact bodyPost_ret (v := .tuple #[sp a b, .int .i64 0]) (by simp [results, Try.results23, go_sem, *]) rfl ⟨by rw [if2_yes Hv.out]; exact joinE_is (by omega) (by omega), by go_grown⟩
  · rw [allN_no (by simpa using hv)]
    go_wp2_with fail
    exact bodyPost_ret (v := .tuple #[sp 0 0, .int .i64 10]) (by simp [results, Try.results23, go_sem, *]) rfl ⟨by rw [if2_no (by simpa using hv)], by go_grown⟩

set_option maxHeartbeats 400000 in
theorem holds_any (a b c d : Int) (w : World) :
    Calls Try.prog 25 #[sp a b, sp c d] w fun e w' => e = if2b a b c d (holdsB a b c d) ∧ Below w.heap.size w w' := by
  go_enter Try.func25, Try.ntmps25
  go_wp2_with fail
  refine (checkAll2 _ a b c d _ (by simp) (by go_cell) (by go_cell) (by go_cell) (by go_cell)).mono ?_
  rintro e w1 ⟨rfl, hb1⟩
  obtain ⟨hB, hc, hf⟩ := after (w := w) (by go_grown) hb1
  have hz : w.heap.size + 1 + 1 < w1.heap.size := by have := hb1.size; simp at this; omega
  have hz0 : w.heap.size < w1.heap.size := by omega
  have hz1 : w.heap.size + 1 < w1.heap.size := by omega
  by_cases hv : allValid [(a, b), (c, d)] = true
  · obtain ⟨⟨_, _, _⟩, ⟨_, _, _⟩⟩ := valid4 hv
    rw [allN_yes hv]
    have Hv := Lib.hid hv
    clear hv
    go_wp2_with fail
    all_goals (go_returns; exact ⟨by rw [if2b_yes Hv.out]; exact ret_bi (by unfold holdsB; rw [Bool.eq_iff_iff]; simp; try omega), by go_grown⟩)
  · rw [allN_no (by simpa using hv)]
    go_wp2_with fail
    go_returns
    exact ⟨(if2b_no (by simpa using hv)).symm, by go_grown⟩

end Go.Proofs.Ytflgdckeinappaa
