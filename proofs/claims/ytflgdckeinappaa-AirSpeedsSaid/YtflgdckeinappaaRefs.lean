/- The reference's Add, Sub, Meet, Join, Holds. -/
import Derived.Test.YtflgdckeinappaaMeets
namespace Go.Proofs.Ytflgdckeinappaa
open Go.RowKit

set_option maxHeartbeats 400000 in
theorem radd_any (a b c d : Int) (w : World) :
    Calls Try.prog 16 #[sp a b, sp c d] w fun e w' => e = if2 a b c d (fitE (a + c) (b + d)) ∧ Below w.heap.size w w' := by
  go_enter Try.func16, Try.ntmps16
  go_wp2_with fail
  refine (rvalid_any _ _ _).mono ?_
  rintro e w1 ⟨rfl, hb1⟩
  obtain ⟨hB, hc, hf⟩ := after (w := w) (by go_grown) hb1
  have hz : w.heap.size + 1 + 1 < w1.heap.size := by have := hb1.size; simp at this; omega
  by_cases hv1 : validB a b = true
  · rw [hv1]
    have Hv1 := Lib.hid hv1
    clear hv1
    go_wp2_with fail
    refine (rvalid_any _ _ _).mono ?_
    rintro e w2 ⟨rfl, hb2⟩
    clear hc hf hB
    have hbb := two hb1 hb2
    obtain ⟨hB, hc, hf⟩ := after (w := w) (by go_grown) hbb
    have hzz : w.heap.size + 1 + 1 < w2.heap.size := by have := hb2.size; omega
    by_cases hv2 : validB c d = true
    · rw [hv2]
      have hv : allValid [(a, b), (c, d)] = true := by rw [allValid2, Hv1.out, hv2]; rfl
      clear hv2
      obtain ⟨⟨_, _, _⟩, ⟨_, _, _⟩⟩ := valid4 hv
      have Hv := Lib.hid hv
      clear hv
      go_wp2_with fail
      refine (rfit_any _ _ _).mono ?_
      rintro e w3 ⟨rfl, hb3⟩
      clear hc hf hB
      obtain ⟨hB, hc, hf⟩ := after (w := w) (by go_grown) (two hbb hb3)
      by_cases hft : fitB (a + c) (b + d) = true
      · rw [fitE_yes hft]
        go_wp2_with fail
        exact bodyPost_ret (v := .tuple #[sp (a + c) (b + d), .int .i64 0]) (by simp [results, Try.results16, go_sem, *]) rfl ⟨by rw [if2_yes Hv.out, fitE_yes hft], by go_grown⟩
      · rw [fitE_no (by simpa using hft)]
        go_wp2_with fail
        exact bodyPost_ret (v := .tuple #[sp 0 0, .int .i64 11]) (by simp [results, Try.results16, go_sem, *]) rfl ⟨by rw [if2_yes Hv.out, fitE_no (by simpa using hft)], by go_grown⟩
    · have hv2' : validB c d = false := by simpa using hv2
      rw [hv2']
      go_wp2_with fail
      exact bodyPost_ret (v := .tuple #[sp 0 0, .int .i64 10]) (by simp [results, Try.results16, go_sem, *]) rfl ⟨by rw [if2_no (by rw [allValid2, hv2']; simp)], by go_grown⟩
  · have hv1' : validB a b = false := by simpa using hv1
    rw [hv1']
    go_wp2_with fail
    exact bodyPost_ret (v := .tuple #[sp 0 0, .int .i64 10]) (by simp [results, Try.results16, go_sem, *]) rfl ⟨by rw [if2_no (by rw [allValid2, hv1']; simp)], by go_grown⟩

set_option maxHeartbeats 400000 in
theorem rsub_any (a b c d : Int) (w : World) :
    Calls Try.prog 18 #[sp a b, sp c d] w fun e w' => e = if2 a b c d (fitE (a - d) (b - c)) ∧ Below w.heap.size w w' := by
  go_enter Try.func18, Try.ntmps18
  go_wp2_with fail
  refine (rvalid_any _ _ _).mono ?_
  rintro e w1 ⟨rfl, hb1⟩
  obtain ⟨hB, hc, hf⟩ := after (w := w) (by go_grown) hb1
  have hz : w.heap.size + 1 + 1 < w1.heap.size := by have := hb1.size; simp at this; omega
  by_cases hv1 : validB a b = true
  · rw [hv1]
    have Hv1 := Lib.hid hv1
    clear hv1
    go_wp2_with fail
    refine (rvalid_any _ _ _).mono ?_
    rintro e w2 ⟨rfl, hb2⟩
    clear hc hf hB
    have hbb := two hb1 hb2
    obtain ⟨hB, hc, hf⟩ := after (w := w) (by go_grown) hbb
    have hzz : w.heap.size + 1 + 1 < w2.heap.size := by have := hb2.size; omega
    by_cases hv2 : validB c d = true
    · rw [hv2]
      have hv : allValid [(a, b), (c, d)] = true := by rw [allValid2, Hv1.out, hv2]; rfl
      clear hv2
      obtain ⟨⟨_, _, _⟩, ⟨_, _, _⟩⟩ := valid4 hv
      have Hv := Lib.hid hv
      clear hv
      go_wp2_with fail
      refine (rfit_any _ _ _).mono ?_
      rintro e w3 ⟨rfl, hb3⟩
      clear hc hf hB
      obtain ⟨hB, hc, hf⟩ := after (w := w) (by go_grown) (two hbb hb3)
      by_cases hft : fitB (a - d) (b - c) = true
      · rw [fitE_yes hft]
        go_wp2_with fail
        exact bodyPost_ret (v := .tuple #[sp (a - d) (b - c), .int .i64 0]) (by simp [results, Try.results18, go_sem, *]) rfl ⟨by rw [if2_yes Hv.out, fitE_yes hft], by go_grown⟩
      · rw [fitE_no (by simpa using hft)]
        go_wp2_with fail
        exact bodyPost_ret (v := .tuple #[sp 0 0, .int .i64 11]) (by simp [results, Try.results18, go_sem, *]) rfl ⟨by rw [if2_yes Hv.out, fitE_no (by simpa using hft)], by go_grown⟩
    · have hv2' : validB c d = false := by simpa using hv2
      rw [hv2']
      go_wp2_with fail
      exact bodyPost_ret (v := .tuple #[sp 0 0, .int .i64 10]) (by simp [results, Try.results18, go_sem, *]) rfl ⟨by rw [if2_no (by rw [allValid2, hv2']; simp)], by go_grown⟩
  · have hv1' : validB a b = false := by simpa using hv1
    rw [hv1']
    go_wp2_with fail
    exact bodyPost_ret (v := .tuple #[sp 0 0, .int .i64 10]) (by simp [results, Try.results18, go_sem, *]) rfl ⟨by rw [if2_no (by rw [allValid2, hv1']; simp)], by go_grown⟩

set_option maxHeartbeats 400000 in
theorem rmeet_any (a b c d : Int) (w : World) :
    Calls Try.prog 22 #[sp a b, sp c d] w fun e w' => e = if2 a b c d (meetE a b c d) ∧ Below w.heap.size w w' := by
  go_enter Try.func22, Try.ntmps22
  go_wp2_with fail
  refine (rvalid_any _ _ _).mono ?_
  rintro e w1 ⟨rfl, hb1⟩
  obtain ⟨hB, hc, hf⟩ := after (w := w) (by go_grown) hb1
  have hz : w.heap.size + 1 + 1 < w1.heap.size := by have := hb1.size; simp at this; omega
  by_cases hv1 : validB a b = true
  · rw [hv1]
    have Hv1 := Lib.hid hv1
    clear hv1
    go_wp2_with fail
    refine (rvalid_any _ _ _).mono ?_
    rintro e w2 ⟨rfl, hb2⟩
    clear hc hf hB
    have hbb := two hb1 hb2
    obtain ⟨hB, hc, hf⟩ := after (w := w) (by go_grown) hbb
    have hzz : w.heap.size + 1 + 1 < w2.heap.size := by have := hb2.size; omega
    have hz0 : w.heap.size < w2.heap.size := by omega
    have hz1 : w.heap.size + 1 < w2.heap.size := by omega
    by_cases hv2 : validB c d = true
    · rw [hv2]
      have hv : allValid [(a, b), (c, d)] = true := by rw [allValid2, Hv1.out, hv2]; rfl
      clear hv2
      obtain ⟨⟨_, _, _⟩, ⟨_, _, _⟩⟩ := valid4 hv
      have Hv := Lib.hid hv
      clear hv
      by_cases h1 : a < c <;> by_cases h2 : d < b
      · by_cases h3 : d < c
        · exfalso; omega
        · go_wp2_with fail
          exact bodyPost_ret (v := .tuple #[sp c d, .int .i64 0]) (by simp [results, Try.results22, go_sem, *]) rfl ⟨by rw [if2_yes Hv.out]; exact meetE_is (by omega) (by omega) (by omega), by go_grown⟩
      · by_cases h3 : b < c
        · go_wp2_with fail
          exact bodyPost_ret (v := .tuple #[sp 0 0, .int .i64 6]) (by simp [results, Try.results22, go_sem, *]) rfl ⟨by rw [if2_yes Hv.out, meetE_none (by omega)], by go_grown⟩
        · go_wp2_with fail
          exact bodyPost_ret (v := .tuple #[sp c b, .int .i64 0]) (by simp [results, Try.results22, go_sem, *]) rfl ⟨by rw [if2_yes Hv.out]; exact meetE_is (by omega) (by omega) (by omega), by go_grown⟩
      · by_cases h3 : d < a
        · go_wp2_with fail
          exact bodyPost_ret (v := .tuple #[sp 0 0, .int .i64 6]) (by simp [results, Try.results22, go_sem, *]) rfl ⟨by rw [if2_yes Hv.out, meetE_none (by omega)], by go_grown⟩
        · go_wp2_with fail
          exact bodyPost_ret (v := .tuple #[sp a d, .int .i64 0]) (by simp [results, Try.results22, go_sem, *]) rfl ⟨by rw [if2_yes Hv.out]; exact meetE_is (by omega) (by omega) (by omega), by go_grown⟩
      · by_cases h3 : b < a
        · exfalso; omega
        · go_wp2_with fail
          exact bodyPost_ret (v := .tuple #[sp a b, .int .i64 0]) (by simp [results, Try.results22, go_sem, *]) rfl ⟨by rw [if2_yes Hv.out]; exact meetE_is (by omega) (by omega) (by omega), by go_grown⟩
    · have hv2' : validB c d = false := by simpa using hv2
      rw [hv2']
      go_wp2_with fail
      exact bodyPost_ret (v := .tuple #[sp 0 0, .int .i64 10]) (by simp [results, Try.results22, go_sem, *]) rfl ⟨by rw [if2_no (by rw [allValid2, hv2']; simp)], by go_grown⟩
  · have hv1' : validB a b = false := by simpa using hv1
    rw [hv1']
    go_wp2_with fail
    exact bodyPost_ret (v := .tuple #[sp 0 0, .int .i64 10]) (by simp [results, Try.results22, go_sem, *]) rfl ⟨by rw [if2_no (by rw [allValid2, hv1']; simp)], by go_grown⟩

set_option maxHeartbeats 400000 in
theorem rjoin_any (a b c d : Int) (w : World) :
    Calls Try.prog 24 #[sp a b, sp c d] w fun e w' => e = if2 a b c d (.returned (.tuple #[sp (min a c) (max b d), .int .i64 0])) ∧ Below w.heap.size w w' := by
  go_enter Try.func24, Try.ntmps24
  go_wp2_with fail
  refine (rvalid_any _ _ _).mono ?_
  rintro e w1 ⟨rfl, hb1⟩
  obtain ⟨hB, hc, hf⟩ := after (w := w) (by go_grown) hb1
  have hz : w.heap.size + 1 + 1 < w1.heap.size := by have := hb1.size; simp at this; omega
  by_cases hv1 : validB a b = true
  · rw [hv1]
    have Hv1 := Lib.hid hv1
    clear hv1
    go_wp2_with fail
    refine (rvalid_any _ _ _).mono ?_
    rintro e w2 ⟨rfl, hb2⟩
    clear hc hf hB
    have hbb := two hb1 hb2
    obtain ⟨hB, hc, hf⟩ := after (w := w) (by go_grown) hbb
    have hzz : w.heap.size + 1 + 1 < w2.heap.size := by have := hb2.size; omega
    have hz0 : w.heap.size < w2.heap.size := by omega
    have hz1 : w.heap.size + 1 < w2.heap.size := by omega
    by_cases hv2 : validB c d = true
    · rw [hv2]
      have hv : allValid [(a, b), (c, d)] = true := by rw [allValid2, Hv1.out, hv2]; rfl
      clear hv2
      obtain ⟨⟨_, _, _⟩, ⟨_, _, _⟩⟩ := valid4 hv
      have Hv := Lib.hid hv
      clear hv
      by_cases h1 : c < a <;> by_cases h2 : b < d
      · go_wp2_with fail
        exact bodyPost_ret (v := .tuple #[sp c d, .int .i64 0]) (by simp [results, Try.results24, go_sem, *]) rfl ⟨by rw [if2_yes Hv.out]; exact joinE_is (by omega) (by omega), by go_grown⟩
      · go_wp2_with fail
        exact bodyPost_ret (v := .tuple #[sp c b, .int .i64 0]) (by simp [results, Try.results24, go_sem, *]) rfl ⟨by rw [if2_yes Hv.out]; exact joinE_is (by omega) (by omega), by go_grown⟩
      · go_wp2_with fail
        exact bodyPost_ret (v := .tuple #[sp a d, .int .i64 0]) (by simp [results, Try.results24, go_sem, *]) rfl ⟨by rw [if2_yes Hv.out]; exact joinE_is (by omega) (by omega), by go_grown⟩
      · go_wp2_with fail
        exact bodyPost_ret (v := .tuple #[sp a b, .int .i64 0]) (by simp [results, Try.results24, go_sem, *]) rfl ⟨by rw [if2_yes Hv.out]; exact joinE_is (by omega) (by omega), by go_grown⟩
    · have hv2' : validB c d = false := by simpa using hv2
      rw [hv2']
      go_wp2_with fail
      exact bodyPost_ret (v := .tuple #[sp 0 0, .int .i64 10]) (by simp [results, Try.results24, go_sem, *]) rfl ⟨by rw [if2_no (by rw [allValid2, hv2']; simp)], by go_grown⟩
  · have hv1' : validB a b = false := by simpa using hv1
    rw [hv1']
    go_wp2_with fail
    exact bodyPost_ret (v := .tuple #[sp 0 0, .int .i64 10]) (by simp [results, Try.results24, go_sem, *]) rfl ⟨by rw [if2_no (by rw [allValid2, hv1']; simp)], by go_grown⟩

set_option maxHeartbeats 400000 in
theorem rholds_any (a b c d : Int) (w : World) :
    Calls Try.prog 26 #[sp a b, sp c d] w fun e w' => e = if2b a b c d (holdsB a b c d) ∧ Below w.heap.size w w' := by
  go_enter Try.func26, Try.ntmps26
  go_wp2_with fail
  refine (rvalid_any _ _ _).mono ?_
  rintro e w1 ⟨rfl, hb1⟩
  obtain ⟨hB, hc, hf⟩ := after (w := w) (by go_grown) hb1
  have hz : w.heap.size + 1 < w1.heap.size := by have := hb1.size; simp at this; omega
  by_cases hv1 : validB a b = true
  · rw [hv1]
    have Hv1 := Lib.hid hv1
    clear hv1
    go_wp2_with fail
    refine (rvalid_any _ _ _).mono ?_
    rintro e w2 ⟨rfl, hb2⟩
    clear hc hf hB
    have hbb := two hb1 hb2
    obtain ⟨hB, hc, hf⟩ := after (w := w) (by go_grown) hbb
    have hzz : w.heap.size + 1 < w2.heap.size := by have := hb2.size; omega
    have hz0 : w.heap.size < w2.heap.size := by omega
    by_cases hv2 : validB c d = true
    · rw [hv2]
      have hv : allValid [(a, b), (c, d)] = true := by rw [allValid2, Hv1.out, hv2]; rfl
      clear hv2
      obtain ⟨⟨_, _, _⟩, ⟨_, _, _⟩⟩ := valid4 hv
      have Hv := Lib.hid hv
      clear hv
      go_wp2_with fail
      all_goals (go_returns; exact ⟨by rw [if2b_yes Hv.out]; exact ret_bi (by unfold holdsB; rw [Bool.eq_iff_iff]; simp; try omega), by go_grown⟩)
    · have hv2' : validB c d = false := by simpa using hv2
      rw [hv2']
      go_wp2_with fail
      go_returns
      exact ⟨(if2b_no (by rw [allValid2, hv2']; simp)).symm, by go_grown⟩
  · have hv1' : validB a b = false := by simpa using hv1
    rw [hv1']
    go_wp2_with fail
    go_returns
    exact ⟨(if2b_no (by rw [allValid2, hv1']; simp)).symm, by go_grown⟩

end Go.Proofs.Ytflgdckeinappaa
