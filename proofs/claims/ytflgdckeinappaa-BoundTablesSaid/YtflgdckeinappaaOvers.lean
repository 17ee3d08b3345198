/- Mul, Over. -/
import Derived.Test.YtflgdckeinappaaRatios
import Derived.Test.YtflgdckeinappaaAdds
namespace Go.Proofs.Ytflgdckeinappaa
open Go.RowKit

def minD (a b c d f g : Int) : Int := min8 (downs a b c d f g)
def maxU (a b c d f g : Int) : Int := max8 (ups a b c d f g)
theorem rats (a b c d f g : Int) (w : World) (h1 : validB a b = true) (h2 : validB c d = true) (h3 : validB f g = true) (hf : 1 ≤ f) :
    Calls Try.prog 68 #[sp a b, sp c d, sp f g] w fun e w' => e = .returned (sp (minD a b c d f g) (maxU a b c d f g)) ∧ Below w.heap.size w w' := ratios_any a b c d f g w h1 h2 h3 hf

theorem valid1 : validB 1 1 = true := by decide
set_option maxHeartbeats 400000 in
theorem mul_any (a b c d : Int) (w : World) :
    Calls Try.prog 19 #[sp a b, sp c d] w fun e w' => e = if2 a b c d (fitE (minD a b c d 1 1) (maxU a b c d 1 1)) ∧ Below w.heap.size w w' := by
  go_enter Try.func19, Try.ntmps19
  go_wp2_with fail
  refine (checkAll2 _ a b c d _ (by simp) (by go_cell) (by go_cell) (by go_cell) (by go_cell)).mono ?_
  rintro e w1 ⟨rfl, hb1⟩
  obtain ⟨hB, hc, hf⟩ := after (w := w) (by go_grown) hb1
  have hz : w.heap.size + 3 < w1.heap.size := by have := hb1.size; simp at this; omega
  by_cases hv : allValid [(a, b), (c, d)] = true
  · have hv' := hv
    rw [allValid2, Bool.and_eq_true] at hv'
    have HV := Lib.hid hv'
    rw [allN_yes hv]
    have Hv := Lib.hid hv
    clear hv hv'
    go_wp2_with fail
    refine (rats a b c d 1 1 _ HV.out.1 HV.out.2 valid1 (by omega)).mono ?_
    rintro e w2 ⟨rfl, hb2⟩
    clear hc hf hB
    have hbb := two hb1 hb2
    obtain ⟨hB, hc, hf⟩ := after (w := w) (by go_grown) hbb
    go_wp2_with fail
    refine (fitting_any _ _ _).mono ?_
    rintro e w3 ⟨rfl, hb3⟩
    clear hc hf hB
    obtain ⟨hB, hc, hf⟩ := after (w := w) (by go_grown) (two hbb hb3)
    by_cases hft : fitB (minD a b c d 1 1) (maxU a b c d 1 1) = true
    · rw [fitE_yes hft]
      go_wp2_with fail
      exact bodyPost_ret (v := .tuple #[sp (minD a b c d 1 1) (maxU a b c d 1 1), .int .i64 0]) (by simp [results, Try.results19, go_sem, *]) rfl ⟨by rw [if2_yes Hv.out, fitE_yes hft], by go_grown⟩
    · rw [fitE_no (by simpa using hft)]
      go_wp2_with fail
      exact bodyPost_ret (v := .tuple #[sp 0 0, .int .i64 11]) (by simp [results, Try.results19, go_sem, *]) rfl ⟨by rw [if2_yes Hv.out, fitE_no (by simpa using hft)], by go_grown⟩
  · rw [allN_no (by simpa using hv)]
    go_wp2_with fail
    exact bodyPost_ret (v := .tuple #[sp 0 0, .int .i64 10]) (by simp [results, Try.results19, go_sem, *]) rfl ⟨by rw [if2_no (by simpa using hv)], by go_grown⟩

/-- Three valid spans, the third above 0: this; else the zero span and the error. -/
def if3 (a b c d f g : Int) (x : Ending) : Ending := if allValid [(a, b), (c, d), (f, g)] then (if f ≤ 0 then .returned (.tuple #[sp 0 0, .int .i64 12]) else x) else .returned (.tuple #[sp 0 0, .int .i64 10])
theorem if3_yes {a b c d f g : Int} {x : Ending} (h : allValid [(a, b), (c, d), (f, g)] = true) (hf : ¬ f ≤ 0) : if3 a b c d f g x = x := by unfold if3; rw [if_pos h, if_neg hf]
theorem if3_zero {a b c d f g : Int} {x : Ending} (h : allValid [(a, b), (c, d), (f, g)] = true) (hf : f ≤ 0) : if3 a b c d f g x = .returned (.tuple #[sp 0 0, .int .i64 12]) := by unfold if3; rw [if_pos h, if_pos hf]
theorem if3_no {a b c d f g : Int} {x : Ending} (h : allValid [(a, b), (c, d), (f, g)] = false) : if3 a b c d f g x = .returned (.tuple #[sp 0 0, .int .i64 10]) := by unfold if3; rw [if_neg (by simp [h])]

set_option maxHeartbeats 400000 in
theorem over_any (a b c d f g : Int) (w : World) :
    Calls Try.prog 29 #[sp a b, sp c d, sp f g] w fun e w' => e = if3 a b c d f g (fitE (minD a b c d f g) (maxU a b c d f g)) ∧ Below w.heap.size w w' := by
  go_enter Try.func29, Try.ntmps29
  go_wp2_with fail
  refine (checkAll3 _ a b c d f g _ (by simp) (by go_cell) (by go_cell) (by go_cell) (by go_cell) (by go_cell) (by go_cell)).mono ?_
  rintro e w1 ⟨rfl, hb1⟩
  obtain ⟨hB, hc, hf⟩ := after (w := w) (by go_grown) hb1
  have hz : w.heap.size + 4 < w1.heap.size := by have := hb1.size; simp at this; omega
  by_cases hv : allValid [(a, b), (c, d), (f, g)] = true
  · have hv' := hv
    rw [allValid3, Bool.and_eq_true, Bool.and_eq_true] at hv'
    have HV := Lib.hid hv'
    rw [allN_yes hv]
    have Hv := Lib.hid hv
    clear hv hv'
    by_cases hf0 : f ≤ 0
    · go_wp2_with fail
      exact bodyPost_ret (v := .tuple #[sp 0 0, .int .i64 12]) (by simp [results, Try.results29, go_sem, *]) rfl ⟨by rw [if3_zero Hv.out hf0], by go_grown⟩
    · go_wp2_with fail
      refine (rats a b c d f g _ HV.out.1 HV.out.2.1 HV.out.2.2 (by omega)).mono ?_
      rintro e w2 ⟨rfl, hb2⟩
      clear hc hf hB
      have hbb := two hb1 hb2
      obtain ⟨hB, hc, hf⟩ := after (w := w) (by go_grown) hbb
      go_wp2_with fail
      refine (fitting_any _ _ _).mono ?_
      rintro e w3 ⟨rfl, hb3⟩
      clear hc hf hB
      obtain ⟨hB, hc, hf⟩ := after (w := w) (by go_grown) (two hbb hb3)
      by_cases hft : fitB (minD a b c d f g) (maxU a b c d f g) = true
      · rw [fitE_yes hft]
        go_wp2_with fail
        exact bodyPost_ret (v := .tuple #[sp (minD a b c d f g) (maxU a b c d f g), .int .i64 0]) (by simp [results, Try.results29, go_sem, *]) rfl ⟨by rw [if3_yes Hv.out (by omega), fitE_yes hft], by go_grown⟩
      · rw [fitE_no (by simpa using hft)]
        go_wp2_with fail
        exact bodyPost_ret (v := .tuple #[sp 0 0, .int .i64 11]) (by simp [results, Try.results29, go_sem, *]) rfl ⟨by rw [if3_yes Hv.out (by omega), fitE_no (by simpa using hft)], by go_grown⟩
  · rw [allN_no (by simpa using hv)]
    go_wp2_with fail
    exact bodyPost_ret (v := .tuple #[sp 0 0, .int .i64 10]) (by simp [results, Try.results29, go_sem, *]) rfl ⟨by rw [if3_no (by simpa using hv)], by go_grown⟩

end Go.Proofs.Ytflgdckeinappaa
