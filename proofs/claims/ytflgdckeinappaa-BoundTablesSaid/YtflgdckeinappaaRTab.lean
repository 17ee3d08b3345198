/- The specification's tables: floor, ceil, near, upTo. -/
import Derived.Test.YtflgdckeinappaaMay
namespace Go.Proofs.Ytflgdckeinappaa
open Go.RowKit

set_option maxHeartbeats 400000 in
theorem rfloor_pos (n d : Int) (w : World) (hd : 1 ≤ d) (hd1 : d ≤ 4611686018427387904) (h0 : -9223372036854775807 ≤ n) (h1 : n ≤ 9223372036854775807) :
    Calls Try.prog 135 #[.int .i64 n, .int .i64 d] w fun e w' => e = .returned (.int .i64 (n / d)) ∧ w = w' := by
  obtain ⟨b0, b1⟩ := tdiv_wide n d h0 h1
  have hf := tdiv_floor n d (by omega)
  obtain ⟨fl, hfl⟩ : ∃ x : Int, n / d = x := ⟨_, rfl⟩
  rw [hfl] at hf ⊢
  have HF := Lib.hid hf
  have Hfl := Lib.hid hfl
  clear hf hfl
  go_enter Try.func135, Try.ntmps135
  go_wp2
  all_goals (go_returns; exact ⟨ret_int (by rw [HF.out]; split <;> omega), rfl⟩)
set_option maxHeartbeats 400000 in
theorem rfloor_neg (n d : Int) (w : World) (hd : d ≤ -1) (hd1 : -4611686018427387904 ≤ d) (h0 : -9223372036854775807 ≤ n) (h1 : n ≤ 9223372036854775807) :
    Calls Try.prog 135 #[.int .i64 n, .int .i64 d] w fun e w' => e = .returned (.int .i64 (-n / -d)) ∧ w = w' := by
  obtain ⟨b0, b1⟩ := tdiv_wide (-n) (-d) (by omega) (by omega)
  have hf := tdiv_floor (-n) (-d) (by omega)
  simp only [Int.neg_tdiv, Int.tdiv_neg, Int.neg_neg, Int.neg_tmod, Int.tmod_neg] at hf b0 b1
  obtain ⟨fl, hfl⟩ : ∃ x : Int, -n / -d = x := ⟨_, rfl⟩
  rw [hfl] at hf ⊢
  have HF := Lib.hid hf
  have Hfl := Lib.hid hfl
  have g1 : IntKind.i64.wrap (-n) = -n := IntWalk.i64_in _ ⟨by omega, by omega⟩
  have g2 : IntKind.i64.wrap (-d) = -d := IntWalk.i64_in _ ⟨by omega, by omega⟩
  clear hf hfl
  go_enter Try.func135, Try.ntmps135
  go_wp2_with fail
  all_goals (go_returns; exact ⟨ret_int (by rw [HF.out]; split <;> omega), rfl⟩)
set_option maxHeartbeats 400000 in
theorem rnear_any (y : Int) (w : World) : Calls Try.prog 89 #[.int .i64 y] w fun e w' => e = .returned (.int .i64 (nearI y)) ∧ w = w' := by
  go_enter Try.func89, Try.ntmps89
  go_wp2
  all_goals (go_returns; exact ⟨rfl, rfl⟩)

/-- Rounded up. -/
theorem rceil_neg (n d : Int) (w : World) (hd : d ≤ -1) (hd1 : -4611686018427387904 ≤ d) (h0 : -4611686020574871552 ≤ n) (h1 : n ≤ 4611686020574871552) :
    Calls Try.prog 136 #[.int .i64 n, .int .i64 d] w fun e w' => e = .returned (.int .i64 (-(n / -d))) ∧ w = w' := by
  obtain ⟨q0, q1⟩ := quo_bd n (-d) (by omega) h0 h1
  obtain ⟨q, hq⟩ : ∃ q : Int, n / -d = q := ⟨_, rfl⟩
  rw [hq] at q0 q1 ⊢
  have HQ := Lib.hid hq
  have g1 : IntKind.i64.wrap (-n) = -n := IntWalk.i64_in _ ⟨by omega, by omega⟩
  have g2 : IntKind.i64.wrap (-q) = -q := IntWalk.i64_in _ ⟨by omega, by omega⟩
  clear hq
  go_enter Try.func136, Try.ntmps136
  go_wp2_with fail
  refine (rfloor_neg _ _ _ hd hd1 (by omega) (by omega)).mono ?_
  rintro e _ ⟨rfl, rfl⟩
  rw [Int.neg_neg, HQ.out]
  go_wp2_with fail
  go_returns
  exact ⟨rfl, rfl⟩
theorem rceil_pos (n d : Int) (w : World) (hd : 1 ≤ d) (hd1 : d ≤ 4611686018427387904) (h0 : -4611686020574871552 ≤ n) (h1 : n ≤ 4611686020574871552) :
    Calls Try.prog 136 #[.int .i64 n, .int .i64 d] w fun e w' => e = .returned (.int .i64 (-(-n / d))) ∧ w = w' := by
  obtain ⟨q0, q1⟩ := quo_bd (-n) d (by omega) (by omega) (by omega)
  obtain ⟨q, hq⟩ : ∃ q : Int, -n / d = q := ⟨_, rfl⟩
  rw [hq] at q0 q1 ⊢
  have HQ := Lib.hid hq
  have g1 : IntKind.i64.wrap (-n) = -n := IntWalk.i64_in _ ⟨by omega, by omega⟩
  have g2 : IntKind.i64.wrap (-q) = -q := IntWalk.i64_in _ ⟨by omega, by omega⟩
  clear hq
  go_enter Try.func136, Try.ntmps136
  go_wp2_with fail
  refine (rfloor_pos _ _ _ hd hd1 (by omega) (by omega)).mono ?_
  rintro e _ ⟨rfl, rfl⟩
  rw [HQ.out]
  go_wp2_with fail
  go_returns
  exact ⟨rfl, rfl⟩

/-- upTo: from lo to hi, where t * slope is at most most. -/
def upS (lo hi slope most : Int) : Int × Int :=
  if 0 < slope then (lo, min hi (most / slope)) else if slope < 0 then (max lo (-(most / -slope)), hi) else if most < 0 then (hi + 1, hi) else (lo, hi)
set_option maxHeartbeats 1000000 in
theorem rupTo_any (lo hi slope most : Int) (w : World) (hs0 : -4611686018427387904 ≤ slope) (hs1 : slope ≤ 4611686018427387904) (hm0 : -4611686020574871552 ≤ most) (hm1 : most ≤ 4611686020574871552) (hh0 : -1152921504606846976 ≤ hi) (hh1 : hi ≤ 1152921504606846976) :
    Calls Try.prog 138 #[.int .i64 lo, .int .i64 hi, .int .i64 slope, .int .i64 most] w fun e w' => e = .returned (sp (upS lo hi slope most).1 (upS lo hi slope most).2) ∧ Below w.heap.size w w' := by
  have hE : upS lo hi slope most = upS lo hi slope most := rfl
  conv at hE => rhs; unfold upS
  have HE := Lib.hid hE
  have g1 : IntKind.i64.wrap (hi + 1) = hi + 1 := IntWalk.i64_in _ ⟨by omega, by omega⟩
  clear hE
  by_cases r1 : 0 < slope
  · have r2 : ¬ slope < 0 := by omega
    have r3 : ¬ slope = 0 := by omega
    go_enter Try.func138, Try.ntmps138
    go_wp2_with fail
    refine (rfloor_pos _ _ _ (by omega) hs1 (by omega) (by omega)).mono ?_
    rintro e _ ⟨rfl, rfl⟩
    go_wp2_with fail
    exact bodyPost_ret (v := sp lo (min hi (most / slope))) (by simp [results, Try.results138, go_sem, *]) rfl ⟨by rw [HE.out, if_pos (by omega)], by go_grown⟩
  · by_cases r2 : slope < 0
    · have r3 : ¬ slope = 0 := by omega
      go_enter Try.func138, Try.ntmps138
      go_wp2_with fail
      refine (rceil_neg _ _ _ (by omega) hs0 (by omega) (by omega)).mono ?_
      rintro e _ ⟨rfl, rfl⟩
      go_wp2_with fail
      exact bodyPost_ret (v := sp (max lo (-(most / -slope))) hi) (by simp [results, Try.results138, go_sem, *]) rfl ⟨by rw [HE.out, if_neg (by omega), if_pos (by omega)], by go_grown⟩
    · obtain rfl : slope = 0 := by omega
      by_cases r3 : most < 0
      · go_enter Try.func138, Try.ntmps138
        go_wp2_with fail
        exact bodyPost_ret (v := sp (hi + 1) hi) (by simp [results, Try.results138, go_sem, *]) rfl ⟨by rw [HE.out, if_neg (by omega), if_neg (by omega), if_pos (by omega)], by go_grown⟩
      · go_enter Try.func138, Try.ntmps138
        go_wp2_with fail
        exact bodyPost_ret (v := sp lo hi) (by simp [results, Try.results138, go_sem, *]) rfl ⟨by rw [HE.out, if_neg (by omega), if_neg (by omega), if_neg (by omega)], by go_grown⟩
end Go.Proofs.Ytflgdckeinappaa