/- upTo, over a wider range. -/
import Derived.Test.YtflgdckeinappaaUpMath
namespace Go.Proofs.Ytflgdckeinappaa
open Go.RowKit

set_option maxHeartbeats 1000000 in
theorem rupTo_wide (lo hi slope most : Int) (w : World) (hs0 : -4611686018427387904 ≤ slope) (hs1 : slope ≤ 4611686018427387904) (hm0 : -4611686020574871552 ≤ most) (hm1 : most ≤ 4611686020574871552) (hh0 : -4611686020574871552 ≤ hi) (hh1 : hi ≤ 1152921504606846976) :
    Calls Try.prog 138 #[.int .i64 lo, .int .i64 hi, .int .i64 slope, .int .i64 most] w fun e w' => e = .returned (sp (upS lo hi slope most).1 (upS lo hi slope most).2) ∧ Below w.heap.size w w' := by
  have hE : upS lo hi slope most = upS lo hi slope most := rfl
  conv at hE => rhs; unfold upS
  have HE := Lib.hid hE
  have g1 : IntKind.i64.wrap (hi + 1) = hi + 1 := IntWalk.i64_in _ ⟨by omega, by omega⟩
  clear hE
  by_cases r1 : 0 < slope
  · have r2 : ¬ slope < 0 := by omega
    have r3 : ¬ slope = 0 := by omega
    go_enter Try.func138, Try.ntmps138
    go_wp2_with fail
    refine (rfloor_pos _ _ _ (by omega) hs1 (by omega) (by omega)).mono ?_
    rintro e _ ⟨rfl, rfl⟩
    go_wp2_with fail
    exact bodyPost_ret (v := sp lo (min hi (most / slope))) (by simp [results, Try.results138, go_sem, *]) rfl ⟨by rw [HE.out, if_pos (by omega)], by go_grown⟩
  · by_cases r2 : slope < 0
    · have r3 : ¬ slope = 0 := by omega
      go_enter Try.func138, Try.ntmps138
      go_wp2_with fail
      refine (rceil_neg _ _ _ (by omega) hs0 (by omega) (by omega)).mono ?_
      rintro e _ ⟨rfl, rfl⟩
      go_wp2_with fail
      exact bodyPost_ret (v := sp (max lo (-(most / -slope))) hi) (by simp [results, Try.results138, go_sem, *]) rfl ⟨by rw [HE.out, if_neg (by omega), if_pos (by omega)], by go_grown⟩
    · obtain rfl : slope = 0 := by omega
      by_cases r3 : most < 0
      · go_enter Try.func138, Try.ntmps138
        go_wp2_with fail
        exact bodyPost_ret (v := sp (hi + 1) hi) (by simp [results, Try.results138, go_sem, *]) rfl ⟨by rw [HE.out, if_neg (by omega), if_neg (by omega), if_pos (by omega)], by go_grown⟩
      · go_enter Try.func138, Try.ntmps138
        go_wp2_with fail
        exact bodyPost_ret (v := sp lo hi) (by simp [results, Try.results138, go_sem, *]) rfl ⟨by rw [HE.out, if_neg (by omega), if_neg (by omega), if_neg (by omega)], by go_grown⟩
end Go.Proofs.Ytflgdckeinappaa