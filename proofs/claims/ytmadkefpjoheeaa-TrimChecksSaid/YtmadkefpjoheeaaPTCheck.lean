/- TrimChecks returns true for every list of loads, of limits and of frames, and leaves them as they were. No condition. -/
import Derived.Test.YtmadkefpjoheeaaOpenT
import Derived.Test.YtmadkefpjoheeaaWTCheck
namespace Go.Proofs.Ytmadkefpjoheeaa
open Go.ChangeShapes Go.WideShapes Go.ChangeAt Go.RowKit Go.Joins

set_option linter.unusedVariables false in
set_option maxRecDepth 100000 in
theorem trimChecks_lifted (os : Os) (started : os.Started) (H : Type) (enc : TypeId × Value → H) :
    ReturnsInHanded {} Try.checked os 3 .any (Rows.trimChecksSpec.pre6 enc Try.prog Try.f3 Rows.trimChecksRow.domain false) (Rows.trimChecksSpec.post enc Try.prog Try.f3 false true false false) := by
  refine returnsInHanded_of_change (C := Try.checked) own started (by kernel_rfl) Try.func3
    (ChangeSpec.witness6 (enc := enc) (C := Try.checked) false ⟨#[], #[.slice none 0 0, .slice none 0 0, .slice none 0 0], []⟩ 8 (by kernel_rfl) (by kernel_rfl) (by kernel_rfl) (by kernel_rfl)) ?_
  intro W base args ds gs before hval0 hW _ _
  have hval : ∀ (j : Nat) t v, Try.f3.params[j]? = some t → args[j]? = some v → Value.okWide Try.prog W .any base t v := hval0
  have hW' := hW
  obtain ⟨p, q, hA0, hV, rfl, _, _⟩ := hW
  have hA : DataW.TrodAll enc Try.prog W 0 (fun _ => true) true Try.f3.params.toList args.toList ds p := hA0
  rw [Try.params3] at hA hval
  obtain ⟨v0, v1, v2, d0, d1, d2, p0, p1, p2, rfl, rfl, rfl, h0, h1, h2⟩ := trodAll_three hA
  obtain ⟨rfl, rfl⟩ := trodVars_none hV
  obtain ⟨a0, l0, c0, rfl, m0, k0⟩ := open_loads (hval 0 22 v0 rfl rfl) h0
  obtain ⟨a1, l1, c1, rfl, m1, k1⟩ := open_limits (hval 1 23 v1 rfl rfl) h1
  obtain ⟨a2, l2, c2, rfl, m2, k2⟩ := open_frames (hval 2 24 v2 rfl rfl) h2
  clear hA0 hval0
  by_cases hg : 50 < l0 ∨ 50 < l1 ∨ 50 < l2
  · refine (trimChecks_great a0 a1 a2 l0 c0 l1 c1 l2 c2 W hg m0 m1 m2).mono fun e W' ⟨he, hg⟩ => ?_
    subst he
    exact ⟨_, rfl, law_post (by kernel_rfl) rfl rfl hW' hg rfl⟩
  · obtain ⟨ls, e0, s0⟩ := k0 (by omega)
    obtain ⟨ms, e1, s1⟩ := k1 (by omega)
    obtain ⟨fs, e2, s2⟩ := k2 (by omega)
    refine (trimChecks_walk _ _ _ ls ms fs W s0 s1 s2 (by omega)).mono fun e W' ⟨he, hg⟩ => ?_
    subst he
    exact ⟨_, rfl, law_post (by kernel_rfl) rfl rfl hW' hg rfl⟩

theorem trimChecks_holds : Rows.TrimChecksSaid :=
  OpenClaim.holds_of_wide 3 Try.f3 rfl rfl rfl rfl rfl rfl rfl ⟨rfl, rfl, rfl, rfl, rfl⟩ rfl rfl rfl rfl rfl (by kernel_rfl) Try.func3 (by kernel_rfl)
    (of_decide_eq_true (by kernel_rfl)) (by unfold Func.isWrapper; rw [if_neg (of_decide_eq_false (by kernel_rfl))]; exact ⟨rfl, rfl⟩)
    (fun os started H enc _ => trimChecks_lifted os started H enc)

end Go.Proofs.Ytmadkefpjoheeaa
