/- TrimStrains returns true for every list of loads, every list of frames and every place, and leaves the loads as they were. No condition. -/
import Derived.Test.YtmadkefpjoheeaaOpenT
import Derived.Test.YtmadkefpjoheeaaWTStr
namespace Go.Proofs.Ytmadkefpjoheeaa
open Go.ChangeShapes Go.WideShapes Go.ChangeAt Go.RowKit Go.Joins

set_option linter.unusedVariables false in
set_option maxRecDepth 100000 in
theorem trimStrains_lifted (os : Os) (started : os.Started) (H : Type) (enc : TypeId × Value → H) :
    ReturnsInHanded {} Try.checked os 6 .any (Rows.trimStrainsSpec.pre6 enc Try.prog Try.f6 Rows.trimStrainsRow.domain false) (Rows.trimStrainsSpec.post enc Try.prog Try.f6 false true false false) := by
  refine returnsInHanded_of_change (C := Try.checked) own started (by kernel_rfl) Try.func6
    (ChangeSpec.witness6 (enc := enc) (C := Try.checked) false ⟨#[], #[.slice none 0 0, .slice none 0 0, .int .i64 0], []⟩ 8 (by kernel_rfl) (by kernel_rfl) (by kernel_rfl) (by kernel_rfl)) ?_
  intro W base args ds gs before hval0 hW _ _
  have hval : ∀ (j : Nat) t v, Try.f6.params[j]? = some t → args[j]? = some v → Value.okWide Try.prog W .any base t v := hval0
  have hW' := hW
  obtain ⟨p, q, hA0, hV, rfl, _, _⟩ := hW
  have hA : DataW.TrodAll enc Try.prog W 0 (fun _ => true) true Try.f6.params.toList args.toList ds p := hA0
  rw [Try.params6] at hA hval
  obtain ⟨v0, v1, v2, d0, d1, d2, p0, p1, p2, rfl, rfl, rfl, h0, h1, h2⟩ := trodAll_three hA
  obtain ⟨rfl, rfl⟩ := trodVars_none hV
  obtain ⟨a0, l0, c0, rfl, m0, k0⟩ := open_loads (hval 0 22 v0 rfl rfl) h0
  obtain ⟨a1, l1, c1, rfl, m1, k1⟩ := open_frames (hval 1 24 v1 rfl rfl) h1
  obtain ⟨x2, rfl, rfl, rfl, y2⟩ := open_int Try.underlying3 (hval 2 3 v2 rfl rfl) h2
  clear hA0 hval0
  by_cases hg : 50 < l0 ∨ 50 < l1
  · refine (trimStrains_great a0 l0 c0 a1 l1 c1 x2 W hg ).mono fun e W' ⟨he, hg⟩ => ?_
    subst he
    exact ⟨_, rfl, law_post (by kernel_rfl) rfl rfl hW' hg rfl⟩
  · skip
    obtain ⟨s0, e0, z0⟩ := k0 (by omega)
    obtain ⟨s1, e1, z1⟩ := k1 (by omega)
    refine (trimStrains_walk _ _ s0 s1 x2 W z0 z1 (by omega)).mono fun e W' ⟨he, hg⟩ => ?_
    subst he
    exact ⟨_, rfl, law_post (by kernel_rfl) rfl rfl hW' hg rfl⟩

theorem trimStrains_holds : Rows.TrimStrainsSaid :=
  OpenClaim.holds_of_wide 6 Try.f6 rfl rfl rfl rfl rfl rfl rfl ⟨rfl, rfl, rfl, rfl, rfl⟩ rfl rfl rfl rfl rfl (by kernel_rfl) Try.func6 (by kernel_rfl)
    (of_decide_eq_true (by kernel_rfl)) (by unfold Func.isWrapper; rw [if_neg (of_decide_eq_false (by kernel_rfl))]; exact ⟨rfl, rfl⟩)
    (fun os started H enc _ => trimStrains_lifted os started H enc)

end Go.Proofs.Ytmadkefpjoheeaa
