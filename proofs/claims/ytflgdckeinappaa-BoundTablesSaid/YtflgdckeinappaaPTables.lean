/- BoundTables returns true for every list of knots and every two spans, and leaves them as they were. No condition. -/
import Derived.Test.YtflgdckeinappaaOpenKnots
import Derived.Test.YtflgdckeinappaaWTables
namespace Go.Proofs.Ytflgdckeinappaa
open Go.ChangeShapes Go.WideShapes Go.ChangeAt Go.RowKit Go.Joins

set_option linter.unusedVariables false in
set_option maxRecDepth 100000 in
theorem boundTables_lifted (os : Os) (started : os.Started) (H : Type) (enc : TypeId × Value → H) :
    ReturnsInHanded {} Try.checked os 5 .any (Rows.boundTablesSpec.pre6 enc Try.prog Try.f5 Rows.boundTablesRow.domain false) (Rows.boundTablesSpec.post enc Try.prog Try.f5 false true false false) := by
  refine returnsInHanded_of_change (C := Try.checked) own started (by kernel_rfl) Try.func5
    (ChangeSpec.witness6 (enc := enc) (C := Try.checked) false ⟨#[], #[.slice none 0 0, .agg #[.int .i64 0, .int .i64 0], .agg #[.int .i64 0, .int .i64 0]], []⟩ 8 (by kernel_rfl) (by kernel_rfl) (by kernel_rfl) (by kernel_rfl)) ?_
  intro W base args ds gs before hval0 hW _ _
  have hval : ∀ (j : Nat) t v, Try.f5.params[j]? = some t → args[j]? = some v → Value.okWide Try.prog W .any base t v := hval0
  have hW' := hW
  obtain ⟨p, q, hA0, hV, rfl, _, _⟩ := hW
  have hA : DataW.TrodAll enc Try.prog W 0 (fun _ => true) true Try.f5.params.toList args.toList ds p := hA0
  rw [Try.params5] at hA hval
  obtain ⟨v0, v1, v2, d0, d1, d2, p0, p1, p2, rfl, rfl, rfl, h0, h1, h2⟩ := trodAll_three hA
  obtain ⟨rfl, rfl⟩ := trodVars_none hV
  obtain ⟨a, len, cap, rfl, hmax, hks⟩ := open_knots (hval 0 41 v0 rfl rfl) h0
  obtain ⟨x1a, x1b, rfl, y1a, y1b⟩ := open_span (hval 1 23 v1 rfl rfl) h1
  obtain ⟨x2a, x2b, rfl, y2a, y2b⟩ := open_span (hval 2 23 v2 rfl rfl) h2
  clear hA0 hval0
  by_cases h40 : len ≤ 40
  · obtain ⟨ks, hl, hs⟩ := hks h40
    refine (boundTables_walk _ ks x1a x1b x2a x2b W hs (by omega)).mono fun e W' ⟨he, hg⟩ => ?_
    subst he
    exact ⟨_, rfl, law_post (by kernel_rfl) rfl rfl hW' hg rfl⟩
  · refine (boundTables_great a len cap x1a x1b x2a x2b W (by omega) hmax).mono fun e W' ⟨he, hg⟩ => ?_
    subst he
    exact ⟨_, rfl, law_post (by kernel_rfl) rfl rfl hW' hg rfl⟩

theorem boundTables_holds : Rows.BoundTablesSaid :=
  OpenClaim.holds_of_wide 5 Try.f5 rfl rfl rfl rfl rfl rfl rfl ⟨rfl, rfl, rfl, rfl, rfl⟩ rfl rfl rfl rfl rfl (by kernel_rfl) Try.func5 (by kernel_rfl)
    (of_decide_eq_true (by kernel_rfl)) (by unfold Func.isWrapper; rw [if_neg (of_decide_eq_false (by kernel_rfl))]; exact ⟨rfl, rfl⟩)
    (fun os started H enc _ => boundTables_lifted os started H enc)

end Go.Proofs.Ytflgdckeinappaa
