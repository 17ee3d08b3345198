/- MastTurns returns true for every port, wind and numbers, and leaves them as they were. No condition. -/
import Derived.Test.YtbkabgbkdggnhaaOpenPort
import Derived.Test.YtbkabgbkdggnhaaWMTurns
namespace Go.Proofs.Ytbkabgbkdggnhaa
open Go.ChangeShapes Go.WideShapes Go.ChangeAt Go.RowKit Go.Joins

theorem mastTurns_any (a0 a3 : Option Addr) (n0 n3 k0 k3 : Nat) (i1 i2 i4 : Int) (h0 : n0 ≤ maxLen) (h3 : n3 ≤ maxLen) (W' : World)
    (hk0 : n0 ≤ 50 → ∃ cs : List Pr, cs.length = n0 ∧ SlPr W' (.slice a0 n0 k0) cs) (hk3 : n3 ≤ 50 → ∃ cs : List Pr, cs.length = n3 ∧ SlPr W' (.slice a3 n3 k3) cs) (p a b c d m people : Int) (w : World) (hw : w = W') :
    Calls Try.prog 4 #[portV (.slice a0 n0 k0) i1 i2 (.slice a3 n3 k3) i4, .int .i64 p, wd a b c d, .int .i64 m, .int .i64 people] w fun e w' => e = .returned (.bool true) ∧ Below w.heap.size w w' := by
  subst hw
  cases hg : greatP n0 n3
  · have hn : n0 ≤ 40 ∧ n3 ≤ 20 := by unfold greatP at hg; simp at hg; omega
    obtain ⟨l, rfl, hl⟩ := hk0 (by omega)
    obtain ⟨q, rfl, hq⟩ := hk3 (by omega)
    exact mastTurns_walk a0 a3 k0 k3 l q i1 i2 i4 p a b c d m people w hl hq hn.1 hn.2
  · exact mastTurns_great a0 a3 n0 n3 k0 k3 i1 i2 i4 p a b c d m people w h0 h3 hg

set_option linter.unusedVariables false in
set_option maxRecDepth 100000 in
theorem mastTurns_lifted (os : Os) (started : os.Started) (H : Type) (enc : TypeId × Value → H) :
    ReturnsInHanded {} Try.checked os 4 .any (Rows.mastTurnsSpec.pre6 enc Try.prog Try.f4 Rows.mastTurnsRow.domain false) (Rows.mastTurnsSpec.post enc Try.prog Try.f4 false true false false) := by
  refine returnsInHanded_of_change (C := Try.checked) own started (by kernel_rfl) Try.func4
    (ChangeSpec.witness6 (enc := enc) (C := Try.checked) false ⟨#[], #[.agg #[.slice none 0 0, .int .i64 0, .int .i64 0, .slice none 0 0, .int .i64 0], .int .i64 0, .agg #[.int .i64 0, .int .i64 0, .int .i64 0, .int .i64 0], .int .i64 0, .int .i64 0], []⟩ 8 (by kernel_rfl) (by kernel_rfl) (by kernel_rfl) (by kernel_rfl)) ?_
  intro W base args ds gs before hval0 hW _ _
  have hval : ∀ (j : Nat) t v, Try.f4.params[j]? = some t → args[j]? = some v → Value.okWide Try.prog W .any base t v := hval0
  have hW' := hW
  obtain ⟨p, q, hA0, hV, rfl, _, _⟩ := hW
  have hA : DataW.TrodAll enc Try.prog W 0 (fun _ => true) true Try.f4.params.toList args.toList ds p := hA0
  rw [Try.params4] at hA hval
  obtain ⟨v0, vs0, d0, ds0, p0, q0, hargs, rfl, rfl, h0, r0⟩ := trodAll_cons hA
  obtain ⟨v1, vs1, d1, ds1, p1, q1, rfl, rfl, rfl, h1, r1⟩ := trodAll_cons r0
  obtain ⟨v2, vs2, d2, ds2, p2, q2, rfl, rfl, rfl, h2, r2⟩ := trodAll_cons r1
  obtain ⟨v3, vs3, d3, ds3, p3, q3, rfl, rfl, rfl, h3, r3⟩ := trodAll_cons r2
  obtain ⟨v4, vs4, d4, ds4, p4, q4, rfl, rfl, rfl, h4, r4⟩ := trodAll_cons r3
  obtain ⟨rfl, rfl, rfl⟩ := trodAll_nil r4
  obtain rfl : args = #[v0, v1, v2, v3, v4] := by cases args; simp_all
  obtain ⟨rfl, rfl⟩ := trodVars_none hV
  obtain ⟨pa0, pb0, na0, nb0, ka0, kb0, j10, j20, j40, rfl, hm0, hn0, ho0, hp0⟩ := open_port (hval 0 45 v0 rfl rfl) h0
  obtain ⟨x1, rfl, rfl, rfl, y1⟩ := open_int Try.underlying3 (hval 1 3 v1 rfl rfl) h1
  obtain ⟨x2a, x2b, x2c, x2d, rfl⟩ := open_wind (hval 2 25 v2 rfl rfl) h2
  obtain ⟨x3, rfl, rfl, rfl, y3⟩ := open_int Try.underlying3 (hval 3 3 v3 rfl rfl) h3
  obtain ⟨x4, rfl, rfl, rfl, y4⟩ := open_int Try.underlying3 (hval 4 3 v4 rfl rfl) h4
  clear hA0 hval0
  refine (mastTurns_any pa0 pb0 na0 nb0 ka0 kb0 j10 j20 j40 hm0 hn0 W ho0 hp0 x1 x2a x2b x2c x2d x3 x4 W rfl).mono fun e W' ⟨he, hg⟩ => ?_
  subst he
  exact ⟨_, rfl, law_post (by kernel_rfl) rfl rfl hW' hg rfl⟩

theorem mastTurns_holds : Rows.MastTurnsSaid :=
  OpenClaim.holds_of_wide 4 Try.f4 rfl rfl rfl rfl rfl rfl rfl ⟨rfl, rfl, rfl, rfl, rfl⟩ rfl rfl rfl rfl rfl (by kernel_rfl) Try.func4 (by kernel_rfl)
    (of_decide_eq_true (by kernel_rfl)) (by unfold Func.isWrapper; rw [if_neg (of_decide_eq_false (by kernel_rfl))]; exact ⟨rfl, rfl⟩)
    (fun os started H enc _ => mastTurns_lifted os started H enc)

end Go.Proofs.Ytbkabgbkdggnhaa
