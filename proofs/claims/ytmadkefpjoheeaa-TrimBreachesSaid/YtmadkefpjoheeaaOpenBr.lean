/- A breach by value: opened. -/
import Derived.Test.YtmadkefpjoheeaaOpenT
namespace Go.Proofs.Ytmadkefpjoheeaa
open Go.ChangeShapes Go.WideShapes Go.ChangeAt Go.RowKit Go.Joins

theorem cells_breach : Try.prog.cellsOf 51 = 2 := by kernel_rfl
theorem types_breach : Try.prog.cellTypes Try.prog.depth 51 = some [3, 42] := by kernel_rfl
set_option maxRecDepth 100000 in
theorem open_breach {H : Type} {enc : TypeId × Value → H} {W : World} {base : Nat} {spare : Nat → Bool} {held : Bool} {r : Reach} {b0 : Nat} {v : Value} {d : DataW H} {p : List MemPlace}
    (hv : Value.okWide Try.prog W r b0 51 v) (h : DataW.Trod enc Try.prog W base spare held 51 v d p) :
    ∃ (i : Int) (a : Option Addr) (len cap : Nat), v = .agg #[.int .i64 i, .slice a len cap] ∧ len ≤ maxLen ∧ (len ≤ 50 → ∃ cs : List Pu, cs.length = len ∧ SlPu W (.slice a len cap) cs) := by
  obtain ⟨c0, c1, y0, y1, m, rfl, rfl, rfl, hy0, hy1⟩ := open_agg2 Try.underlying51 (by kernel_rfl) cells_breach hv h
  obtain ⟨i, e0, rfl, _⟩ := DataW.trod_int Try.underlying3 hy0
  simp at e0
  subst e0
  have hv1 : Value.okWide Try.prog W r b0 42 c1 := by
    simp only [Value.okWide, Try.underlying51] at hv
    obtain ⟨cs, e, _, ts, hts, _, hall⟩ := hv
    injection e with e
    subst e
    rw [types_breach] at hts
    cases hts
    obtain ⟨u, hu, hc⟩ := hall 1 c1 rfl
    simp at hu
    subst hu
    unfold Value.okWide
    simpa [Try.underlying42] using hc
  obtain ⟨a, len, cap, rfl⟩ := okWide_slice Try.underlying42 hv1
  obtain ⟨a', len', cap', e, hm, hk⟩ := open_puts hv1 (d := y1.1) (p := y1.2) ⟨m, by simpa [Value.cells] using hy1⟩
  injection e with e1 e2 e3
  subst e1 e2 e3
  exact ⟨i, a, len, cap, rfl, hm, hk⟩
end Go.Proofs.Ytmadkefpjoheeaa
