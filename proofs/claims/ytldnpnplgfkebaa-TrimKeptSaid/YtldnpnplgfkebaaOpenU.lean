/- A slice of small numbers that came in: opened. -/
import Derived.Test.YtldnpnplgfkebaaOpenT
import Derived.Test.YtldnpnplgfkebaaTOut
namespace Go.Proofs.Ytldnpnplgfkebaa
open Go.ChangeShapes Go.WideShapes Go.ChangeAt Go.RowKit Go.Joins

theorem cells_word : Try.prog.cellsOf 96 = 1 := by kernel_rfl
set_option maxRecDepth 100000 in
theorem open_words {H : Type} {enc : TypeId × Value → H} {W : World} {base : Nat} {spare : Nat → Bool} {held : Bool} {r : Reach} {b0 : Nat} {v : Value} {d : DataW H} {p : List MemPlace}
    (hv : Value.okWide Try.prog W r b0 81 v) (h : DataW.Trod enc Try.prog W base spare held 81 v d p) :
    ∃ a len cap, v = .slice a len cap ∧ len ≤ maxLen ∧ ByAt W a len := by
  obtain ⟨a, len, cap, rfl⟩ := okWide_slice Try.underlying81 hv
  obtain ⟨fuel, hf⟩ := h
  have hf' : DataW.trod enc Try.prog W base spare held fuel 81 [.slice a len cap] = some (d, p) := by simpa [Value.cells] using hf
  refine ⟨a, len, cap, rfl, ?_⟩
  rcases Deep.open_slice Try.underlying81 hf' with ⟨hcs, _⟩ | ⟨ad, len', cap', m, n, D, Pl, hcs, hb, hl, hm, hmm, _, hx⟩
  · simp at hcs
    obtain ⟨rfl, rfl, rfl⟩ := hcs
    exact ⟨by unfold maxLen; omega, fun i hi => absurd hi (by omega)⟩
  · simp at hcs
    obtain ⟨rfl, rfl, rfl⟩ := hcs
    refine ⟨by omega, fun i hi => ?_⟩
    have hv2 : len ≤ cap ∧ (cap : Int) ≤ IntKind.i64.max ∧ W.has Try.prog r b0 ad 96 cap := by
      unfold Value.okWide Cell.okWide Cell.ok at hv
      simpa [Try.underlying81] using hv
    obtain ⟨_, _, _, hspot, row, cells, hsh, _⟩ := hv2
    obtain ⟨b, off, spot⟩ := ad
    simp at hspot
    subst hspot
    obtain ⟨cs', h1, h2⟩ := hx i (by rw [hmm]; split <;> omega)
    rw [cells_word] at h1
    obtain ⟨_, hlen, hcell⟩ := World.cells?_some h1
    obtain ⟨x, e0, _, wx⟩ := DataW.trod_int Try.underlying96 h2
    subst e0
    have e1 := hcell 0 (by omega)
    rw [add_off, add_off] at e1
    refine ⟨b, off, x, rfl, by simpa using e1, ?_⟩
    have := wx
    simp [Lit.wf] at this
    have u0 : IntKind.u16.min = 0 := by decide
    have u1 : IntKind.u16.max = 65535 := by decide
    omega
end Go.Proofs.Ytldnpnplgfkebaa
