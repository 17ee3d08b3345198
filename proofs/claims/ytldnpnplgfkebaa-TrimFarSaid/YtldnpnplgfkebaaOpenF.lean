/- A frame, and a small number, that came in: opened. -/
import Derived.Test.YtldnpnplgfkebaaOpenT
namespace Go.Proofs.Ytldnpnplgfkebaa
open Go.ChangeShapes Go.WideShapes Go.ChangeAt Go.RowKit Go.Joins

set_option maxRecDepth 100000 in
theorem open_frame {H : Type} {enc : TypeId × Value → H} {W : World} {base : Nat} {spare : Nat → Bool} {held : Bool} {r : Reach} {b0 : Nat} {v : Value} {d : DataW H} {p : List MemPlace}
    (hv : Value.okWide Try.prog W r b0 102 v) (h : DataW.Trod enc Try.prog W base spare held 102 v d p) : ∃ l : Fr, v = frV l := by
  obtain ⟨cs, rfl, hsz⟩ := okWide_struct Try.underlying102 hv
  obtain ⟨fuel, hf⟩ := h
  obtain ⟨a, b, c, e⟩ := trod_frame (cs := cs.toList) (by simpa using hsz.trans cells_frame) hf
  obtain ⟨ll⟩ := cs
  simp at e
  exact ⟨⟨a, b, c⟩, by rw [e]⟩
theorem word_in {x : Int} (h : (Lit.int .u16 x).wf = true) : 0 ≤ x ∧ x < 65536 := by
  simp [Lit.wf] at h
  have u0 : IntKind.u16.min = 0 := by decide
  have u1 : IntKind.u16.max = 65535 := by decide
  omega
end Go.Proofs.Ytldnpnplgfkebaa
