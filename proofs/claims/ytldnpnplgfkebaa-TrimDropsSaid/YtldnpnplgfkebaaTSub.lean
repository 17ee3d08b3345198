/- Package trim: subsets (the iterator's maker); a copy of a row of whole numbers. -/
import Derived.Test.YtldnpnplgfkebaaTAdv
namespace Go.Proofs.Ytldnpnplgfkebaa
open Go.RowKit

set_option maxHeartbeats 1000000 in
theorem subsets_any (n : Int) (w : World) : Calls Try.prog 84 #[.int .i64 n] w fun e w' =>
    e = .returned (.func (.func 117) #[] #[.pointer (some ⟨w.heap.size, 0, none⟩)]) ∧ w'.cell? ⟨w.heap.size, 0, none⟩ = some (.int .i64 n) ∧ Below w.heap.size w w' := by
  have hmf := makeFunc_run
  go_enter Try.func84, Try.ntmps84
  go_wp2_with fail
  go_returns
  exact ⟨rfl, by go_cell, by go_grown⟩
/-- A row of numbers that stands is copied into one of the call's own. -/
theorem cloneI_any (g o c : Nat) (zs : List Int) (w : World) (hz : RowI w g o zs) (hn : zs.length ≤ 1000) :
    Calls Try.prog 87 #[.slice (some ⟨g, o, none⟩) zs.length c] w fun e w' => ∃ v, e = .returned v ∧ SlI w' v zs ∧ v ≠ .slice none 0 0 ∧ Below w.heap.size w w' := by
  refine (Try.slices_Clone_int g o zs.length c zs w (Nat.le_refl _) (by omega) (fun j hj => ?_)).mono fun e w' ⟨v, h1, h2, h3, h4⟩ => ⟨v, h1, SlI.of (B := w.heap.size) (e := 3) ?_ (by omega), h3, h4⟩
  · have := hz j zs[j] (List.getElem?_eq_getElem hj)
    rw [this, List.getD_eq_getElem?_getD, List.getElem?_eq_getElem hj]
    rfl
  · rw [List.take_length] at h2
    exact h2
end Go.Proofs.Ytldnpnplgfkebaa
