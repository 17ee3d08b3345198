/- AnyT, where more than one operation may come next. -/
import Derived.Test.YtbkabgbkdggnhaaTail4
namespace Go.Proofs.Ytbkabgbkdggnhaa
open Go

section
variable {P : Program} {ops : Array Oper} {Q : Exit → Act → World → Prop} {md : Region.Mode} {S : World → Prop} {t : Nat}
/-- One of rs comes next. -/
theorem AnyT.some {n : Nat} {done : Array Bool} {a : Act} {w : World} (rs : List Nat) (hr : Region.ready md ops done = rs) (hne : rs ≠ [])
    (h : ∀ i, i ∈ rs → wpOp P ops Q i (fun a' w' => (i ≠ t → S w') ∧ AnyT P md ops Q S t n (done.setIfInBounds i true) a' w') a w) : AnyT P md ops Q S t (n + 1) done a w :=
  ⟨fun h0 => absurd h0 (by rw [hr]; exact hne), fun j hj => h j (by rw [← hr]; exact hj)⟩
theorem AnyT.step {i : Nat} {o : Oper} {n : Nat} {done : Array Bool} {a : Act} {w : World} (ho : ops[i]? = Option.some o)
    (h : ∀ K : Act → World → Prop, Shut (∀ a' w', (i ≠ t → S w') → AnyT P md ops Q S t n (done.setIfInBounds i true) a' w' → K a' w') → if Region.wanted o (yielded ops a.tmps) = true then Oper.wp P o a w K Q else K (a.put o.dst undef) w) :
    wpOp P ops Q i (fun a' w' => (i ≠ t → S w') ∧ AnyT P md ops Q S t n (done.setIfInBounds i true) a' w') a w :=
  wpOp_step ho (fun K hK => h K (fun a' w' hS hA => hK a' w' ⟨hS, hA⟩))
end
end Go.Proofs.Ytbkabgbkdggnhaa
