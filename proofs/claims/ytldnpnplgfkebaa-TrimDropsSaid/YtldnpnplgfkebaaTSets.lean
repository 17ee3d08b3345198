/- Package trim: the sets of bags in their order. -/
import Derived.Test.YtldnpnplgfkebaaTAdv
namespace Go.Proofs.Ytldnpnplgfkebaa

/-- The first set of n. -/
def firstS (n : Nat) : List Int := (List.range n).map fun (i : Nat) => (i : Int)
/-- A set and all that come behind it, of its size; k bounds how many. -/
def chainS (B : Int) : Nat → List Int → List (List Int)
  | 0, _ => []
  | k + 1, zs => zs :: match nextS B zs with
    | none => []
    | some ys => chainS B k ys
/-- No more than k come. -/
def endsS (B : Int) : Nat → List Int → Bool
  | 0, _ => false
  | k + 1, zs => match nextS B zs with
    | none => true
    | some ys => endsS B k ys
/-- All sets of B bags. -/
def setsN (B : Nat) : List (List Int) := (List.range (B + 1)).flatMap fun n => chainS B 253 (firstS n)
theorem chain_last {B : Int} {zs : List Int} {k : Nat} (hn : nextS B zs = none) : chainS B (k + 1) zs = [zs] := by
  unfold chainS; rw [hn]
theorem chain_next {B : Int} {zs ys : List Int} {k : Nat} (h : endsS B (k + 1) zs = true) (hn : nextS B zs = some ys) : chainS B (k + 1) zs = zs :: chainS B k ys ∧ endsS B k ys = true := by
  unfold endsS at h
  rw [hn] at h
  refine ⟨?_, h⟩
  rw [chainS, hn]
theorem ends_pos {B : Int} {zs : List Int} {k : Nat} (h : endsS B k zs = true) : 0 < k := by
  cases k with
  | zero => simp [endsS] at h
  | succ k => omega
set_option maxRecDepth 100000 in
theorem sets_end : ∀ B, B < 11 → ∀ n, n < B + 1 → (endsS (B : Nat) 253 (firstS n) && (chainS (B : Nat) 253 (firstS n)).all fun zs => zs.length == n && zs.all fun z => decide (0 ≤ z) && decide (z ≤ 9)) = true := by decide +kernel
end Go.Proofs.Ytldnpnplgfkebaa
