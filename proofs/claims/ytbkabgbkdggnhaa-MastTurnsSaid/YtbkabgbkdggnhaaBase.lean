/- Words and small lemmas that all walks use. -/
import Derived.Test.YtbkabgbkdggnhaaRows
import Derived.WalkKit
import Derived.WalkSpells
import Derived.WalkLawsBesides
import Derived.BigQuiet
import Derived.Deep.QuietTactic
import Derived.Lib.Hide
import Derived.Handy
namespace Go.Proofs.Ytbkabgbkdggnhaa
open Go.RowKit

/-- A span as a value. -/
abbrev sp (lo hi : Int) : Value := .agg #[.int .i64 lo, .int .i64 hi]

def validB (lo hi : Int) : Bool := decide (lo ≤ hi ∧ -1099511627776 ≤ lo ∧ hi ≤ 1099511627776)
def checkN (lo hi : Int) : Int := if validB lo hi then 0 else 10

theorem ret_int {k : IntKind} {a b : Int} (h : a = b) : Ending.returned (.int k a) = .returned (.int k b) := by rw [h]
theorem ret_bool {a b : Bool} (h : a = b) : Ending.returned (.bool a) = .returned (.bool b) := by rw [h]
theorem ret_spi {k : IntKind} {a b c a' b' c' : Int} (h1 : a = a') (h2 : b = b') (h3 : c = c') : Ending.returned (.tuple #[sp a b, .int k c]) = .returned (.tuple #[sp a' b', .int k c']) := by rw [h1, h2, h3]

theorem checkN_yes {lo hi : Int} (h : validB lo hi = true) : checkN lo hi = 0 := by unfold checkN; rw [if_pos h]
theorem checkN_no {lo hi : Int} (h : validB lo hi = false) : checkN lo hi = 10 := by unfold checkN; rw [if_neg (by simp [h])]

/-- Old cells and marks read as before. -/
theorem bcell {W w1 : World} (hb : Below W.heap.size W w1) : (∀ b o, b < W.heap.size → w1.cell? ⟨b, o, none⟩ = W.cell? ⟨b, o, none⟩) ∧ (∀ b o, b < W.heap.size → w1.frozen? ⟨b, o, none⟩ = W.frozen? ⟨b, o, none⟩) :=
  ⟨fun b o h => hb.cell (p := ⟨b, o, none⟩) h, fun b o h => hb.frozen (p := ⟨b, o, none⟩) h⟩

/-- Behind a call: what it leaves, of the world W of the call and of the world w of the caller's beginning. -/
theorem after {w W w1 : World} (h : Below w.heap.size w W) (hb : Below W.heap.size W w1) : Below w.heap.size w w1 ∧ (∀ b o, b < W.heap.size → w1.cell? ⟨b, o, none⟩ = W.cell? ⟨b, o, none⟩) ∧ (∀ b o, b < W.heap.size → w1.frozen? ⟨b, o, none⟩ = W.frozen? ⟨b, o, none⟩) :=
  ⟨h.trans (hb.mono h.size), bcell hb⟩
/-- Two calls, nothing between them. -/
theorem two {W w1 w2 : World} (h1 : Below W.heap.size W w1) (h2 : Below w1.heap.size w1 w2) : Below W.heap.size W w2 := h1.trans (h2.mono h1.size)

end Go.Proofs.Ytbkabgbkdggnhaa
