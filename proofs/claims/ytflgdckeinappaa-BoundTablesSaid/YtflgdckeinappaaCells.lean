/- What some cells hold, carried over calls; the shapes of what is returned. -/
import Derived.Test.YtflgdckeinappaaMeets
namespace Go.Proofs.Ytflgdckeinappaa
open Go.RowKit

/-- What some cells hold. -/
def Cells (w : World) (L : List (Nat × Nat × Value)) : Prop := ∀ x, x ∈ L → w.cell? ⟨x.1, x.2.1, none⟩ = some x.2.2
theorem Cells.nil (w : World) : Cells w [] := fun x h => by simp at h
theorem Cells.cons {w : World} {L : List (Nat × Nat × Value)} {b o : Nat} {v : Value} (h : w.cell? ⟨b, o, none⟩ = some v) (k : Cells w L) : Cells w ((b, o, v) :: L) := fun x hx => by
  rcases List.mem_cons.1 hx with rfl | hx
  · exact h
  · exact k x hx
theorem Cells.later {W w1 : World} {L : List (Nat × Nat × Value)} (h : Cells W L) (hb : Below W.heap.size W w1) : Cells w1 L := fun x hx => cell_later hb (h x hx)
theorem below_box (w : World) (o : Obj) : Below w.heap.size w (w.alloc o) := (Below.refl _ _).alloc (Nat.le_refl _) _
theorem Cells.box {w : World} {L : List (Nat × Nat × Value)} {x y : Value} {t : TypeId} (h : Cells w L) : Cells (w.alloc (.cells #[x, y] t)) ((w.heap.size, 0, x) :: (w.heap.size, 1, y) :: L) :=
  Cells.cons (by go_cell) (Cells.cons (by go_cell) (h.later (below_box _ _)))
theorem Cells.first {w : World} {L : List (Nat × Nat × Value)} {b o : Nat} {v : Value} (h : Cells w ((b, o, v) :: L)) : w.cell? ⟨b, o, none⟩ = some v := h (b, o, v) (List.mem_cons_self ..)
theorem Cells.rest {w : World} {L : List (Nat × Nat × Value)} {x : Nat × Nat × Value} (h : Cells w (x :: L)) : Cells w L := fun y hy => h y (List.mem_cons_of_mem _ hy)

theorem shape_fit (l h : Int) : ∃ x y n : Int, fitE l h = .returned (.tuple #[sp x y, .int .i64 n]) := by
  unfold fitE; split
  · exact ⟨_, _, _, rfl⟩
  · exact ⟨_, _, _, rfl⟩
theorem shape_if2 {a b c d : Int} {E : Ending} (h : ∃ x y n : Int, E = .returned (.tuple #[sp x y, .int .i64 n])) : ∃ x y n : Int, if2 a b c d E = .returned (.tuple #[sp x y, .int .i64 n]) := by
  unfold if2; split
  · exact h
  · exact ⟨_, _, _, rfl⟩
theorem shape_meet (a b c d : Int) : ∃ x y n : Int, meetE a b c d = .returned (.tuple #[sp x y, .int .i64 n]) := by
  unfold meetE; split
  · exact ⟨_, _, _, rfl⟩
  · exact ⟨_, _, _, rfl⟩
theorem shape_if2b (a b c d : Int) (u : Bool) : ∃ (v : Bool) (n : Int), if2b a b c d u = .returned (.tuple #[.bool v, .int .i64 n]) := by
  unfold if2b; split
  · exact ⟨_, _, rfl⟩
  · exact ⟨_, _, rfl⟩

end Go.Proofs.Ytflgdckeinappaa
