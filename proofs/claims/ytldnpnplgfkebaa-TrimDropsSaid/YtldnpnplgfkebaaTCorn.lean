/- The corners' cells. -/
import Derived.Test.YtldnpnplgfkebaaTRVal
namespace Go.Proofs.Ytldnpnplgfkebaa
open Go.RowKit

/-- The corners' cells. -/
structure Corns (w : World) (g : Nat) (l : Ld) : Prop where
  k0 : PuAt w g 0 ⟨l.a0, l.w0⟩
  k1 : PuAt w g 2 ⟨l.a1, l.w0⟩
  k2 : PuAt w g 4 ⟨l.a0, l.w1⟩
  k3 : PuAt w g 6 ⟨l.a1, l.w1⟩
theorem corns {w : World} {g : Nat} {l : Ld} (h : SlPu w (.slice (some ⟨g, 0, none⟩) 4 4) (cornersP l)) : Corns w g l := by
  obtain ⟨b, off, cap, hv, _, _, _, hc⟩ := h.full (by simp [cornersP])
  injection hv with h1 h2 h3
  injection h1 with h1
  injection h1 with h1 h4
  subst h1 h4
  exact ⟨hc 0 _ rfl, hc 1 _ rfl, hc 2 _ rfl, hc 3 _ rfl⟩
theorem Corns.later {w w1 : World} {g : Nat} {l : Ld} (h : Corns w g l) (hb : Below w.heap.size w w1) : Corns w1 g l := ⟨PuAt.later h.k0 hb, PuAt.later h.k1 hb, PuAt.later h.k2 hb, PuAt.later h.k3 hb⟩
theorem Corns.store {w : World} {g B : Nat} {l : Ld} (h : Corns w g l) (hne : g ≠ B) (u v : Value) : Corns ((w.setCell ⟨B, 0, none⟩ u).setCell ⟨B, 1, none⟩ v) g l := by
  obtain ⟨⟨a0, a1⟩, ⟨b0, b1⟩, ⟨c0, c1⟩, d0, d1⟩ := h
  exact ⟨⟨by rw [cell_far _ _ hne, cell_far _ _ hne]; exact a0, by rw [cell_far _ _ hne, cell_far _ _ hne]; exact a1⟩, ⟨by rw [cell_far _ _ hne, cell_far _ _ hne]; exact b0, by rw [cell_far _ _ hne, cell_far _ _ hne]; exact b1⟩,
    ⟨by rw [cell_far _ _ hne, cell_far _ _ hne]; exact c0, by rw [cell_far _ _ hne, cell_far _ _ hne]; exact c1⟩, ⟨by rw [cell_far _ _ hne, cell_far _ _ hne]; exact d0, by rw [cell_far _ _ hne, cell_far _ _ hne]; exact d1⟩⟩
end Go.Proofs.Ytldnpnplgfkebaa
