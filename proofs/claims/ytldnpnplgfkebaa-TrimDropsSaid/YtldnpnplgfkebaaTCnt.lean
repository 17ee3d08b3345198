/- Package trim: count, advance: a row of whole numbers that is written over. -/
import Derived.Test.YtldnpnplgfkebaaTSlk
namespace Go.Proofs.Ytldnpnplgfkebaa
open Go.RowKit

/-- Cells of block g that can be written: n of them from o on. -/
structure Room (w : World) (g o n : Nat) : Prop where
  old : ∀ j, j < n → ∃ x, w.cell? ⟨g, o + j, none⟩ = some x
  fz : ∀ j, w.frozen? ⟨g, j, none⟩ = false
  lt : g < w.heap.size
/-- From w to w1 the first k of block g's cells from o on have been set as f says; nothing else of block g, and nothing below it. -/
structure SetTo (w w1 : World) (g o k : Nat) (f : Nat → Int) : Prop where
  put : ∀ i, i < k → w1.cell? ⟨g, o + i, none⟩ = some (.int .i64 (f i))
  rest : ∀ j, (j < o ∨ o + k ≤ j) → w1.cell? ⟨g, j, none⟩ = w.cell? ⟨g, j, none⟩
  fz : ∀ j, w1.frozen? ⟨g, j, none⟩ = w.frozen? ⟨g, j, none⟩
  below : Below g w w1
  le : w.heap.size ≤ w1.heap.size
theorem SetTo.start (w : World) (g o : Nat) (f : Nat → Int) : SetTo w w g o 0 f := ⟨fun i hi => by omega, fun j _ => rfl, fun j => rfl, Below.refl _ _, Nat.le_refl _⟩
theorem SetTo.later {w w1 w2 : World} {g o k : Nat} {f : Nat → Int} (h : SetTo w w1 g o k f) (hg : g < w.heap.size) (hb : Below w1.heap.size w1 w2) : SetTo w w2 g o k f := by
  have hle := h.le
  have hsz := hb.size
  exact ⟨fun i hi => cell_later hb (h.put i hi), fun j hj => by rw [hb.cell (p := ⟨g, j, none⟩) (show g < w1.heap.size by omega)]; exact h.rest j hj, fun j => by rw [(bcell hb).2 _ _ (show g < w1.heap.size by omega)]; exact h.fz j,
    h.below.trans (hb.mono (by omega)), by omega⟩
theorem SetTo.store {w w1 : World} {g o k n : Nat} {f : Nat → Int} (z : Int) (h : SetTo w w1 g o k f) (hr : Room w g o n) (hk : k < n) (hz : f k = z) : SetTo w (w1.setCell ⟨g, o + k, none⟩ (.int .i64 z)) g o (k + 1) f := by
  obtain ⟨x, hx⟩ := hr.old k hk
  have hx1 : w1.cell? ⟨g, o + k, none⟩ = some x := by rw [h.rest _ (by omega)]; exact hx
  refine ⟨fun i hi => ?_, fun j hj => ?_, fun j => by rw [World.frozen?_setCell]; exact h.fz j, h.below.setCell (Nat.le_refl _) _, by simpa using h.le⟩
  · by_cases e : i = k
    · subst e; rw [hz]; exact World.cell?_setCell_same _ _ _ hx1
    · rw [World.cell?_setCell_other _ _ _ _ (ne_off (by omega))]; exact h.put i (by omega)
  · rw [World.cell?_setCell_other _ _ _ _ (ne_off (by omega))]; exact h.rest j (by omega)
def CnHead (g o n : Nat) (x : Int) (w wr : World) (v : Value) : Prop := ∃ k : Nat, k ≤ n ∧ v = .int .i64 k ∧ SetTo w wr g o k (fun i => x + i)
set_option maxHeartbeats 4000000 in
theorem count_any (g o n c : Nat) (x : Int) (w : World) (hr : Room w g o n) (hn : n ≤ 1000) (h0 : -1000000 ≤ x) (h1 : x ≤ 1000000) :
    Calls Try.prog 118 #[.slice (some ⟨g, o, none⟩) n c, .int .i64 x] w fun e w' => e = .returned (.tuple #[]) ∧ SetTo w w' g o n (fun i => x + i) := by
  have HR := Lib.hid hr
  clear hr
  go_enter Try.func118, Try.ntmps118
  go_wp2_with fail
  go_loopw [7] (fun v7 wr => CnHead g o n x w wr v7) (fun v7 _ => n - (intOf v7).toNat)
  case atStart => exact ⟨0, by omega, rfl, SetTo.start _ _ _ _⟩
  case round =>
    obtain ⟨k, hk, rfl, hs⟩ := hrel
    have HS := Lib.hid hs
    clear hs
    by_cases hlt : k < n
    rotate_left 1
    · obtain rfl : k = n := by omega
      go_wp2_with fail
      go_returns
      exact ⟨rfl, HS.out⟩
    have hlt' : (k : Int) < (n : Int) := by omega
    have hk0 : (0 : Int) ≤ (k : Int) := by omega
    obtain ⟨u, hu⟩ := HR.out.old k hlt
    have hu1 : wr.cell? ⟨g, o + k, none⟩ = some u := by rw [HS.out.rest _ (by omega)]; exact hu
    have hf1 : wr.frozen? ⟨g, o + k, none⟩ = false := by rw [HS.out.fz]; exact HR.out.fz _
    have hg := HR.out.lt
    have hle := HS.out.le
    clear hu
    go_wp2_with fail
    go_roundw
    case rel => exact ⟨k + 1, by omega, by go_num, HS.out.store (x + (k : Int)) HR.out hlt rfl⟩
    case measure => simp [intOf]; omega
end Go.Proofs.Ytldnpnplgfkebaa
