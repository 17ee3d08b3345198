/- A row of puts that is made and then filled, one after another. -/
import Derived.Test.YtldnpnplgfkebaaTBox
import Derived.Laws.MakeOwn
namespace Go.Proofs.Ytldnpnplgfkebaa
open Go.RowKit

/-- So many zeros. -/
def zeros (m : Nat) : Array Value := madeCells #[.int .i64 0, .int .i64 0] m
theorem zeros_get {m j : Nat} (h : j < m) : (zeros m)[j]? = some (.int .i64 0) := by
  unfold zeros madeCells
  have : j % 2 = 0 ∨ j % 2 = 1 := by omega
  rcases this with e | e <;> simp [h, e]
theorem make_puts (n : Nat) (hn : n ≤ 1000) (W : World) : (Instr.makeSlice 42 (.int .i64 n) (.int .i64 n)).run Try.prog W = .ok (.slice (some ⟨W.heap.size, 0, none⟩) n n) (W.alloc (.cells (zeros (n * 2)) 89)) := by
  have hi2 : (Try.prog.info? 89).map (fun i => (i.zero, i.size, i.bytes)) = some (some (.agg #[.int .i64 0, .int .i64 0]), 2, 16) := by kernel_rfl
  obtain ⟨i, hi, e⟩ := Option.map_eq_some_iff.1 hi2
  simp only [Prod.mk.injEq] at e
  obtain ⟨e1, e2, e3⟩ := e
  have hr := run_make (P := Try.prog) W 42 89 i _ (by kernel_rfl) hi e1 .i64 .i64 n n (by omega) (by omega) (by rw [e3]; omega) (by omega)
  rw [e2] at hr
  simpa [zeros, Value.cells] using hr
/-- A row of n puts, the first k of which are done. -/
structure MadeTo (w : World) (g n k : Nat) (f : Nat → Pu) : Prop where
  put : ∀ i, i < k → PuAt w g (i * 2) (f i)
  old : ∀ j, j < n * 2 → ∃ x, w.cell? ⟨g, j, none⟩ = some x
  fz : ∀ j, w.frozen? ⟨g, j, none⟩ = false
  lt : g < w.heap.size
theorem MadeTo.later {w w1 : World} {g n k : Nat} {f : Nat → Pu} (h : MadeTo w g n k f) (hb : Below w.heap.size w w1) : MadeTo w1 g n k f :=
  ⟨fun i hi => PuAt.later (h.put i hi) hb, fun j hj => (h.old j hj).imp fun _ e => cell_later hb e, fun j => by rw [(bcell hb).2 _ _ h.lt]; exact h.fz j, by have := h.lt; have := hb.size; omega⟩
theorem MadeTo.start (w : World) (n : Nat) (f : Nat → Pu) : MadeTo (w.alloc (.cells (zeros (n * 2)) 89)) w.heap.size n 0 f :=
  ⟨fun i hi => by omega, fun j hj => ⟨_, by rw [World.cell?_alloc_at _ _ _ _ rfl]; exact zeros_get hj⟩, fun j => World.frozen?_alloc_at _ _ _ _ rfl, by simp⟩
theorem MadeTo.store {w : World} {g n k : Nat} {f : Nat → Pu} (h : MadeTo w g n k f) (hk : k < n) : MadeTo ((w.setCell ⟨g, k * 2, none⟩ (.int .i64 (f k).p)).setCell ⟨g, k * 2 + 1, none⟩ (.int .i64 (f k).w)) g n (k + 1) f := by
  obtain ⟨x0, e0⟩ := h.old (k * 2) (by omega)
  obtain ⟨x1, e1⟩ := h.old (k * 2 + 1) (by omega)
  have hne : (⟨g, k * 2, none⟩ : Addr) ≠ ⟨g, k * 2 + 1, none⟩ := by simp
  have hfar : ∀ j, j ≠ k * 2 → j ≠ k * 2 + 1 → ((w.setCell ⟨g, k * 2, none⟩ (.int .i64 (f k).p)).setCell ⟨g, k * 2 + 1, none⟩ (.int .i64 (f k).w)).cell? ⟨g, j, none⟩ = w.cell? ⟨g, j, none⟩ := fun j h1 h2 => by
    rw [World.cell?_setCell_other _ _ _ _ (fun e => by simp at e), World.cell?_setCell_other _ _ _ _ (fun e => by simp at e)]
  have h0 : ((w.setCell ⟨g, k * 2, none⟩ (.int .i64 (f k).p)).setCell ⟨g, k * 2 + 1, none⟩ (.int .i64 (f k).w)).cell? ⟨g, k * 2, none⟩ = some (.int .i64 (f k).p) := by
    rw [World.cell?_setCell_other _ _ _ _ (Ne.symm hne)]; exact World.cell?_setCell_same _ _ _ e0
  have h1 : ((w.setCell ⟨g, k * 2, none⟩ (.int .i64 (f k).p)).setCell ⟨g, k * 2 + 1, none⟩ (.int .i64 (f k).w)).cell? ⟨g, k * 2 + 1, none⟩ = some (.int .i64 (f k).w) :=
    World.cell?_setCell_same _ _ _ (u := x1) (by rw [World.cell?_setCell_other _ _ _ _ hne]; exact e1)
  refine ⟨fun i hi => ?_, fun j hj => ?_, fun j => by simp [h.fz], by simpa using h.lt⟩
  · by_cases e : i = k
    · subst e; exact ⟨h0, h1⟩
    · have k0 := h.put i (by omega)
      exact ⟨by rw [hfar _ (by omega) (by omega)]; exact k0.c0, by rw [hfar _ (by omega) (by omega)]; exact k0.c1⟩
  · by_cases e : j = k * 2
    · subst e; exact ⟨_, h0⟩
    · by_cases e' : j = k * 2 + 1
      · subst e'; exact ⟨_, h1⟩
      · rw [hfar j e e']; exact h.old j hj
theorem MadeTo.done {w : World} {g : Nat} {α : Type} [Inhabited α] {F : α → Pu} {ls : List α} (h : MadeTo w g ls.length ls.length (fun i => F (ls.getD i default))) (hl : ls.length ≤ 1000) : SlPu w (.slice (some ⟨g, 0, none⟩) ls.length ls.length) (ls.map F) := by
  refine .inr ⟨g, 0, ls.length, by rw [List.length_map], by rw [List.length_map]; omega, by rw [List.length_map]; omega, h.lt, fun i c e => ?_⟩
  have hi : i < ls.length := by have := (List.getElem?_eq_some_iff.1 e).1; simpa using this
  have hc : c = F (ls.getD i default) := by
    rw [List.getElem?_map, List.getElem?_eq_getElem hi] at e
    rw [List.getD_eq_getElem?_getD, List.getElem?_eq_getElem hi]
    simpa using e.symm
  subst hc
  rw [Nat.zero_add]
  exact h.put i hi
end Go.Proofs.Ytldnpnplgfkebaa
