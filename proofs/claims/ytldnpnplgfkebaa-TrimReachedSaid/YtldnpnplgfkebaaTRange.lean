/- A range over a function whose iterator hands out memory of its own: the iterator's contract, and the caller's law. -/
import Derived.RangeFuncKeeps
import Derived.Test.YtldnpnplgfkebaaTSub
namespace Go.Proofs.Ytldnpnplgfkebaa
open Go Go.RowKit

/-- The loop's record, and the block for the rounds' deferred calls ahead of it. -/
structure Rec (W : World) (D : Nat) (r : Loop) : Prop where
  l : W.heap[D + 1]? = some (.loop r)
  d : W.heap[D]? = some (.deferred (some []))
theorem Rec.below {A B : World} {D m : Nat} {r : Loop} (h : Rec A D r) (hb : Below m A B) (hm : D + 1 < m) : Rec B D r := ⟨(hb.block _ hm).trans h.l, (hb.block _ (by omega)).trans h.d⟩
theorem Rec.turn {A : World} {D : Nat} {r : Loop} (h : Rec A D r) (r' : Loop) : Rec (A.putObj (D + 1) (.loop r')) D r' :=
  ⟨World.putObj_heap_same (Array.getElem?_eq_some_iff.1 h.l).1, (World.putObj_heap_other (by omega)).trans h.d⟩
/-- The iterator calls yield with what the list says, each time having laid in memory what H says; what is its own lies at or beyond the heap's size at its start; it ends when all have come (S), or when a round says 'no more' (Sp). -/
def Hands {α : Type} (P : Program) (g : Nat) (lb : Array Value) (encs : α → Array Value) (H : α → World → Prop) (S Sp : List α → Prop) (Pre : World → Prop) : Prop :=
  ∀ (l : Nat) (J Jx : List α → World → Prop) (W : World), Pre W → (∀ s A B, J s A → Below W.heap.size A B → J s B) →
    (∀ pre x W1, J pre W1 → H x W1 → W.heap.size ≤ W1.heap.size → YieldAt Fence.wide 0 P l (encs x) W1 fun e W' =>
      (e = .returned (.bool true) ∧ J (pre ++ [x]) W' ∧ Below W1.heap.size W1 W') ∨ (e = .returned (.bool false) ∧ Jx (pre ++ [x]) W')) →
    J [] W →
    CallsIn Fence.wide 0 P g (#[.func (.yield l) #[] #[]] ++ lb) W fun e W' => (∃ v, e = .returned v) ∧ ((∃ xs, S xs ∧ J xs W') ∨ (∃ pre, Sp pre ∧ Jx pre W'))
/-- How a round's body may be left. -/
def handPost {α : Type} (I : List α → World → Prop) (Ix : Code → List α → World → Prop) (s : List α) (W : World) : Exit → Act → World → Prop
  | .normal, _, W' => Below W.heap.size W W' ∧ I s W'
  | .ret, _, W' => KeepsOthers W W' ∧ Ix .ret s W'
  | .exit id, _, W' => KeepsOthers W W' ∧ Ix (.exit id) s W'
  | .goto t, _, W' => KeepsOthers W W' ∧ Ix (.goto t) s W'
  | .panic _, _, _ => False
  | .outgrown, _, _ => False
theorem range_hands {α : Type} {P : Program} {g : Operand} {ps : Array Tmp} {assign body : Code} {Q : Exit → Act → World → Prop} {a : Act} {w : World}
    {gf : Nat} {lb : Array Value} (hg : a.eval g = .func (.func gf) #[] lb) (eg : ∀ args w, (callFunc gf args).run P w = .ok (.enter gf args) w)
    {encs : α → Array Value} {H : α → World → Prop} {S Sp : List α → Prop} {Pre : World → Prop} (hseq : Hands P gf lb encs H S Sp Pre) (hps : ∀ x, (encs x).size = ps.size)
    (hH : ∀ x A l o o', H x A → A.heap[l]? = some o → o.isCells = false → H x (A.putObj l o')) (hpre : ∀ o o', Pre ((w.alloc o).alloc o'))
    (I : List α → World → Prop) (Ix : Code → List α → World → Prop) (hI : ∀ s A B, I s A → Below w.heap.size A B → I s B) (hIx : ∀ c s A l o o', Ix c s A → A.heap[l]? = some o → o.isCells = false → w.heap.size ≤ l → Ix c s (A.putObj l o')) (h0 : I [] w) (a₁ : α → Act)
    (hassign : ∀ (l : Nat) (x : α) (W : World) (K : Act → World → Prop), K (a₁ x) W →
      assign.wpIn (Fence.wide.inRound l) 0 P (Exit.then K (fun _ _ _ => False)) { tmps := (ps.zip (encs x)).foldl (fun t (p, v) => t.setIfInBounds p v) a.tmps, defers := [] } W)
    (hbody : ∀ (l : Nat) (pre : List α) (x : α) (W : World), I pre W → H x W → w.heap.size ≤ W.heap.size → body.wpIn (Fence.wide.inRound l) 0 P (handPost I Ix (pre ++ [x]) W) (a₁ x) W)
    (hdone : ∀ (D : Nat) (xs : List α) (W : World), S xs → I xs W → W.heap[D]? = some (.deferred (some [])) → w.heap.size ≤ D → Q .normal { a with defers := { target := .collected D, args := #[] } :: a.defers } W)
    (hstop : ∀ (D : Nat) (c : Code) (pre : List α) (W : World), Sp pre → Ix c pre W → W.heap[D]? = some (.deferred (some [])) → w.heap.size ≤ D → c.wpIn Fence.wide 0 P Q { a with defers := { target := .collected D, args := #[] } :: a.defers } W) :
    (Code.rangeFunc g ps assign body).wpIn Fence.wide 0 P Q a w := by
  refine wpIn_rangeFunc (fun fn hfn => ?_)
  obtain ⟨r0, hr0⟩ : ∃ r : Loop, r = { state := .ready, pending := none, fn, tmps := a.tmps, params := ps, assign, body, defers := w.heap.size } := ⟨_, rfl⟩
  have hready : ({ r0 with state := .ready, pending := none } : Loop) = r0 := by rw [hr0]
  obtain ⟨W1, hW1⟩ : ∃ W1, (w.alloc (.deferred (some []))).alloc (.loop r0) = W1 := ⟨_, rfl⟩
  have hb1 : Below w.heap.size w W1 := by rw [← hW1]; exact ((Below.refl _ w).alloc (Nat.le_refl _) _).alloc (by simp) _
  have hz1 : W1.heap.size = w.heap.size + 2 := by rw [← hW1]; simp
  have hR1 : Rec W1 w.heap.size r0 := ⟨by rw [← hW1]; have := World.alloc_heap_new (w.alloc (.deferred (some []))) (.loop r0); rwa [World.size_alloc] at this, by rw [← hW1]; exact (Below.heap_alloc _ _ _ (by simp)).trans (World.alloc_heap_new w _)⟩
  refine ⟨w.heap.size + 1, [{ target := .collected w.heap.size, args := #[] }], W1, { target := .fn (.func gf) lb, args := #[.func (.yield (w.heap.size + 1)) #[] #[]] }, W1, gf, #[.func (.yield (w.heap.size + 1)) #[] #[]] ++ lb, W1,
    by rw [← hW1, hr0]; exact run_enterLoop_outer _ _ _ _ _, by simp only [resolve, hg]; simp [go_sem], fun _ _ => trivial, by simp [invoke, go_sem, eg], fun h => (by cases h), ?_⟩
  refine (hseq (w.heap.size + 1) (fun s W => I s W ∧ Rec W w.heap.size r0) (fun s W => ∃ c, Ix c s W ∧ Rec W w.heap.size { r0 with state := .done, pending := some c }) W1 (by rw [← hW1]; exact hpre _ _) ?_ ?_ ⟨hI _ _ _ h0 hb1, hR1⟩).mono ?_
  · rintro s A B ⟨h1, h2⟩ hb
    exact ⟨hI _ _ _ h1 (hb.mono (by omega)), h2.below hb (by omega)⟩
  · rintro pre x W ⟨hi, hr⟩ hh hle
    have hlt : w.heap.size + 1 < W.heap.size := (Array.getElem?_eq_some_iff.1 hr.l).1
    have hy := run_yield (P := P) (args := encs x) hr.l (by rw [hr0]; exact hps x)
    rw [hr0] at hy
    obtain ⟨Wb, hWb⟩ : ∃ Wb, W.putObj (w.heap.size + 1) (.loop { r0 with state := .busy }) = Wb := ⟨_, rfl⟩
    have hrb : Rec Wb w.heap.size { r0 with state := .busy } := by rw [← hWb]; exact hr.turn _
    have hzb : Wb.heap.size = W.heap.size := by rw [← hWb]; simp
    have hib : I pre Wb := hI _ _ _ hi (by rw [← hWb]; exact belowK_b (w := w) (Nat.le_refl _) _ _ _ _ (by omega) hr.l rfl rfl)
    have hhb : H x Wb := by rw [← hWb]; exact hH _ _ _ _ _ hh hr.l rfl
    refine ⟨fn, _, assign, body, hy, roundIn_of_wpIn hfn (hassign _ x W _ ⟨Wb, by rw [← hWb]; exact run_beginRound hr.l (by rw [hr0]), wpIn_mono (hbody _ pre x Wb hib hhb (by omega)) ?_⟩)⟩
    rintro e a3 W3 hp
    cases e with
    | normal =>
      obtain ⟨hb3, hi3⟩ := hp
      have hr3 := hrb.below hb3 (by omega)
      have hend := run_endRound (P := P) none hr3.l
      have h9 : Rec (W3.putObj (w.heap.size + 1) (.loop { r0 with state := .ready, pending := none })) w.heap.size r0 := by have := hr3.turn r0; rw [hready]; exact this
      refine ⟨_, _, hend, .inl ⟨rfl, ⟨hI _ _ _ hi3 (belowK_b (w := w) (Nat.le_refl _) _ _ _ _ (by omega) hr3.l rfl rfl), h9⟩, ?_⟩⟩
      refine ⟨by subst hWb; exact hb3.os, by subst hWb; exact hb3.tape, by subst hWb; exact hb3.output, by have := hb3.size; simp; omega, fun k hk => ?_⟩
      by_cases e : k = w.heap.size + 1
      · subst e
        exact h9.l.trans hr.l.symm
      · rw [World.putObj_heap_other e, hb3.block k (by omega), ← hWb, World.putObj_heap_other e]
    | ret =>
      obtain ⟨hk3, hi3⟩ := hp
      have hr3 : Rec W3 w.heap.size { r0 with state := .busy } := ⟨hk3.same _ _ hrb.l rfl, hk3.same _ _ hrb.d rfl⟩
      exact ⟨_, _, run_endRound (some .ret) hr3.l, .inr ⟨rfl, .ret, hIx _ _ _ _ _ _ hi3 hr3.l rfl (by omega), hr3.turn _⟩⟩
    | exit id =>
      obtain ⟨hk3, hi3⟩ := hp
      have hr3 : Rec W3 w.heap.size { r0 with state := .busy } := ⟨hk3.same _ _ hrb.l rfl, hk3.same _ _ hrb.d rfl⟩
      exact ⟨_, _, run_endRound (some (.exit id)) hr3.l, .inr ⟨rfl, (.exit id), hIx _ _ _ _ _ _ hi3 hr3.l rfl (by omega), hr3.turn _⟩⟩
    | goto t =>
      obtain ⟨hk3, hi3⟩ := hp
      have hr3 : Rec W3 w.heap.size { r0 with state := .busy } := ⟨hk3.same _ _ hrb.l rfl, hk3.same _ _ hrb.d rfl⟩
      exact ⟨_, _, run_endRound (some (.goto t)) hr3.l, .inr ⟨rfl, (.goto t), hIx _ _ _ _ _ _ hi3 hr3.l rfl (by omega), hr3.turn _⟩⟩
    | panic ch => exact hp.elim
    | outgrown => exact hp.elim
  · rintro e W2 ⟨⟨v, rfl⟩, (⟨xs, hS, hi, hr⟩ | ⟨pre, hSp, c, hi, hr⟩)⟩
    · have hend := run_endLoop (P := P) hr.l (by rw [hr0]; simp)
      exact ⟨none, _, by rw [show r0.pending = none by rw [hr0]] at hend; exact hend, hdone _ xs _ hS (hI _ _ _ hi (belowK_b (w := w) (Nat.le_refl _) _ _ _ _ (by omega) hr.l rfl rfl)) ((World.putObj_heap_other (by omega)).trans hr.d) (Nat.le_refl _)⟩
    · have hend := run_endLoop (P := P) hr.l (by simp)
      exact ⟨some c, _, hend, hstop _ c pre _ hSp (hIx _ _ _ _ _ _ hi hr.l rfl (by omega)) ((World.putObj_heap_other (by omega)).trans hr.d) (Nat.le_refl _)⟩
end Go.Proofs.Ytldnpnplgfkebaa
