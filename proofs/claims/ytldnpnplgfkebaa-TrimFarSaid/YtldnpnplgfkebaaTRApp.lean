/- Loads appended to a row of one's own. -/
import Derived.Test.YtldnpnplgfkebaaTRows
import Derived.Test.YtldnpnplgfkebaaTRBits
namespace Go.Proofs.Ytldnpnplgfkebaa
open Go.RowKit

theorem wp_append_ld {o : Oper} {a : Act} {w : World} {K : Act → World → Prop} {Q : Exit → Act → World → Prop} (s x : Operand) (ho : o.op = .call { callee := .builtin .append, args := #[s, x], argTypes := #[22, 22] })
    (base : Nat) (sv xv : Value) (xs ys : List Ld) (hs : a.eval s = sv) (hown : w.ownsRow base 91 4 sv xs.length (spR (xs.map Ld.row))) (hx : a.eval x = xv) (hy : SlLd w xv ys) (hn : xs.length + ys.length ≤ 1000) (hbase : base ≤ w.heap.size)
    (h : ∀ v' w', w'.ownsRow base 91 4 v' (xs ++ ys).length (spR ((xs ++ ys).map Ld.row)) → Below base w w' → base ≤ w'.heap.size → K (a.put o.dst v') w') : o.wp Try.prog a w K Q := by
  obtain ⟨i0, hi, hz0, hz1, hz2⟩ := info_parts (P := Try.prog) (e := 91) (z := .agg #[.int .i64 0, .int .i64 0, .int .i64 0, .int .i64 0]) (size := 4) (bytes := 32) (by kernel_rfl)
  rcases hy with ⟨rfl, rfl⟩ | ⟨b, off, cap, rfl, h2, h3, h4, h5⟩
  · have hrun := run_append_owned_none (P := Try.prog) (w := w) base 22 o.type 91 i0 4 Try.underlying22 hi sv xs.length _ hown
    unfold Oper.wp
    simp [execOp, ho, resolve, invoke, builtin, hs, hx, hrun, Result.andThen]
    exact h sv w (by simpa using hown) (Below.refl _ _) hbase
  · have hlo := ld_len ys
    refine wp_append_own w s x 22 ho base 91 i0 (.agg #[.int .i64 0, .int .i64 0, .int .i64 0, .int .i64 0]) 4 32 Try.underlying22 hi hz0 hz1 hz2 rfl (by decide) sv xs.length _ hs hown ⟨b, off, none⟩ ys.length cap (spR (ys.map Ld.row)) hx ?_ (spR_cell (ld_rows h5) hlo (by decide)) spR_one (by unfold maxLen; omega) (by omega) hbase ?_
    · rw [spR_len _ hlo, List.length_map]
    · intro v' w' ho' hg _
      refine h v' w' (by rw [List.length_append, List.map_append]; unfold spR; rw [List.flatMap_append]; exact ho') ⟨hg.os, hg.tape, hg.output, hg.size, fun k hk => hg.block k (by omega) (fun e => by have := (hown.lt k e.symm).1; omega)⟩ (by have := hg.size; omega)
/-- A load, laid as a row of one. -/
theorem ld_one (w : World) (l : Ld) (t : TypeId) : SlLd (w.alloc (.cells #[.int .i64 l.a0, .int .i64 l.a1, .int .i64 l.w0, .int .i64 l.w1] t)) (.slice (some ⟨w.heap.size, 0, none⟩) 1 1) [l] := by
  refine .inr ⟨w.heap.size, 0, 1, rfl, by simp, by simp, by simp, fun i c e => ?_⟩
  rcases i with _ | i
  · simp at e
    subst e
    exact ⟨by go_cell, by go_cell, by go_cell, by go_cell⟩
  · simp at e
end Go.Proofs.Ytldnpnplgfkebaa
