/- Package trim: what Drop looks for, in numbers. -/
import Derived.Test.YtldnpnplgfkebaaTOrd
import Derived.Test.YtldnpnplgfkebaaTSub
namespace Go.Proofs.Ytldnpnplgfkebaa
open Go.RowKit

/-- A bag as a load. -/
def bagL (p : Pu) : Ld := ⟨p.p, p.p, p.w, p.w⟩
theorem most_bag (a b : Int) (p : Pu) : mostE a b (bagL p) = valE a b p := by
  have h : worstP a b (bagL p) = p := by
    unfold worstP betterP bagL
    simp
  unfold mostE
  rw [h]
theorem sum_app {α : Type} (f : α → Int) (l m : List α) : sumE f (l ++ m) = sumE f l + sumE f m := by
  unfold sumE
  rw [List.map_append, List.sum_append]
theorem mostL_bags (a b : Int) (ls : List Ld) (ps : List Pu) : mostL a b (ls ++ ps.map bagL) = mostL a b ls + sumE (valE a b) ps := by
  unfold mostL
  rw [sum_app]
  congr 1
  unfold sumE
  rw [List.map_map]
  congr 1
  exact List.map_congr_left fun p _ => most_bag a b p
theorem brk_all (ls : List Ld) : ∀ (ms : List Li) (i : Nat), decide (brk ls i ms < 0) = ms.all fun x => decide (mostL x.a x.b ls ≤ x.c)
  | [], i => rfl
  | m :: ms, i => by
    unfold brk
    rw [List.all_cons]
    split
    · rename_i h
      rw [decide_eq_false (by omega), decide_eq_false (show ¬ mostL m.a m.b ls ≤ m.c by omega)]
      rfl
    · rename_i h
      rw [brk_all ls ms (i + 1), decide_eq_true (show mostL m.a m.b ls ≤ m.c by omega)]
      rfl
/-- The loads and the bags that are not dropped keep every limit. -/
def okS (ls : List Ld) (ps : List Pu) (ms : List Li) (zs : List Int) : Bool := ms.all fun x => decide (sumE (valE x.a x.b) (keptP zs 0 ps) ≤ x.c - mostL x.a x.b ls)
theorem brk_ok (ls : List Ld) (ps : List Pu) (ms : List Li) (zs : List Int) : decide (brk (ls ++ (keptP zs 0 ps).map bagL) 0 ms < 0) = okS ls ps ms zs := by
  rw [brk_all]
  unfold okS
  congr 1
  funext x
  rw [mostL_bags]
  exact decide_eq_decide.2 (by omega)
theorem has_listM {m i : Nat} (hi : i < 10) : (listM m).contains (i : Int) = m.testBit i := by
  rw [Bool.eq_iff_iff, List.contains_iff_mem]
  unfold listM
  rw [List.mem_map]
  constructor
  · rintro ⟨j, h1, h2⟩
    obtain rfl : j = i := by omega
    exact (List.mem_filter.1 h1).2
  · intro h
    exact ⟨i, List.mem_filter.2 ⟨List.mem_range.2 hi, h⟩, rfl⟩
/-- The bags that have to be dropped. -/
def dropE (ls : List Ld) (ps : List Pu) (ms : List Li) : Option (List Int) := (setsN ps.length).find? (okS ls ps ms)
/-- What Drop returns. -/
def DropP (ls : List Ld) (ps : List Pu) (ms : List Li) (w : World) (e : Ending) (w' : World) : Prop :=
  (bagsN ls ps ms ≠ 0 ∧ e = .returned (.tuple #[.slice none 0 0, .int .i64 (bagsN ls ps ms)]) ∧ Below w.heap.size w w') ∨
  (bagsN ls ps ms = 0 ∧ dropE ls ps ms = none ∧ e = .returned (.tuple #[.slice none 0 0, .int .i64 6]) ∧ Below w.heap.size w w') ∨
  (bagsN ls ps ms = 0 ∧ ∃ (zs : List Int) (v : Value), dropE ls ps ms = some zs ∧ e = .returned (.tuple #[v, .int .i64 0]) ∧ SlI w' v zs ∧ Below w.heap.size w w')
theorem bagsN_ok {ls : List Ld} {ps : List Pu} {ms : List Li} (h : bagsN ls ps ms = 0) : bothN ls ms = 0 ∧ ls.length + ps.length ≤ 40 ∧ ps.length ≤ 10 ∧ ps.all Pu.ok = true := by
  unfold bagsN at h
  split at h
  · rename_i h0
    split at h
    · cases h
    · unfold listN at h
      split at h
      · cases h
      · split at h
        · exact ⟨h0, by omega, by omega, by assumption⟩
        · cases h
  · rename_i h0
    exact absurd h h0
theorem Pu.bound {p : Pu} (h : p.ok = true) : PuB p := by
  unfold Pu.ok at h
  rw [Bool.and_eq_true, inB_iff, inB_iff] at h
  exact ⟨by omega, by omega, by omega, by omega⟩
end Go.Proofs.Ytldnpnplgfkebaa
