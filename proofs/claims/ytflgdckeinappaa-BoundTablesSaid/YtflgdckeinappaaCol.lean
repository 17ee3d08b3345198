/- The closures of May and Must, and collect of where. -/
import Derived.Test.YtflgdckeinappaaMost
import Derived.WalkKit
import Derived.Lib.SmallJoins
import Derived.Laws.OwnMore
namespace Go.Proofs.Ytflgdckeinappaa
open Go.RowKit

/-- The cells of spans. -/
def spV (l : List (Int × Int)) : List Value := l.flatMap fun p => [.int .i64 p.1, .int .i64 p.2]
def colS (l : List (Int × Int)) (f t : Int) : List (Int × Int) :=
  if t < f then l else if 0 < l.length ∧ f ≤ (l.getD (l.length - 1) (0, 0)).2 + 1 then l.set (l.length - 1) ((l.getD (l.length - 1) (0, 0)).1, t) else l ++ [(f, t)]

theorem spV_cons (p : Int × Int) (l : List (Int × Int)) : spV (p :: l) = .int .i64 p.1 :: .int .i64 p.2 :: spV l := rfl
theorem spV_get : ∀ (l : List (Int × Int)) (i : Nat) (x y : Int), l[i]? = some (x, y) → (spV l)[i * 2]? = some (.int .i64 x) ∧ (spV l)[i * 2 + 1]? = some (.int .i64 y)
  | [], i, x, y, h => by simp at h
  | p :: l, 0, x, y, h => by simp at h; subst h; exact ⟨rfl, rfl⟩
  | p :: l, i + 1, x, y, h => by
    have k := spV_get l i x y (by simpa using h)
    rw [spV_cons, show (i + 1) * 2 = i * 2 + 2 by omega]
    exact k
theorem spV_set : ∀ (l : List (Int × Int)) (i : Nat) (x y t : Int), l[i]? = some (x, y) → spV (l.set i (x, t)) = (spV l).set (i * 2 + 1) (.int .i64 t)
  | [], i, x, y, t, h => by simp at h
  | p :: l, 0, x, y, t, h => by simp at h; subst h; rfl
  | p :: l, i + 1, x, y, t, h => by
    have k := spV_set l i x y t (by simpa using h)
    rw [List.set_cons_succ, spV_cons, spV_cons, k, show (i + 1) * 2 = i * 2 + 2 by omega]
    rfl
theorem spV_app (l : List (Int × Int)) (f t : Int) : spV (l ++ [(f, t)]) = spV l ++ [.int .i64 f, .int .i64 t] := by unfold spV; rw [List.flatMap_append]; rfl
theorem spV_len (l : List (Int × Int)) : (spV l).length = l.length * 2 := by
  induction l with
  | nil => rfl
  | cons p l ih => rw [spV_cons]; simp [ih]; omega

/-- What the variable at A holds. -/
structure Col (A : Nat) (w : World) (v : Value) (l : List (Int × Int)) : Prop where
  own : w.ownsRow (A + 1) 23 2 v l.length (spV l)
  size : A < w.heap.size
  c : w.cell? ⟨A, 0, none⟩ = some v
  f : w.frozen? ⟨A, 0, none⟩ = false

theorem Col.push {A : Nat} {w w1 : World} {v v' : Value} {l : List (Int × Int)} {o : Obj} {f t : Int} (h : Col A w v l) (hown : w1.ownsRow (A + 1) 23 2 v' (l.length + 1) (spV l ++ [.int .i64 f, .int .i64 t])) (hg : (w.alloc o).grownBy w1 v.ownBlock) :
    w1.cell? ⟨A, 0, none⟩ = some v ∧ w1.frozen? ⟨A, 0, none⟩ = false ∧ Col A (w1.setCell ⟨A, 0, none⟩ v') v' (l ++ [(f, t)]) ∧ Below A w (w1.setCell ⟨A, 0, none⟩ v') := by
  have hz := h.size
  have hne : ∀ k, k < A + 1 → some k ≠ v.ownBlock := fun k hk e => by have := (h.own.lt k e.symm).1; omega
  have hsz : w.heap.size + 1 ≤ w1.heap.size := by have := hg.size; simpa using this
  have hblk : ∀ k, k < A + 1 → w1.heap[k]? = w.heap[k]? := fun k hk => by
    rw [hg.block k (by simp; omega) (hne k hk)]
    exact (below_box w o).block k (by omega)
  have c : w1.cell? ⟨A, 0, none⟩ = some v := (World.cell?_of_block (hblk A (by omega))).trans h.c
  have fz : w1.frozen? ⟨A, 0, none⟩ = false := (World.frozen?_of_block (hblk A (by omega))).trans h.f
  have hb : Below A w w1 := ⟨hg.os, hg.tape, hg.output, by omega, fun k hk => hblk k (by omega)⟩
  refine ⟨c, fz, ⟨?_, ?_, World.cell?_setCell_same _ _ _ c, ?_⟩, ?_⟩
  · rw [spV_app]
    have := ownsRow_setCell_below hown (a := ⟨A, 0, none⟩) (Nat.lt_succ_self A) v'
    simpa using this
  · simp; omega
  · go_cell
  · go_grown

theorem Col.stored {A g cap : Nat} {w : World} {l : List (Int × Int)} {x y : Int} (h : Col A w (.slice (some ⟨g, 0, none⟩) l.length cap) l) (hx : l[l.length - 1]? = some (x, y)) (t : Int) :
    Col A (w.setCell ⟨g, (l.length - 1) * 2 + 1, none⟩ (.int .i64 t)) (.slice (some ⟨g, 0, none⟩) l.length cap) (l.set (l.length - 1) (x, t)) ∧ Below A w (w.setCell ⟨g, (l.length - 1) * 2 + 1, none⟩ (.int .i64 t)) := by
  have hg : A + 1 ≤ g := (h.own.lt g rfl).1
  have hz := h.size
  have c := h.c
  have fz := h.f
  have hb : Below A w (w.setCell ⟨g, (l.length - 1) * 2 + 1, none⟩ (.int .i64 t)) := (Below.refl _ _).setCell (by show A ≤ g; omega) _
  refine ⟨⟨?_, by simpa using hz, ?_, ?_⟩, hb⟩
  · rw [spV_set _ _ _ _ _ hx]
    have := (h.own.stored ((l.length - 1) * 2 + 1) (.int .i64 t)).1
    simpa using this
  · rw [World.cell?_setCell_other _ _ _ _ (by simp)]; exact c
  · simpa using fz
theorem Col.cast {A : Nat} {w : World} {v : Value} {l l' : List (Int × Int)} (h : Col A w v l) (e : l' = l) : Col A w v l' := e ▸ h
def ColP (A : Nat) (w w' : World) (l : List (Int × Int)) : Prop := Below A w w' ∧ ∃ v', Col A w' v' l
theorem getDs_is {l : List (Int × Int)} {k : Nat} {x : Int × Int} (h : l[k]? = some x) : l.getD k (0, 0) = x := by rw [List.getD_eq_getElem?_getD, h]; rfl
set_option linter.unusedSimpArgs false in
set_option maxHeartbeats 1000000 in
set_option maxRecDepth 1000000 in
theorem collect_any (A : Nat) (v : Value) (l : List (Int × Int)) (f t : Int) (w : World) (h : Col A w v l) (hl : l.length ≤ 1000)
    (hh : ∀ x y, (x, y) ∈ l → -1099511627776 ≤ y ∧ y ≤ 1099511627776) :
    Calls Try.prog 137 #[.int .i64 f, .int .i64 t, .pointer (some ⟨A, 0, none⟩)] w fun e w' => e = .returned (.tuple #[]) ∧ ColP A w w' (colS l f t) := by
  have HH := Lib.hid h
  have c0 := h.c
  have f0 := h.f
  clear h
  by_cases h1 : t < f
  · go_enter Try.func137, Try.ntmps137
    go_wp2_with fail
    refine bodyPost_ret (v := .tuple #[]) (by simp [results, Try.results137, go_sem, *]) rfl ⟨rfl, Below.refl _ _, v, ?_⟩
    unfold colS
    rw [if_pos h1]
    exact HH.out
  · obtain ⟨i0, hi, hz0, hz1, hz2⟩ := info_parts (P := Try.prog) (e := 23) (z := .agg #[.int .i64 0, .int .i64 0]) (size := 2) (bytes := 16) (by kernel_rfl)
    by_cases hn : l.length = 0
    · obtain rfl : l = [] := by simpa using hn
      have hown := HH.out.own
      have hsz := HH.out.size
      rcases Go.Joins.ownsRow_forms HH.out.own with ⟨rfl, _⟩ | ⟨g, cap, rfl⟩
      · skip
        go_enter Try.func137, Try.ntmps137
        go_wp2_with (at_builtin; refine wpList_append_own _ rfl _ _ 44 rfl (A + 1) 23 i0 (.agg #[.int .i64 0, .int .i64 0]) 2 16 Try.underlying44 hi hz0 hz1 hz2 rfl (by decide) _ _ _ rfl (hown.alloc _) ⟨w.heap.size, 0, none⟩ 1 1 [.int .i64 f, .int .i64 t] rfl rfl ?c1a ?c2a ?c3a ?c4a ?c5a ?_)
        case c2a => exact ⟨rfl, rfl⟩
        case c3a => unfold maxLen; omega
        any_goals omega
        intro v' w1 hown' hgrow hnil
        obtain ⟨g', cap', rfl⟩ := Go.Joins.ownsRow_form hown' (by simp)
        obtain ⟨hc1, hf1', hcol, hbel⟩ := HH.out.push (f := f) (t := t) hown' hgrow
        have HC := Lib.hid hcol
        have HB := Lib.hid hbel
        clear hcol hbel hown' hgrow hnil
        go_wp2_with fail
        refine bodyPost_end (v := .tuple #[]) (by simp [results, Try.results137, go_sem, *]) rfl ⟨rfl, HB.out, _, HC.out.cast ?_⟩
        unfold colS
        rw [if_neg (by omega), if_neg (by simp)]
      · skip
        go_enter Try.func137, Try.ntmps137
        go_wp2_with (at_builtin; refine wpList_append_own _ rfl _ _ 44 rfl (A + 1) 23 i0 (.agg #[.int .i64 0, .int .i64 0]) 2 16 Try.underlying44 hi hz0 hz1 hz2 rfl (by decide) _ _ _ rfl (hown.alloc _) ⟨w.heap.size, 0, none⟩ 1 1 [.int .i64 f, .int .i64 t] rfl rfl ?c1b ?c2b ?c3b ?c4b ?c5b ?_)
        case c2b => exact ⟨rfl, rfl⟩
        case c3b => unfold maxLen; omega
        any_goals omega
        intro v' w1 hown' hgrow hnil
        obtain ⟨g', cap', rfl⟩ := Go.Joins.ownsRow_form hown' (by simp)
        obtain ⟨hc1, hf1', hcol, hbel⟩ := HH.out.push (f := f) (t := t) hown' hgrow
        have HC := Lib.hid hcol
        have HB := Lib.hid hbel
        clear hcol hbel hown' hgrow hnil
        go_wp2_with fail
        refine bodyPost_end (v := .tuple #[]) (by simp [results, Try.results137, go_sem, *]) rfl ⟨rfl, HB.out, _, HC.out.cast ?_⟩
        unfold colS
        rw [if_neg (by omega), if_neg (by simp)]
    · obtain ⟨g, cap, rfl⟩ := Go.Joins.ownsRow_form HH.out.own (by omega)
      obtain ⟨x, y, hxy⟩ : ∃ x y, l[l.length - 1]? = some (x, y) := ⟨_, _, List.getElem?_eq_getElem (by omega)⟩
      have hown := HH.out.own
      have hsz := HH.out.size
      have cl : w.cell? ⟨g, (l.length - 1) * 2 + 1, none⟩ = some (.int .i64 y) := by
        rw [HH.out.own.cellAt _ (by omega)]
        exact (spV_get _ _ _ _ hxy).2
      have fl := HH.out.own.frozenAt ((l.length - 1) * 2 + 1)
      obtain ⟨y0, y1⟩ := hh x y (List.mem_of_getElem? hxy)
      have HX := Lib.hid hxy
      clear hxy hh
      have k0 : (0 : Int) < (l.length : Int) := by omega
      have k1 : decide ((0 : Int) < (l.length : Int)) = true := by simp; omega
      have g1 : (0 : Int) ≤ (l.length : Int) - 1 := by omega
      have g2 : (l.length : Int) - 1 < (l.length : Int) := by omega
      have g3 : IntKind.i64.wrap ((l.length : Int) - 1) = (l.length : Int) - 1 := IntWalk.i64_in _ ⟨by omega, by omega⟩
      have g4 : ((l.length : Int) - 1).toNat = l.length - 1 := by omega
      have g5 : IntKind.i64.wrap (y + 1) = y + 1 := IntWalk.i64_in _ ⟨by omega, by omega⟩
      by_cases h2 : f ≤ y + 1
      · clear hown
        go_enter Try.func137, Try.ntmps137
        have hst := HH.out.stored HX.out t
        have HS := Lib.hid hst
        clear hst
        go_wp2_with fail
        refine bodyPost_ret (v := .tuple #[]) (by simp [results, Try.results137, go_sem, *]) rfl ⟨rfl, HS.out.2, .slice (some ⟨g, 0, none⟩) l.length cap, ?_⟩
        unfold colS
        rw [if_neg (by omega), if_pos (by rw [getDs_is HX.out]; simp only; omega), getDs_is HX.out]
        exact HS.out.1
      · skip
        go_enter Try.func137, Try.ntmps137
        go_wp2_with (at_builtin; refine wpList_append_own _ rfl _ _ 44 rfl (A + 1) 23 i0 (.agg #[.int .i64 0, .int .i64 0]) 2 16 Try.underlying44 hi hz0 hz1 hz2 rfl (by decide) _ _ _ rfl (hown.alloc _) ⟨w.heap.size, 0, none⟩ 1 1 [.int .i64 f, .int .i64 t] rfl rfl ?c1c ?c2c ?c3c ?c4c ?c5c ?_)
        case c2c => exact ⟨rfl, rfl⟩
        case c3c => unfold maxLen; omega
        any_goals omega
        intro v' w1 hown' hgrow hnil
        obtain ⟨g', cap', rfl⟩ := Go.Joins.ownsRow_form hown' (by simp)
        obtain ⟨hc1, hf1', hcol, hbel⟩ := HH.out.push (f := f) (t := t) hown' hgrow
        have HC := Lib.hid hcol
        have HB := Lib.hid hbel
        clear hcol hbel hown' hgrow hnil
        go_wp2_with fail
        refine bodyPost_end (v := .tuple #[]) (by simp [results, Try.results137, go_sem, *]) rfl ⟨rfl, HB.out, _, HC.out.cast ?_⟩
        unfold colS
        rw [if_neg (by omega), if_neg (by rw [getDs_is HX.out]; simp only; omega)]
end Go.Proofs.Ytflgdckeinappaa
