/- The specification's join of a span to a list of them. -/
import Derived.Test.YtflgdckeinappaaRTab
namespace Go.Proofs.Ytflgdckeinappaa
open Go.RowKit

def joinS (l : List (Int × Int)) (f t : Int) : List (Int × Int) :=
  if t < f then l else if 0 < l.length ∧ f ≤ (l.getD (l.length - 1) (0, 0)).2 + 1 then l.set (l.length - 1) ((l.getD (l.length - 1) (0, 0)).1, max (l.getD (l.length - 1) (0, 0)).2 t) else l ++ [(f, t)]
/-- Spans in memory from B on. -/
def JR (B : Nat) (w w' : World) (e : Ending) (l : List (Int × Int)) : Prop := ∃ v, e = .returned v ∧ w'.ownsRow B 23 2 v l.length (spV l) ∧ Below B w w' ∧ B ≤ w'.heap.size

theorem grown_below {B : Nat} {w0 w w1 : World} {v : Value} {n : Nat} {xs : List Value} {o : Obj} (h : w.ownsRow B 23 2 v n xs) (hB0 : Below B w0 w) (hB : B ≤ w.heap.size) (hg : (w.alloc o).grownBy w1 v.ownBlock) : Below B w0 w1 ∧ B ≤ w1.heap.size := by
  have hsz := hg.size
  simp at hsz
  refine ⟨hB0.trans ⟨hg.os, hg.tape, hg.output, by omega, fun k hk => ?_⟩, by omega⟩
  rw [hg.block k (by simp; omega) (fun e => by have := (h.lt k e.symm).1; omega)]
  exact (below_box w o).block k (by omega)

set_option linter.unusedSimpArgs false in
set_option maxHeartbeats 1000000 in
set_option maxRecDepth 1000000 in
theorem rjoin_any (B : Nat) (v : Value) (l : List (Int × Int)) (f t : Int) (w : World) (hown : w.ownsRow B 23 2 v l.length (spV l)) (hB : B ≤ w.heap.size) (hl : l.length ≤ 1000)
    (hh : ∀ x y, (x, y) ∈ l → -1099511627776 ≤ y ∧ y ≤ 1099511627776) :
    Calls Try.prog 139 #[v, sp f t] w fun e w' => JR B w w' e (joinS l f t) := by
  by_cases h1 : t < f
  · have HO := Lib.hid hown
    clear hown
    go_enter Try.func139, Try.ntmps139
    go_wp2_with fail
    refine bodyPost_ret (v := v) (by simp [results, Try.results139, go_sem, *]) rfl ⟨v, rfl, ?_, by go_grown, by simp; omega⟩
    unfold joinS
    rw [if_pos h1]
    exact HO.out.alloc _
  · obtain ⟨i0, hi, hz0, hz1, hz2⟩ := info_parts (P := Try.prog) (e := 23) (z := .agg #[.int .i64 0, .int .i64 0]) (size := 2) (bytes := 16) (by kernel_rfl)
    by_cases hn : l.length = 0
    · obtain rfl : l = [] := by simpa using hn
      rcases Go.Joins.ownsRow_forms hown with ⟨rfl, _⟩ | ⟨g, cap, rfl⟩
      · skip
        go_enter Try.func139, Try.ntmps139
        go_wp2_with fail
        obtain ⟨W, hW⟩ : ∃ W, w.alloc (.cells #[.int .i64 f, .int .i64 t] 23) = W := ⟨_, rfl⟩
        rw [hW]
        have s0 : W.cell? ⟨w.heap.size, 0, none⟩ = some (.int .i64 f) := by subst hW; go_cell
        have s1 : W.cell? ⟨w.heap.size, 1, none⟩ = some (.int .i64 t) := by subst hW; go_cell
        have hzW : w.heap.size < W.heap.size := by subst hW; simp
        have hBW : Below B w W := by subst hW; go_grown
        have hownW := hown.alloc (.cells #[.int .i64 f, .int .i64 t] 23)
        rw [hW] at hownW
        clear hW
        go_quiet (fail)
        have vw : ∀ nn, W.drewN nn = W.drewN nn ∧ Below B w (W.drewN nn) ∧ w.heap.size < (W.drewN nn).heap.size ∧ (W.drewN nn).cell? ⟨w.heap.size, 0, none⟩ = some (.int .i64 f) ∧ (W.drewN nn).cell? ⟨w.heap.size, 1, none⟩ = some (.int .i64 t) := fun nn => ⟨rfl, below_drewN hBW nn, hzW, s0, s1⟩
        have hown2 := (show (W.drewN nq).ownsRow B 23 2 _ _ _ from hownW)
        obtain ⟨_, hB2, hz2', y0, y1⟩ := vw nq
        clear vw s0 s1 hzW hBW hownW
        generalize W.drewN nq = w2 at *
        go_wp2_with (at_builtin; refine wpList_append_own _ rfl _ _ 44 rfl B 23 i0 (.agg #[.int .i64 0, .int .i64 0]) 2 16 Try.underlying44 hi hz0 hz1 hz2 rfl (by decide) _ _ _ rfl (hown2.alloc _) ⟨w2.heap.size, 0, none⟩ 1 1 [.int .i64 f, .int .i64 t] rfl rfl ?c1a ?c2a ?c3a ?c4a ?c5a ?_)
        case c2a => exact ⟨rfl, rfl⟩
        case c3a => unfold maxLen; omega
        any_goals omega
        intro v' w1 hown' hgrow hnil
        have HG := Lib.hid (grown_below hown2 hB2 (by omega) hgrow)
        obtain ⟨g', cap', rfl⟩ := Go.Joins.ownsRow_form hown' (by simp)
        have HO := Lib.hid hown'
        clear hown' hgrow hnil
        go_wp2_with fail
        refine bodyPost_ret (v := .slice (some ⟨g', 0, none⟩) _ cap') (by simp [results, Try.results139, go_sem, *]; rfl) rfl ⟨_, rfl, ?_, HG.out.1, HG.out.2⟩
        unfold joinS
        rw [if_neg (by omega), if_neg (by simp), spV_app]
        simpa using HO.out
      · skip
        go_enter Try.func139, Try.ntmps139
        go_wp2_with fail
        obtain ⟨W, hW⟩ : ∃ W, w.alloc (.cells #[.int .i64 f, .int .i64 t] 23) = W := ⟨_, rfl⟩
        rw [hW]
        have s0 : W.cell? ⟨w.heap.size, 0, none⟩ = some (.int .i64 f) := by subst hW; go_cell
        have s1 : W.cell? ⟨w.heap.size, 1, none⟩ = some (.int .i64 t) := by subst hW; go_cell
        have hzW : w.heap.size < W.heap.size := by subst hW; simp
        have hBW : Below B w W := by subst hW; go_grown
        have hownW := hown.alloc (.cells #[.int .i64 f, .int .i64 t] 23)
        rw [hW] at hownW
        clear hW
        go_quiet (fail)
        have vw : ∀ nn, W.drewN nn = W.drewN nn ∧ Below B w (W.drewN nn) ∧ w.heap.size < (W.drewN nn).heap.size ∧ (W.drewN nn).cell? ⟨w.heap.size, 0, none⟩ = some (.int .i64 f) ∧ (W.drewN nn).cell? ⟨w.heap.size, 1, none⟩ = some (.int .i64 t) := fun nn => ⟨rfl, below_drewN hBW nn, hzW, s0, s1⟩
        have hown2 := (show (W.drewN nq).ownsRow B 23 2 _ _ _ from hownW)
        obtain ⟨_, hB2, hz2', y0, y1⟩ := vw nq
        clear vw s0 s1 hzW hBW hownW
        generalize W.drewN nq = w2 at *
        go_wp2_with (at_builtin; refine wpList_append_own _ rfl _ _ 44 rfl B 23 i0 (.agg #[.int .i64 0, .int .i64 0]) 2 16 Try.underlying44 hi hz0 hz1 hz2 rfl (by decide) _ _ _ rfl (hown2.alloc _) ⟨w2.heap.size, 0, none⟩ 1 1 [.int .i64 f, .int .i64 t] rfl rfl ?c1b ?c2b ?c3b ?c4b ?c5b ?_)
        case c2b => exact ⟨rfl, rfl⟩
        case c3b => unfold maxLen; omega
        any_goals omega
        intro v' w1 hown' hgrow hnil
        have HG := Lib.hid (grown_below hown2 hB2 (by omega) hgrow)
        obtain ⟨g', cap', rfl⟩ := Go.Joins.ownsRow_form hown' (by simp)
        have HO := Lib.hid hown'
        clear hown' hgrow hnil
        go_wp2_with fail
        refine bodyPost_ret (v := .slice (some ⟨g', 0, none⟩) _ cap') (by simp [results, Try.results139, go_sem, *]; rfl) rfl ⟨_, rfl, ?_, HG.out.1, HG.out.2⟩
        unfold joinS
        rw [if_neg (by omega), if_neg (by simp), spV_app]
        simpa using HO.out
    · obtain ⟨g, cap, rfl⟩ := Go.Joins.ownsRow_form hown (by omega)
      obtain ⟨x, y, hxy⟩ : ∃ x y, l[l.length - 1]? = some (x, y) := ⟨_, _, List.getElem?_eq_getElem (by omega)⟩
      obtain ⟨y0, y1⟩ := hh x y (List.mem_of_getElem? hxy)
      have HX := Lib.hid hxy
      have k0 : (0 : Int) < (l.length : Int) := by omega
      have k1 : decide (0 < l.length) = true := by simp; omega
      have g6 : (1 : Int) ≤ (l.length : Int) := by omega
      have g1 : (0 : Int) ≤ (l.length : Int) - 1 := by omega
      have g2 : (l.length : Int) - 1 < (l.length : Int) := by omega
      have g3 : IntKind.i64.wrap ((l.length : Int) - 1) = (l.length : Int) - 1 := IntWalk.i64_in _ ⟨by omega, by omega⟩
      have g4 : ((l.length : Int) - 1).toNat = l.length - 1 := by omega
      have g5 : IntKind.i64.wrap (y + 1) = y + 1 := IntWalk.i64_in _ ⟨by omega, by omega⟩
      clear hxy hh
      by_cases h2 : f ≤ y + 1
      · have h3 : decide (f ≤ y + 1) = true := by simp; omega
        go_enter Try.func139, Try.ntmps139
        go_wp2_with fail
        obtain ⟨W, hW⟩ : ∃ W, w.alloc (.cells #[.int .i64 f, .int .i64 t] 23) = W := ⟨_, rfl⟩
        rw [hW]
        have s0 : W.cell? ⟨w.heap.size, 0, none⟩ = some (.int .i64 f) := by subst hW; go_cell
        have s1 : W.cell? ⟨w.heap.size, 1, none⟩ = some (.int .i64 t) := by subst hW; go_cell
        have hzW : w.heap.size < W.heap.size := by subst hW; simp
        have hBW : Below B w W := by subst hW; go_grown
        have hownW := hown.alloc (.cells #[.int .i64 f, .int .i64 t] 23)
        rw [hW] at hownW
        clear hW
        have cl : W.cell? ⟨g, (l.length - 1) * 2 + 1, none⟩ = some (.int .i64 y) := by
          rw [hownW.cellAt _ (by omega)]
          exact (spV_get _ _ _ _ HX.out).2
        go_quiet (fail)
        have vw : ∀ nn, W.drewN nn = W.drewN nn ∧ Below B w (W.drewN nn) ∧ w.heap.size < (W.drewN nn).heap.size ∧ (W.drewN nn).cell? ⟨w.heap.size, 0, none⟩ = some (.int .i64 f) ∧ (W.drewN nn).cell? ⟨w.heap.size, 1, none⟩ = some (.int .i64 t) := fun nn => ⟨rfl, below_drewN hBW nn, hzW, s0, s1⟩
        have hown2 := (show (W.drewN nq).ownsRow B 23 2 _ _ _ from hownW)
        obtain ⟨_, hB2, hz2', y0, y1⟩ := vw nq
        clear vw s0 s1 hzW hBW hownW
        generalize W.drewN nq = w2 at *
        clear cl
        have cl : w2.cell? ⟨g, (l.length - 1) * 2 + 1, none⟩ = some (.int .i64 y) := by
          rw [hown2.cellAt _ (by omega)]
          exact (spV_get _ _ _ _ HX.out).2
        have fl := hown2.frozenAt ((l.length - 1) * 2 + 1)
        have hst := (hown2.stored ((l.length - 1) * 2 + 1) (.int .i64 (max y t))).1
        have hgB := (hown2.lt g rfl).1
        have HST := Lib.hid hst
        have HB2 := Lib.hid (hB2.setCell (p := ⟨g, (l.length - 1) * 2 + 1, none⟩) hgB (.int .i64 (max y t)))
        clear hst
        go_wp2_with fail
        refine AnyT.begin (fun w' => w' = World.drew _) 14 (by kernel_rfl) rfl (fun hHeld => ?_)
        refine AnyT.take (i := 0) (oi := _) (v := ?_) rfl (by kernel_rfl) (by kernel_rfl) (by kernel_rfl) (by kernel_rfl) (fun _ _ _ h => h) (Or.inl ⟨by rfl, ?_⟩) (by assumption) ?_
        rotate_left 1
        · intro wz hSw; subst hSw; go_simp; try with_reducible rfl
        try simp only [Act.put, List.setIfInBounds_toArray, List.set_cons_zero, List.set_cons_succ]
        refine AnyT.take (i := 1) (oi := _) (v := ?_) rfl (by kernel_rfl) (by kernel_rfl) (by kernel_rfl) (by kernel_rfl) (fun _ _ _ h => h) (Or.inl ⟨by rfl, ?_⟩) (by assumption) ?_
        rotate_left 1
        · intro wz hSw; subst hSw; go_simp; try with_reducible rfl
        try simp only [Act.put, List.setIfInBounds_toArray, List.set_cons_zero, List.set_cons_succ]
        refine AnyT.take (i := 2) (oi := _) (v := ?_) rfl (by kernel_rfl) (by kernel_rfl) (by kernel_rfl) (by kernel_rfl) (fun _ _ _ h => h) (Or.inl ⟨by rfl, ?_⟩) (by assumption) ?_
        rotate_left 1
        · intro wz hSw; subst hSw; go_simp; try with_reducible rfl
        try simp only [Act.put, List.setIfInBounds_toArray, List.set_cons_zero, List.set_cons_succ]
        refine AnyT.take (i := 3) (oi := _) (v := ?_) rfl (by kernel_rfl) (by kernel_rfl) (by kernel_rfl) (by kernel_rfl) (fun _ _ _ h => h) (Or.inl ⟨by rfl, ?_⟩) (by assumption) ?_
        rotate_left 1
        · intro wz hSw; subst hSw; go_simp; try with_reducible rfl
        try simp only [Act.put, List.setIfInBounds_toArray, List.set_cons_zero, List.set_cons_succ]
        refine AnyT.take (i := 4) (oi := _) (v := ?_) rfl (by kernel_rfl) (by kernel_rfl) (by kernel_rfl) (by kernel_rfl) (fun _ _ _ h => h) (Or.inl ⟨by rfl, ?_⟩) (by assumption) ?_
        rotate_left 1
        · intro wz hSw; subst hSw; go_simp; try with_reducible rfl
        try simp only [Act.put, List.setIfInBounds_toArray, List.set_cons_zero, List.set_cons_succ]
        refine AnyT.take (i := 5) (oi := _) (v := ?_) rfl (by kernel_rfl) (by kernel_rfl) (by kernel_rfl) (by kernel_rfl) (fun _ _ _ h => h) (Or.inl ⟨by rfl, ?_⟩) (by assumption) ?_
        rotate_left 1
        · intro wz hSw; subst hSw; go_simp; try with_reducible rfl
        try simp only [Act.put, List.setIfInBounds_toArray, List.set_cons_zero, List.set_cons_succ]
        refine AnyT.take (i := 6) (oi := _) (v := ?_) rfl (by kernel_rfl) (by kernel_rfl) (by kernel_rfl) (by kernel_rfl) (fun _ _ _ h => h) (Or.inl ⟨by rfl, ?_⟩) (by assumption) ?_
        rotate_left 1
        · intro wz hSw; subst hSw; go_simp; try with_reducible rfl
        try simp only [Act.put, List.setIfInBounds_toArray, List.set_cons_zero, List.set_cons_succ]
        refine AnyT.take (i := 7) (oi := _) (v := ?_) rfl (by kernel_rfl) (by kernel_rfl) (by kernel_rfl) (by kernel_rfl) (fun _ _ _ h => h) (Or.inl ⟨by rfl, ?_⟩) (by assumption) ?_
        rotate_left 1
        · intro wz hSw; subst hSw; go_simp; try with_reducible rfl
        try simp only [Act.put, List.setIfInBounds_toArray, List.set_cons_zero, List.set_cons_succ]
        refine AnyT.take (i := 8) (oi := _) (v := ?_) rfl (by kernel_rfl) (by kernel_rfl) (by kernel_rfl) (by kernel_rfl) (fun _ _ _ h => h) (Or.inl ⟨by rfl, ?_⟩) (by assumption) ?_
        rotate_left 1
        · intro wz hSw; subst hSw; go_simp; try with_reducible rfl
        try simp only [Act.put, List.setIfInBounds_toArray, List.set_cons_zero, List.set_cons_succ]
        refine AnyT.take (i := 9) (oi := _) (v := ?_) rfl (by kernel_rfl) (by kernel_rfl) (by kernel_rfl) (by kernel_rfl) (fun _ _ _ h => h) (Or.inl ⟨by rfl, ?_⟩) (by assumption) ?_
        rotate_left 1
        · intro wz hSw; subst hSw; go_simp; try with_reducible rfl
        try simp only [Act.put, List.setIfInBounds_toArray, List.set_cons_zero, List.set_cons_succ]
        refine AnyT.take (i := 10) (oi := _) (v := ?_) rfl (by kernel_rfl) (by kernel_rfl) (by kernel_rfl) (by kernel_rfl) (fun _ _ _ h => h) (Or.inl ⟨by rfl, ?_⟩) (by assumption) ?_
        rotate_left 1
        · intro wz hSw; subst hSw; go_simp; try with_reducible rfl
        try simp only [Act.put, List.setIfInBounds_toArray, List.set_cons_zero, List.set_cons_succ]
        clear hHeld
        refine AnyT.one (i := 11) (o := _) rfl (by kernel_rfl) (fun K hK => ?_)
        go_simp
        refine hK.out _ _ (fun _ => rfl) ?_
        clear hK K
        try simp only [Act.put, List.setIfInBounds_toArray, List.set_cons_zero, List.set_cons_succ]
        refine AnyT.one (i := 12) (o := _) rfl (by kernel_rfl) (fun K hK => ?_)
        go_simp
        refine hK.out _ _ (fun _ => rfl) ?_
        clear hK K
        try simp only [Act.put, List.setIfInBounds_toArray, List.set_cons_zero, List.set_cons_succ]
        refine AnyT.one (i := 13) (o := _) rfl (by kernel_rfl) (fun K hK => ?_)
        go_simp
        refine hK.out _ _ (fun _ => rfl) ?_
        clear hK K
        try simp only [Act.put, List.setIfInBounds_toArray, List.set_cons_zero, List.set_cons_succ]
        refine AnyT.one (i := 14) (o := _) rfl (by kernel_rfl) (fun K hK => ?_)
        go_simp
        refine hK.out _ _ (fun h => absurd rfl h) ?_
        clear hK K
        refine AnyT.done (by kernel_rfl) ?_
        try simp only [Act.put, List.setIfInBounds_toArray, List.set_cons_zero, List.set_cons_succ]
        go_wp2_with fail
        refine bodyPost_ret (v := .slice (some ⟨g, 0, none⟩) l.length cap) (by simp [results, Try.results139, go_sem, *]) rfl ⟨_, rfl, ?_, by first | exact below_drewN HB2.out 1 | go_grown, by simp; omega⟩
        unfold joinS
        rw [if_neg (by omega), if_pos (by rw [getDs_is HX.out]; simp only; omega), getDs_is HX.out, spV_set _ _ _ _ _ HX.out]
        rw [List.length_set]
        exact HST.out
      · have h3 : decide (f ≤ y + 1) = false := by simp; omega
        go_enter Try.func139, Try.ntmps139
        go_wp2_with fail
        obtain ⟨W, hW⟩ : ∃ W, w.alloc (.cells #[.int .i64 f, .int .i64 t] 23) = W := ⟨_, rfl⟩
        rw [hW]
        have s0 : W.cell? ⟨w.heap.size, 0, none⟩ = some (.int .i64 f) := by subst hW; go_cell
        have s1 : W.cell? ⟨w.heap.size, 1, none⟩ = some (.int .i64 t) := by subst hW; go_cell
        have hzW : w.heap.size < W.heap.size := by subst hW; simp
        have hBW : Below B w W := by subst hW; go_grown
        have hownW := hown.alloc (.cells #[.int .i64 f, .int .i64 t] 23)
        rw [hW] at hownW
        clear hW
        have cl : W.cell? ⟨g, (l.length - 1) * 2 + 1, none⟩ = some (.int .i64 y) := by
          rw [hownW.cellAt _ (by omega)]
          exact (spV_get _ _ _ _ HX.out).2
        go_quiet (fail)
        have vw : ∀ nn, W.drewN nn = W.drewN nn ∧ Below B w (W.drewN nn) ∧ w.heap.size < (W.drewN nn).heap.size ∧ (W.drewN nn).cell? ⟨w.heap.size, 0, none⟩ = some (.int .i64 f) ∧ (W.drewN nn).cell? ⟨w.heap.size, 1, none⟩ = some (.int .i64 t) := fun nn => ⟨rfl, below_drewN hBW nn, hzW, s0, s1⟩
        have hown2 := (show (W.drewN nq).ownsRow B 23 2 _ _ _ from hownW)
        obtain ⟨_, hB2, hz2', y0, y1⟩ := vw nq
        clear vw s0 s1 hzW hBW hownW
        generalize W.drewN nq = w2 at *
        go_wp2_with (at_builtin; refine wpList_append_own _ rfl _ _ 44 rfl B 23 i0 (.agg #[.int .i64 0, .int .i64 0]) 2 16 Try.underlying44 hi hz0 hz1 hz2 rfl (by decide) _ _ _ rfl (hown2.alloc _) ⟨w2.heap.size, 0, none⟩ 1 1 [.int .i64 f, .int .i64 t] rfl rfl ?c1c ?c2c ?c3c ?c4c ?c5c ?_)
        case c2c => exact ⟨rfl, rfl⟩
        case c3c => unfold maxLen; omega
        any_goals omega
        intro v' w1 hown' hgrow hnil
        have HG := Lib.hid (grown_below hown2 hB2 (by omega) hgrow)
        obtain ⟨g', cap', rfl⟩ := Go.Joins.ownsRow_form hown' (by simp)
        have HO := Lib.hid hown'
        clear hown' hgrow hnil
        go_wp2_with fail
        refine bodyPost_ret (v := .slice (some ⟨g', 0, none⟩) _ cap') (by simp [results, Try.results139, go_sem, *]; rfl) rfl ⟨_, rfl, ?_, HG.out.1, HG.out.2⟩
        unfold joinS
        rw [if_neg (by omega), if_neg (by rw [getDs_is HX.out]; simp only; omega), spV_app]
        simpa using HO.out
end Go.Proofs.Ytflgdckeinappaa
