/- Package gas: a ratio's rounding, comparing; amounts, temperatures; spans outwards and inwards. -/
import Derived.Test.YtpedmjjkhcigkaaGRef
namespace Go.Proofs.Ytpedmjjkhcigkaa
open Go.RowKit

/-- A moment. -/
abbrev mv (p t u : Int) : Value := .agg #[.int .i64 p, .int .i64 t, .int .i64 u]
def Fair (n : Int) : Prop := -4611686018427387904 ≤ n ∧ n ≤ 4611686018427387904
theorem fl_fair {n d : Int} (hd : 1 ≤ d) (h : Fair n) : -4611686018427387905 ≤ fl n d ∧ fl n d ≤ 4611686018427387904 := by
  obtain ⟨b0, b1⟩ := tdiv_bd n d h.1 h.2
  unfold fl
  rw [tdiv_floor n d (by omega)]
  split <;> omega

set_option maxHeartbeats 400000 in
theorem less_any (a b c d : Int) (w : World) (h1 : Fair (a * d)) (h2 : Fair (c * b)) :
    Calls Try.prog 151 #[sp a b, sp c d] w fun e w' => e = .returned (.bool (decide (a * d < c * b))) ∧ Below w.heap.size w w' := by
  obtain ⟨X, hX⟩ : ∃ X, a * d = X := ⟨_, rfl⟩
  obtain ⟨Y, hY⟩ : ∃ Y, c * b = Y := ⟨_, rfl⟩
  rw [hX] at h1
  rw [hY] at h2
  rw [hX, hY]
  obtain ⟨x0, x1⟩ := h1
  obtain ⟨y0, y1⟩ := h2
  have e1 : IntKind.i64.wrap (a * d) = X := by rw [hX]; exact IntWalk.i64_in _ ⟨by omega, by omega⟩
  have e2 : IntKind.i64.wrap (c * b) = Y := by rw [hY]; exact IntWalk.i64_in _ ⟨by omega, by omega⟩
  go_enter Try.func151, Try.ntmps151
  go_wp2_with fail
  go_returns
  exact ⟨rfl, by go_grown⟩
set_option maxHeartbeats 400000 in
theorem down_any (n d : Int) (w : World) (hd : 1 ≤ d) (hd1 : d ≤ 4611686018427387904) (h : Fair n) :
    Calls Try.prog 126 #[sp n d] w fun e w' => e = .returned (.int .i64 (fl n d)) ∧ Below w.heap.size w w' := by
  obtain ⟨h0, h1⟩ := h
  obtain ⟨b0, b1⟩ := tdiv_bd n d h0 h1
  have hf := tdiv_floor n d (by omega)
  unfold fl
  obtain ⟨f, hfl⟩ : ∃ x : Int, n / d = x := ⟨_, rfl⟩
  rw [hfl] at hf ⊢
  have HF := Lib.hid hf
  have Hfl := Lib.hid hfl
  clear hf hfl
  go_enter Try.func126, Try.ntmps126
  go_wp2
  all_goals (go_returns; exact ⟨ret_int (by rw [HF.out]; split <;> omega), by go_grown⟩)
set_option maxHeartbeats 400000 in
theorem up_any (n d : Int) (w : World) (hd : 1 ≤ d) (hd1 : d ≤ 4611686018427387904) (h : Fair n) :
    Calls Try.prog 73 #[sp n d] w fun e w' => e = .returned (.int .i64 (cl n d)) ∧ Below w.heap.size w w' := by
  obtain ⟨h0, h1⟩ := h
  have hn : Fair (-n) := ⟨by omega, by omega⟩
  have hf := fl_fair hd hn
  have e1 : cl n d = -fl (-n) d := rfl
  rw [e1]
  obtain ⟨f, hff⟩ : ∃ x : Int, fl (-n) d = x := ⟨_, rfl⟩
  rw [hff] at hf ⊢
  have HF := Lib.hid hff
  have HN := Lib.hid hn
  clear hff e1 hn
  go_enter Try.func73, Try.ntmps73
  go_wp2_with fail
  refine (down_any (-n) d _ hd hd1 HN.out).mono ?_
  rintro e w1 ⟨rfl, hb1⟩
  have hB : Below w.heap.size w w1 := (after (w := w) (by go_grown) hb1).1
  clear hb1
  rw [HF.out]
  go_wp2_with fail
  go_returns
  exact ⟨rfl, hB⟩
set_option maxHeartbeats 400000 in
theorem gasTemp_any (p t u : Int) (w : World) (h0 : -1000000 ≤ t) (h1 : t ≤ 1000000) (h2 : -1000000 ≤ u) (h3 : u ≤ 1000000) :
    Calls Try.prog 85 #[mv p t u] w fun e w' => e = .returned (.int .i64 (t + u)) ∧ Below w.heap.size w w' := by
  go_enter Try.func85, Try.ntmps85
  go_wp2_with fail
  go_returns
  exact ⟨rfl, by go_grown⟩
set_option maxHeartbeats 400000 in
theorem amount_any (rm he ar w0 w1 lk ow : Int) (w : World) (h0 : 0 ≤ he) (h1 : he ≤ 10000000) (h2 : 0 ≤ ar) (h3 : ar ≤ 10000000) :
    Calls Try.prog 82 #[cellV rm he ar w0 w1 lk ow] w fun e w' => e = .returned (.int .i64 (he + ar)) ∧ Below w.heap.size w w' := by
  go_enter Try.func82, Try.ntmps82
  go_wp2_with fail
  go_returns
  exact ⟨rfl, by go_grown⟩

theorem mul_lim2 {x y m n : Int} (h0 : 0 ≤ x) (h1 : x ≤ m) (h2 : -n ≤ y) (h3 : y ≤ n) : -(m * n) ≤ x * y ∧ x * y ≤ m * n := by
  have hn : 0 ≤ n := by omega
  have a : x * y ≤ x * n := Int.mul_le_mul_of_nonneg_left h3 h0
  have b : x * n ≤ m * n := Int.mul_le_mul_of_nonneg_right h1 hn
  have c : x * (-n) ≤ x * y := Int.mul_le_mul_of_nonneg_left h2 h0
  rw [Int.mul_neg] at c
  omega

/-- A new box of two numbers. -/
structure NewBox (w : World) (C : Nat) : Prop where
  c0 : w.cell? ⟨C, 0, none⟩ = some (.int .i64 0)
  c1 : w.cell? ⟨C, 1, none⟩ = some (.int .i64 0)
  f0 : w.frozen? ⟨C, 0, none⟩ = false
  f1 : w.frozen? ⟨C, 1, none⟩ = false
theorem NewBox.later {w w1 : World} {C : Nat} (k : NewBox w C) (hb : Below w.heap.size w w1) : NewBox w1 C :=
  have hz := World.block_lt_of_cell? _ _ k.c0
  ⟨cell_later hb k.c0, cell_later hb k.c1, by rw [(bcell hb).2 _ _ hz]; exact k.f0, by rw [(bcell hb).2 _ _ hz]; exact k.f1⟩
theorem chain {W w1 w2 : World} (h1 : Below W.heap.size W w1) (h2 : Below w1.heap.size w1 w2) : Below W.heap.size W w2 := h1.trans (h2.mono h1.size)
theorem chainD {W w1 w2 : World} (h1 : Below W.heap.size W w1) (h2 : Below w1.drew.heap.size w1.drew w2) : Below W.heap.size W w2 := chain h1 (Below.trans (below_drewN (Below.refl _ _) 1) h2)

theorem cell_far (W : World) (v : Value) {b b' o o' : Nat} (h : b ≠ b') : (W.setCell ⟨b', o', none⟩ v).cell? ⟨b, o, none⟩ = W.cell? ⟨b, o, none⟩ := World.cell?_setCell_far _ _ _ _ (Ne.symm h)

set_option maxHeartbeats 2000000 in
theorem outwards_any (a b c d : Int) (w : World) (hb : 1 ≤ b) (hb1 : b ≤ 4611686018427387904) (ha : Fair a) (hd : 1 ≤ d) (hd1 : d ≤ 4611686018427387904) (hc : Fair c) :
    Calls Try.prog 66 #[sp a b, sp c d] w fun e w' => e = .returned (sp (fl a b) (cl c d)) ∧ Below w.heap.size w w' := by
  obtain ⟨x, hx⟩ : ∃ x, fl a b = x := ⟨_, rfl⟩
  obtain ⟨y, hy⟩ : ∃ y, cl c d = y := ⟨_, rfl⟩
  rw [hx, hy]
  have HX := Lib.hid hx
  have HY := Lib.hid hy
  have HA := Lib.hid ha
  have HC := Lib.hid hc
  clear hx hy ha hc
  go_enter Try.func66, Try.ntmps66
  go_wp2_with fail
  obtain ⟨W, hW⟩ : ∃ W, ((w.alloc (.cells #[.int .i64 a, .int .i64 b] 127)).alloc (.cells #[.int .i64 c, .int .i64 d] 127)).alloc (.cells #[.int .i64 0, .int .i64 0] 23) = W := ⟨_, rfl⟩
  have a0 : W.cell? ⟨w.heap.size, 0, none⟩ = some (.int .i64 a) := by subst hW; go_cell
  have a1 : W.cell? ⟨w.heap.size, 1, none⟩ = some (.int .i64 b) := by subst hW; go_cell
  have b0 : W.cell? ⟨w.heap.size + 1, 0, none⟩ = some (.int .i64 c) := by subst hW; go_cell
  have b1 : W.cell? ⟨w.heap.size + 1, 1, none⟩ = some (.int .i64 d) := by subst hW; go_cell
  have hN : NewBox W (w.heap.size + 1 + 1) := by subst hW; exact ⟨by go_cell, by go_cell, by go_cell, by go_cell⟩
  have hBw : Below w.heap.size w W := by subst hW; go_grown
  have HN := Lib.hid hN
  rw [hW]
  clear hW hN
  have hB : Below W.heap.size W W := Below.refl _ _
  go_region_held3 (fun w' => w'.cell? ⟨w.heap.size, 0, none⟩ = some (.int .i64 a) ∧ w'.cell? ⟨w.heap.size, 1, none⟩ = some (.int .i64 b) ∧ w'.cell? ⟨w.heap.size + 1, 0, none⟩ = some (.int .i64 c) ∧ w'.cell? ⟨w.heap.size + 1, 1, none⟩ = some (.int .i64 d))
    (first | (go_split_ands; (repeat' apply And.intro) <;> first | assumption | exact cell_later hb (by assumption) | ((repeat rw [cell_far _ _ (by omega)]); assumption)) | go_keep)
    (first
      | (go_at_call 126; refine (down_any _ _ _ hb hb1 HA.out).mono ?_; rintro e wx ⟨rfl, hb⟩; rw [HX.out]; have hB : Below W.heap.size W wx := (by first | exact chain hB hb | exact chainD hB hb); have c0 := (HN.out.later hB).c0; have c1 := (HN.out.later hB).c1; have f0 := (HN.out.later hB).f0; have f1 := (HN.out.later hB).f1)
      | (go_at_call 73; refine (up_any _ _ _ hd hd1 HC.out).mono ?_; rintro e wx ⟨rfl, hb⟩; rw [HY.out]; have hB : Below W.heap.size W wx := (by first | exact chain hB hb | exact chainD hB hb); have c0 := (HN.out.later hB).c0; have c1 := (HN.out.later hB).c1; have f0 := (HN.out.later hB).f0; have f1 := (HN.out.later hB).f1))
  go_wp2_with fail
  have hBx := hBw.trans (hB.mono hBw.size)
  exact bodyPost_ret (v := sp x y) (by simp [results, Try.results66, go_sem, *]) rfl ⟨rfl, by go_grown⟩
end Go.Proofs.Ytpedmjjkhcigkaa
