/- The reference of layer 3: Blown, Blow, Roof. -/
import Derived.Test.YtpedmjjkhcigkaaGRoof
import Derived.Test.YtpedmjjkhcigkaaGROver
namespace Go.Proofs.Ytpedmjjkhcigkaa
open Go.RowKit

set_option maxRecDepth 100000 in
set_option maxHeartbeats 8000000 in
theorem rblown_any (rm gs w0 w1' bl bg ls ms p0 p1 t0 t1 : Int) (w : World) (hh : hullB rm gs w0 w1' bl bg ls ms = true) (ha : airB p0 p1 t0 t1 = true) :
    Calls Try.prog 95 #[hullV rm gs w0 w1' bl bg ls ms, airV p0 p1 t0 t1] w fun e w' => e = .returned (sp (rblowP rm gs w0 w1' bg ls ms p0 p1 t0 t1).1 (rblowP rm gs w0 w1' bg ls ms p0 p1 t0 t1).2) ∧ Below w.heap.size w w' := by
  obtain ⟨⟨r0, r1⟩, ⟨g0, g1⟩, ⟨x0, x1, x2⟩, ⟨b0, b1, b2⟩, l0, l1, l2⟩ := hull_ok hh
  obtain ⟨⟨p0', p1', p2'⟩, t0', t1', t2'⟩ := air_ok ha
  show Calls _ _ _ _ fun e w' => e = .returned (sp (blowLo rm gs w0 ls p1 t0) (blowHi rm gs w1' bg ms p0 t1)) ∧ Below w.heap.size w w'
  unfold blowLo blowHi
  obtain ⟨A, hA⟩ : ∃ x, (ls + p1) * rm = x := ⟨_, rfl⟩
  have ha0 : 0 ≤ A := by rw [← hA]; exact Int.mul_nonneg (by omega) (by omega)
  have ha1 : A ≤ 12500 * 10000000 := by rw [← hA]; exact Int.mul_le_mul (by omega) (by omega) (by omega) (by omega)
  obtain ⟨B, hB⟩ : ∃ x, gs * w0 = x := ⟨_, rfl⟩
  obtain ⟨hb0, hb1⟩ := mul_lim2 (x := gs) (y := w0) (m := 10000000) (n := 300) g0 g1 (by omega) (by omega)
  rw [hB] at hb0 hb1
  obtain ⟨C, hC⟩ : ∃ x, (ms + p0) * rm = x := ⟨_, rfl⟩
  have hc0 : 0 ≤ C := by rw [← hC]; exact Int.mul_nonneg (by omega) (by omega)
  have hc1 : C ≤ 12500 * 10000000 := by rw [← hC]; exact Int.mul_le_mul (by omega) (by omega) (by omega) (by omega)
  obtain ⟨D, hD⟩ : ∃ x, gs * w1' = x := ⟨_, rfl⟩
  obtain ⟨hd0, hd1⟩ := mul_lim2 (x := gs) (y := w1') (m := 10000000) (n := 300) g0 g1 (by omega) (by omega)
  rw [hD] at hd0 hd1
  rw [hA, hB, hC, hD]
  obtain ⟨q0, q1⟩ := cl_lim (n := A - B) (d := t0) (N := 12500 * 10000000 + 10000000 * 300) (by omega) (by omega) (by omega) (by omega)
  obtain ⟨q2, q3⟩ := fl_lim (n := C - D) (d := t1) (N := 12500 * 10000000 + 10000000 * 300) (by omega) (by omega) (by omega) (by omega)
  obtain ⟨lo, hlo⟩ : ∃ x, cl (A - B) t0 = x := ⟨_, rfl⟩
  obtain ⟨hi, hhi⟩ : ∃ x, fl (C - D) t1 = x := ⟨_, rfl⟩
  rw [hlo] at q0 q1 ⊢
  rw [hhi] at q2 q3 ⊢
  have v1 : IntKind.i64.wrap A = A := IntWalk.i64_in _ ⟨by omega, by omega⟩
  have v2 : IntKind.i64.wrap B = B := IntWalk.i64_in _ ⟨by omega, by omega⟩
  have v3 : IntKind.i64.wrap C = C := IntWalk.i64_in _ ⟨by omega, by omega⟩
  have v4 : IntKind.i64.wrap D = D := IntWalk.i64_in _ ⟨by omega, by omega⟩
  have v5 : IntKind.i64.wrap (A - B) = A - B := IntWalk.i64_in _ ⟨by omega, by omega⟩
  have v6 : IntKind.i64.wrap (C - D) = C - D := IntWalk.i64_in _ ⟨by omega, by omega⟩
  have v7 : IntKind.i64.wrap (ls + p1) = ls + p1 := IntWalk.i64_in _ ⟨by omega, by omega⟩
  have v8 : IntKind.i64.wrap (ms + p0) = ms + p0 := IntWalk.i64_in _ ⟨by omega, by omega⟩
  have v9 : IntKind.i64.wrap (lo - gs) = lo - gs := IntWalk.i64_in _ ⟨by omega, by omega⟩
  have v10 : IntKind.i64.wrap (hi - gs) = hi - gs := IntWalk.i64_in _ ⟨by omega, by omega⟩
  have HLo := Lib.hid hlo
  have HHi := Lib.hid hhi
  clear hlo hhi hh ha q0 q1 q2 q3
  go_enter Try.func95, Try.ntmps95
  go_wp2_with fail
  obtain ⟨W, hW⟩ : ∃ W, ((w.alloc (.cells #[.int .i64 rm, .int .i64 gs, .int .i64 w0, .int .i64 w1', .int .i64 bl, .int .i64 bg, .int .i64 ls, .int .i64 ms] 45)).alloc (.cells #[.int .i64 p0, .int .i64 p1, .int .i64 t0, .int .i64 t1] 27)).alloc (.cells #[.int .i64 0, .int .i64 0] 23) = W := ⟨_, rfl⟩
  obtain ⟨c0, c1, c2, c3, c4, c5, c6, c7⟩ : Eight W w.heap.size rm gs w0 w1' bl bg ls ms := by subst hW; exact ⟨by go_cell, by go_cell, by go_cell, by go_cell, by go_cell, by go_cell, by go_cell, by go_cell⟩
  obtain ⟨a0, a1, a2, a3⟩ : Four W (w.heap.size + 1) p0 p1 t0 t1 := by subst hW; exact ⟨by go_cell, by go_cell, by go_cell, by go_cell⟩
  obtain ⟨y0, y1, yf0, yf1⟩ : NewBox W (w.heap.size + 1 + 1) := by subst hW; exact ⟨by go_cell, by go_cell, by go_cell, by go_cell⟩
  have hBW : Below w.heap.size w W := by subst hW; go_grown
  rw [hW]
  clear hW
  go_region_held3 (fun w' => w'.cell? ⟨w.heap.size, 0, none⟩ = some (.int .i64 rm) ∧ w'.cell? ⟨w.heap.size, 1, none⟩ = some (.int .i64 gs) ∧ w'.cell? ⟨w.heap.size, 2, none⟩ = some (.int .i64 w0) ∧ w'.cell? ⟨w.heap.size, 3, none⟩ = some (.int .i64 w1') ∧ w'.cell? ⟨w.heap.size, 6, none⟩ = some (.int .i64 ls) ∧ w'.cell? ⟨w.heap.size, 7, none⟩ = some (.int .i64 ms) ∧
      w'.cell? ⟨w.heap.size + 1, 0, none⟩ = some (.int .i64 p0) ∧ w'.cell? ⟨w.heap.size + 1, 1, none⟩ = some (.int .i64 p1) ∧ w'.cell? ⟨w.heap.size + 1, 2, none⟩ = some (.int .i64 t0) ∧ w'.cell? ⟨w.heap.size + 1, 3, none⟩ = some (.int .i64 t1))
    (first | (go_split_ands; (repeat' apply And.intro) <;> assumption) | go_keep)
    (first
      | (go_at_call 72; refine (rceil_any (A - B) t0 _ (by omega) (by omega) (by omega) (by omega)).mono ?_; rintro e wx ⟨rfl, rfl⟩; rw [HLo.out]))
  go_wp2_with fail
  go_region_held3 (fun w' => w'.cell? ⟨w.heap.size, 0, none⟩ = some (.int .i64 rm) ∧ w'.cell? ⟨w.heap.size, 1, none⟩ = some (.int .i64 gs) ∧ w'.cell? ⟨w.heap.size, 2, none⟩ = some (.int .i64 w0) ∧ w'.cell? ⟨w.heap.size, 3, none⟩ = some (.int .i64 w1') ∧ w'.cell? ⟨w.heap.size, 6, none⟩ = some (.int .i64 ls) ∧ w'.cell? ⟨w.heap.size, 7, none⟩ = some (.int .i64 ms) ∧
      w'.cell? ⟨w.heap.size + 1, 0, none⟩ = some (.int .i64 p0) ∧ w'.cell? ⟨w.heap.size + 1, 1, none⟩ = some (.int .i64 p1) ∧ w'.cell? ⟨w.heap.size + 1, 2, none⟩ = some (.int .i64 t0) ∧ w'.cell? ⟨w.heap.size + 1, 3, none⟩ = some (.int .i64 t1))
    (first | (go_split_ands; (repeat' apply And.intro) <;> assumption) | go_keep)
    (first
      | (go_at_call 70; refine (rfloor_any (C - D) t1 _ (by omega) (by omega) (by omega) (by omega)).mono ?_; rintro e wx ⟨rfl, rfl⟩; rw [HHi.out]))
  go_wp2_with fail
  exact bodyPost_ret (v := sp (max (lo - gs) 0) (min (hi - gs) bg)) (by simp [results, Try.results95, go_sem, *]) rfl ⟨rfl, by go_grown⟩
end Go.Proofs.Ytpedmjjkhcigkaa
