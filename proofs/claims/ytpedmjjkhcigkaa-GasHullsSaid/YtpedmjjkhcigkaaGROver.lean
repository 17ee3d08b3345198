/- The reference of layer 3: ends, Over, holds, Holds. -/
import Derived.Test.YtpedmjjkhcigkaaGOver
namespace Go.Proofs.Ytpedmjjkhcigkaa
open Go.RowKit

theorem far2 {W : World} {b b' o : Nat} {x v v' : Value} (h : W.cell? ⟨b, o, none⟩ = some x) (hn : b ≠ b') : (((W.setCell ⟨b', 0, none⟩ v).setCell ⟨b', 1, none⟩ v').drew).cell? ⟨b, o, none⟩ = some x := by
  show ((W.setCell ⟨b', 0, none⟩ v).setCell ⟨b', 1, none⟩ v').cell? ⟨b, o, none⟩ = some x
  rw [cell_far _ _ hn, cell_far _ _ hn]; exact h

set_option maxRecDepth 100000 in
set_option maxHeartbeats 4000000 in
theorem rends_any (rm gs w0 w1' bl bg ls ms t0 t1 : Int) (w : World) (hg0 : 0 ≤ gs) (hg1 : gs ≤ 10000000) (hb0 : 0 ≤ bl) (hb1 : bl ≤ 10000000) (x0 : -300 ≤ w0) (x1 : w0 ≤ 300) (x2 : -300 ≤ w1') (x3 : w1' ≤ 300) (y0 : 1500 ≤ t0) (y1 : t0 ≤ 3500) (y2 : 1500 ≤ t1) (y3 : t1 ≤ 3500) :
    Calls Try.prog 91 #[hullV rm gs w0 w1' bl bg ls ms, sp t0 t1] w fun e w' => e = .returned (.tuple #[.int .i64 (endLo gs bl t0 w0), .int .i64 (endLo gs bl t1 w1')]) ∧ Below w.heap.size w w' := by
  obtain ⟨⟨m0, m1⟩, m2, m3⟩ := end_bound (gs := gs) (bl := bl) hg0 hg1 hb0 hb1 y0 y1 x0 x1
  obtain ⟨⟨m4, m5⟩, m6, m7⟩ := end_bound (gs := gs) (bl := bl) hg0 hg1 hb0 hb1 y2 y3 x2 x3
  unfold endLo
  obtain ⟨A, hA⟩ : ∃ x, (gs + bl) * t0 = x := ⟨_, rfl⟩
  obtain ⟨B, hB⟩ : ∃ x, gs * w0 = x := ⟨_, rfl⟩
  obtain ⟨C, hC⟩ : ∃ x, (gs + bl) * t1 = x := ⟨_, rfl⟩
  obtain ⟨D, hD⟩ : ∃ x, gs * w1' = x := ⟨_, rfl⟩
  rw [hA] at m0 m1 ⊢
  rw [hB] at m2 m3 ⊢
  rw [hC] at m4 m5 ⊢
  rw [hD] at m6 m7 ⊢
  have v1 : IntKind.i64.wrap A = A := IntWalk.i64_in _ ⟨by omega, by omega⟩
  have v2 : IntKind.i64.wrap B = B := IntWalk.i64_in _ ⟨by omega, by omega⟩
  have v3 : IntKind.i64.wrap C = C := IntWalk.i64_in _ ⟨by omega, by omega⟩
  have v4 : IntKind.i64.wrap D = D := IntWalk.i64_in _ ⟨by omega, by omega⟩
  have v5 : IntKind.i64.wrap (A + B) = A + B := IntWalk.i64_in _ ⟨by omega, by omega⟩
  have v6 : IntKind.i64.wrap (C + D) = C + D := IntWalk.i64_in _ ⟨by omega, by omega⟩
  have v7 : IntKind.i64.wrap (gs + bl) = gs + bl := IntWalk.i64_in _ ⟨by omega, by omega⟩
  go_enter Try.func91, Try.ntmps91
  go_wp2_with fail
  go_quiet (fail)
  go_wp2_with fail
  refine bodyPost_ret (v := .tuple #[.int .i64 (A + B), .int .i64 (C + D)]) (by simp [results, Try.results91, go_sem, *]) rfl ⟨rfl, below_drewN (by go_grown) _⟩

set_option maxRecDepth 100000 in
set_option maxHeartbeats 8000000 in
theorem rOver_any (rm gs w0 w1' bl bg ls ms p0 p1 t0 t1 : Int) (w : World) :
    Calls Try.prog 30 #[hullV rm gs w0 w1' bl bg ls ms, airV p0 p1 t0 t1] w fun e w' => e = overE rm gs w0 w1' bl bg ls ms p0 p1 t0 t1 ∧ Below w.heap.size w w' := by
  obtain ⟨n, hn⟩ : ∃ n, tightN rm gs w0 w1' bl bg ls ms p0 p1 t0 t1 = n := ⟨_, rfl⟩
  have HN := Lib.hid hn
  have HV : Hid (n = 0 → hullB rm gs w0 w1' bl bg ls ms = true ∧ airB p0 p1 t0 t1 = true) := Lib.hid (fun h => tight_ok (hn.trans h))
  unfold overE overLo overHi
  rw [hn]
  clear hn
  by_cases h0 : n = 0
  · subst h0
    rw [if_pos rfl]
    obtain ⟨⟨r0, r1⟩, ⟨g0, g1⟩, ⟨x0, x1, x2⟩, ⟨b0, b1, b2⟩, l0, l1, l2⟩ := hull_ok (HV.out rfl).1
    obtain ⟨⟨p0', p1', p2'⟩, t0', t1', t2'⟩ := air_ok (HV.out rfl).2
    obtain ⟨⟨m0, m1⟩, m2, m3⟩ := end_bound (gs := gs) (bl := bl) (t := t0) (u := w0) g0 g1 b0 (by omega) (by omega) (by omega) (by omega) (by omega)
    obtain ⟨⟨m4, m5⟩, m6, m7⟩ := end_bound (gs := gs) (bl := bl) (t := t1) (u := w1') g0 g1 b0 (by omega) (by omega) (by omega) (by omega) (by omega)
    have e0 : -(73000000000) ≤ endLo gs bl t0 w0 ∧ endLo gs bl t0 w0 ≤ 73000000000 := by unfold endLo; omega
    have e1 : -(73000000000) ≤ endLo gs bl t1 w1' ∧ endLo gs bl t1 w1' ≤ 73000000000 := by unfold endLo; omega
    obtain ⟨q0, q1⟩ := fl_lim (n := endLo gs bl t0 w0) (d := rm) (N := 73000000000) r0 (by omega) e0.1 e0.2
    obtain ⟨q2, q3⟩ := cl_lim (n := endLo gs bl t1 w1') (d := rm) (N := 73000000000) r0 (by omega) e1.1 e1.2
    obtain ⟨X, hX⟩ : ∃ x, endLo gs bl t0 w0 = x := ⟨_, rfl⟩
    obtain ⟨Z, hZ⟩ : ∃ x, endLo gs bl t1 w1' = x := ⟨_, rfl⟩
    rw [hX] at e0 q0 q1 ⊢
    rw [hZ] at e1 q2 q3 ⊢
    obtain ⟨lo, hlo⟩ : ∃ x, fl X rm = x := ⟨_, rfl⟩
    obtain ⟨hi, hhi⟩ : ∃ x, cl Z rm = x := ⟨_, rfl⟩
    rw [hlo] at q0 q1 ⊢
    rw [hhi] at q2 q3 ⊢
    have v1 : IntKind.i64.wrap (lo - p1) = lo - p1 := IntWalk.i64_in _ ⟨by omega, by omega⟩
    have v2 : IntKind.i64.wrap (hi - p0) = hi - p0 := IntWalk.i64_in _ ⟨by omega, by omega⟩
    have HLo := Lib.hid hlo
    have HHi := Lib.hid hhi
    have HX := Lib.hid hX
    have HZ := Lib.hid hZ
    clear hlo hhi hX hZ m0 m1 m2 m3 m4 m5 m6 m7 q0 q1 q2 q3 HV
    go_enter Try.func30, Try.ntmps30
    go_wp2_with fail
    refine (rtight_any rm gs w0 w1' bl bg ls ms p0 p1 t0 t1 _).mono ?_
    rintro e w1 ⟨rfl, hb1⟩
    rw [HN.out]
    have hB1 : Below w.heap.size w w1 := (after (w := w) (by go_grown) hb1).1
    have K1 := Lib.hid (show Eight w1 w.heap.size rm gs w0 w1' bl bg ls ms from Eight.later ⟨by go_cell, by go_cell, by go_cell, by go_cell, by go_cell, by go_cell, by go_cell, by go_cell⟩ hb1)
    have A1 := Lib.hid (show Four w1 (w.heap.size + 1) p0 p1 t0 t1 from Four.later ⟨by go_cell, by go_cell, by go_cell, by go_cell⟩ hb1)
    have N1 := Lib.hid (show NewBox w1 (w.heap.size + 1 + 1) from NewBox.later ⟨by go_cell, by go_cell, by go_cell, by go_cell⟩ hb1)
    clear hb1
    obtain ⟨c0, c1, c2, c3, c4, c5, c6, c7⟩ := K1.out
    obtain ⟨a0, a1, a2, a3⟩ := A1.out
    go_wp2_with fail
    refine (rends_any rm gs w0 w1' bl bg ls ms t0 t1 _ (by omega) (by omega) (by omega) (by omega) (by omega) (by omega) (by omega) (by omega) (by omega) (by omega) (by omega) (by omega)).mono ?_
    rintro e w2 ⟨rfl, hb2⟩
    rw [HX.out, HZ.out]
    have hB2 : Below w.heap.size w w2 := hB1.trans (hb2.mono hB1.size)
    have c0' := cell_later hb2 c0
    have a0' := cell_later hb2 a0
    have a1' := cell_later hb2 a1
    obtain ⟨u0, u1, uf0, uf1⟩ := N1.out.later hb2
    clear hb2 hB1 c0 c1 c2 c3 c4 c5 c6 c7 a0 a1 a2 a3 N1 A1 K1
    go_wp2_with fail
    go_region_held3 (fun w' => w'.cell? ⟨w.heap.size, 0, none⟩ = some (.int .i64 rm) ∧ w'.cell? ⟨w.heap.size + 1, 0, none⟩ = some (.int .i64 p0) ∧ w'.cell? ⟨w.heap.size + 1, 1, none⟩ = some (.int .i64 p1))
      (first | (go_split_ands; (repeat' apply And.intro) <;> first | assumption | exact far2 (by assumption) (by omega)) | go_keep)
      (first
        | (go_at_call 70; refine (rfloor_any X rm _ (by omega) (by omega) (by omega) (by omega)).mono ?_; rintro e wx ⟨rfl, rfl⟩; rw [HLo.out])
        | (go_at_call 72; refine (rceil_any Z rm _ (by omega) (by omega) (by omega) (by omega)).mono ?_; rintro e wx ⟨rfl, rfl⟩; rw [HHi.out]))
    all_goals go_wp2_with fail
    all_goals exact bodyPost_ret (v := .tuple #[sp (lo - p1) (hi - p0), .int .i64 0]) (by simp [results, Try.results30, go_sem, *]) rfl ⟨rfl, by go_grown⟩
  · rw [if_neg h0]
    go_enter Try.func30, Try.ntmps30
    go_wp2_with fail
    refine (rtight_any rm gs w0 w1' bl bg ls ms p0 p1 t0 t1 _).mono ?_
    rintro e w1 ⟨rfl, hb1⟩
    rw [HN.out]
    have hB1 : Below w.heap.size w w1 := (after (w := w) (by go_grown) hb1).1
    have K1 := Lib.hid (show Eight w1 w.heap.size rm gs w0 w1' bl bg ls ms from Eight.later ⟨by go_cell, by go_cell, by go_cell, by go_cell, by go_cell, by go_cell, by go_cell, by go_cell⟩ hb1)
    have A1 := Lib.hid (show Four w1 (w.heap.size + 1) p0 p1 t0 t1 from Four.later ⟨by go_cell, by go_cell, by go_cell, by go_cell⟩ hb1)
    obtain ⟨l0, l1, lf0, lf1⟩ := show NewBox w1 (w.heap.size + 1 + 1) from NewBox.later ⟨by go_cell, by go_cell, by go_cell, by go_cell⟩ hb1
    clear hb1 HV HN K1 A1
    go_wp2_with fail
    exact bodyPost_ret (v := .tuple #[sp 0 0, .int .i64 n]) (by simp [results, Try.results30, go_sem, *]) rfl ⟨rfl, by go_grown⟩

set_option maxRecDepth 100000 in
set_option maxHeartbeats 4000000 in
theorem rholds_any (rm gs w0 w1' bl bg ls ms p0 p1 t0 t1 : Int) (w : World) (hh : hullB rm gs w0 w1' bl bg ls ms = true) (ha : airB p0 p1 t0 t1 = true) :
    Calls Try.prog 92 #[hullV rm gs w0 w1' bl bg ls ms, airV p0 p1 t0 t1] w fun e w' => e = .returned (.bool (holdB rm gs w0 w1' bl ls ms p0 p1 t0 t1)) ∧ Below w.heap.size w w' := by
  obtain ⟨⟨r0, r1⟩, ⟨g0, g1⟩, ⟨x0, x1, x2⟩, ⟨b0, b1, b2⟩, l0, l1, l2⟩ := hull_ok hh
  obtain ⟨⟨p0', p1', p2'⟩, t0', t1', t2'⟩ := air_ok ha
  unfold holdB
  obtain ⟨X, hX⟩ : ∃ x, endLo gs bl t0 w0 = x := ⟨_, rfl⟩
  obtain ⟨Z, hZ⟩ : ∃ x, endLo gs bl t1 w1' = x := ⟨_, rfl⟩
  rw [hX, hZ]
  obtain ⟨P, hP⟩ : ∃ x, (ls + p1) * rm = x := ⟨_, rfl⟩
  have lp0 : 0 ≤ P := by rw [← hP]; exact Int.mul_nonneg (by omega) (by omega)
  have lp1 : P ≤ 12500 * 10000000 := by rw [← hP]; exact Int.mul_le_mul (by omega) (by omega) (by omega) (by omega)
  have ep : IntKind.i64.wrap P = P := IntWalk.i64_in _ ⟨by omega, by omega⟩
  obtain ⟨V, hV⟩ : ∃ x, (ms + p0) * rm = x := ⟨_, rfl⟩
  have lv0 : 0 ≤ V := by rw [← hV]; exact Int.mul_nonneg (by omega) (by omega)
  have lv1 : V ≤ 12500 * 10000000 := by rw [← hV]; exact Int.mul_le_mul (by omega) (by omega) (by omega) (by omega)
  have ev : IntKind.i64.wrap V = V := IntWalk.i64_in _ ⟨by omega, by omega⟩
  have s1 : IntKind.i64.wrap (ls + p1) = ls + p1 := IntWalk.i64_in _ ⟨by omega, by omega⟩
  have s2 : IntKind.i64.wrap (ms + p0) = ms + p0 := IntWalk.i64_in _ ⟨by omega, by omega⟩
  rw [hP, hV]
  have HX := Lib.hid hX
  have HZ := Lib.hid hZ
  clear hX hZ hh ha
  go_enter Try.func92, Try.ntmps92
  go_wp2_with fail
  refine (rends_any rm gs w0 w1' bl bg ls ms t0 t1 _ (by omega) (by omega) (by omega) (by omega) (by omega) (by omega) (by omega) (by omega) (by omega) (by omega) (by omega) (by omega)).mono ?_
  rintro e w1 ⟨rfl, hb1⟩
  rw [HX.out, HZ.out]
  have hB1 : Below w.heap.size w w1 := (after (w := w) (by go_grown) hb1).1
  obtain ⟨c0, c1, c2, c3, c4, c5, c6, c7⟩ := show Eight w1 w.heap.size rm gs w0 w1' bl bg ls ms from Eight.later ⟨by go_cell, by go_cell, by go_cell, by go_cell, by go_cell, by go_cell, by go_cell, by go_cell⟩ hb1
  obtain ⟨a0, a1, a2, a3⟩ := show Four w1 (w.heap.size + 1) p0 p1 t0 t1 from Four.later ⟨by go_cell, by go_cell, by go_cell, by go_cell⟩ hb1
  clear hb1
  by_cases q1 : P ≤ X
  · have hd1 : decide (P ≤ X) = true := by simpa using q1
    go_wp2_with fail
    go_returns
    exact ⟨ret_bool (by rw [hd1, Bool.true_and]), hB1⟩
  · have hd1 : decide (P ≤ X) = false := by simpa using q1
    go_wp2_with fail
    go_returns
    exact ⟨ret_bool (by rw [hd1, Bool.false_and]), hB1⟩
set_option maxRecDepth 100000 in
set_option maxHeartbeats 4000000 in
theorem rHolds_any (rm gs w0 w1' bl bg ls ms p0 p1 t0 t1 : Int) (w : World) :
    Calls Try.prog 32 #[hullV rm gs w0 w1' bl bg ls ms, airV p0 p1 t0 t1] w fun e w' => e = holdE rm gs w0 w1' bl bg ls ms p0 p1 t0 t1 ∧ Below w.heap.size w w' := by
  obtain ⟨n, hn⟩ : ∃ n, tightN rm gs w0 w1' bl bg ls ms p0 p1 t0 t1 = n := ⟨_, rfl⟩
  have HN := Lib.hid hn
  have HV : Hid (n = 0 → hullB rm gs w0 w1' bl bg ls ms = true ∧ airB p0 p1 t0 t1 = true) := Lib.hid (fun h => tight_ok (hn.trans h))
  unfold holdE
  rw [hn]
  clear hn
  by_cases h0 : n = 0
  · subst h0
    rw [if_pos rfl]
    obtain ⟨u, hu⟩ : ∃ u, holdB rm gs w0 w1' bl ls ms p0 p1 t0 t1 = u := ⟨_, rfl⟩
    rw [hu]
    have HU := Lib.hid hu
    clear hu
    go_enter Try.func32, Try.ntmps32
    go_wp2_with fail
    refine (rtight_any rm gs w0 w1' bl bg ls ms p0 p1 t0 t1 _).mono ?_
    rintro e w1 ⟨rfl, hb1⟩
    rw [HN.out]
    have hB1 : Below w.heap.size w w1 := (after (w := w) (by go_grown) hb1).1
    have K1 := Lib.hid (show Eight w1 w.heap.size rm gs w0 w1' bl bg ls ms from Eight.later ⟨by go_cell, by go_cell, by go_cell, by go_cell, by go_cell, by go_cell, by go_cell, by go_cell⟩ hb1)
    have A1 := Lib.hid (show Four w1 (w.heap.size + 1) p0 p1 t0 t1 from Four.later ⟨by go_cell, by go_cell, by go_cell, by go_cell⟩ hb1)
    clear hb1
    obtain ⟨c0, c1, c2, c3, c4, c5, c6, c7⟩ := K1.out
    obtain ⟨a0, a1, a2, a3⟩ := A1.out
    go_wp2_with fail
    refine (rholds_any rm gs w0 w1' bl bg ls ms p0 p1 t0 t1 _ (HV.out (by trivial)).1 (HV.out (by trivial)).2).mono ?_
    rintro e w2 ⟨rfl, hb2⟩
    rw [HU.out]
    have hB2 : Below w.heap.size w w2 := hB1.trans (hb2.mono hB1.size)
    clear hb2 hB1 c0 c1 c2 c3 c4 c5 c6 c7 a0 a1 a2 a3 A1 K1
    go_wp2_with fail
    exact bodyPost_ret (v := .tuple #[.bool u, .int .i64 0]) (by simp [results, Try.results32, go_sem, *]) rfl ⟨rfl, by go_grown⟩
  · rw [if_neg h0]
    go_enter Try.func32, Try.ntmps32
    go_wp2_with fail
    refine (rtight_any rm gs w0 w1' bl bg ls ms p0 p1 t0 t1 _).mono ?_
    rintro e w1 ⟨rfl, hb1⟩
    rw [HN.out]
    have hB1 : Below w.heap.size w w1 := (after (w := w) (by go_grown) hb1).1
    have K1 := Lib.hid (show Eight w1 w.heap.size rm gs w0 w1' bl bg ls ms from Eight.later ⟨by go_cell, by go_cell, by go_cell, by go_cell, by go_cell, by go_cell, by go_cell, by go_cell⟩ hb1)
    have A1 := Lib.hid (show Four w1 (w.heap.size + 1) p0 p1 t0 t1 from Four.later ⟨by go_cell, by go_cell, by go_cell, by go_cell⟩ hb1)
    clear hb1 HV HN K1 A1
    go_wp2_with fail
    exact bodyPost_ret (v := .tuple #[.bool false, .int .i64 n]) (by simp [results, Try.results32, go_sem, *]) rfl ⟨rfl, by go_grown⟩
end Go.Proofs.Ytpedmjjkhcigkaa
