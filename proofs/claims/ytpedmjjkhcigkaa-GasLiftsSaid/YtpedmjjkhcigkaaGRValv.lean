/- The reference of layer 3: Valving. -/
import Derived.Test.YtpedmjjkhcigkaaGValv
namespace Go.Proofs.Ytpedmjjkhcigkaa
open Go.RowKit

set_option maxRecDepth 100000 in
set_option maxHeartbeats 8000000 in
theorem rValv_any (rm he ar w0 w1' lk ow p0 p1 t0 t1 : Int) (w : World) :
    Calls Try.prog 28 #[cellV rm he ar w0 w1' lk ow, airV p0 p1 t0 t1] w fun e w' => e = valvE rm he ar w0 w1' lk ow p0 p1 t0 t1 ∧ Below w.heap.size w w' := by
  obtain ⟨n, hn⟩ : ∃ n, bothN rm he ar w0 w1' lk ow p0 p1 t0 t1 = n := ⟨_, rfl⟩
  have HN := Lib.hid hn
  have HV : Hid (n = 0 → cellB rm he ar w0 w1' lk ow = true ∧ airB p0 p1 t0 t1 = true) := Lib.hid (fun h => both_ok (hn.trans h))
  unfold valvE
  rw [hn]
  clear hn
  by_cases h0 : n = 0
  · subst h0
    rw [if_pos rfl]
    obtain ⟨hc, ha⟩ := HV.out rfl
    obtain ⟨⟨r0, r1⟩, ⟨h0, h1⟩, ⟨a0', a1'⟩, x0, x1, x2⟩ := cell_ok hc
    obtain ⟨⟨p0', p1', p2'⟩, t0', t1', t2'⟩ := air_ok ha
    obtain ⟨X, hX⟩ : ∃ X, rm * p1 = X := ⟨_, rfl⟩
    have lx0 : 0 ≤ X := by rw [← hX]; exact Int.mul_nonneg (by omega) (by omega)
    have lx1 : X ≤ 10000000 * 12000 := by rw [← hX]; exact Int.mul_le_mul (by omega) (by omega) (by omega) (by omega)
    have ex : IntKind.i64.wrap X = X := IntWalk.i64_in _ ⟨by omega, by omega⟩
    obtain ⟨Z, hZ⟩ : ∃ Z, rm * p0 = Z := ⟨_, rfl⟩
    have lz0 : 0 ≤ Z := by rw [← hZ]; exact Int.mul_nonneg (by omega) (by omega)
    have lz1 : Z ≤ 10000000 * 12000 := by rw [← hZ]; exact Int.mul_le_mul (by omega) (by omega) (by omega) (by omega)
    have ez : IntKind.i64.wrap Z = Z := IntWalk.i64_in _ ⟨by omega, by omega⟩
    rw [hX, hZ]
    obtain ⟨q0, q1⟩ := fl_lim (n := X) (d := t0 + w0) (N := 10000000 * 12000) (by omega) (by omega) (by omega) (by omega)
    obtain ⟨q2, q3⟩ := fl_lim (n := Z) (d := t1 + w1') (N := 10000000 * 12000) (by omega) (by omega) (by omega) (by omega)
    obtain ⟨lo, hlo⟩ : ∃ x, fl X (t0 + w0) = x := ⟨_, rfl⟩
    obtain ⟨hi, hhi⟩ : ∃ x, fl Z (t1 + w1') = x := ⟨_, rfl⟩
    rw [hlo] at q0 q1 ⊢
    rw [hhi] at q2 q3 ⊢
    have v1 : IntKind.i64.wrap (he + ar - lo) = he + ar - lo := IntWalk.i64_in _ ⟨by omega, by omega⟩
    have v2 : IntKind.i64.wrap (he + ar - hi) = he + ar - hi := IntWalk.i64_in _ ⟨by omega, by omega⟩
    have HLo := Lib.hid hlo
    have HHi := Lib.hid hhi
    clear hlo hhi hc ha HV q0 q1 q2 q3
    go_enter Try.func28, Try.ntmps28
    go_wp2_with fail
    refine (rasked_any rm he ar w0 w1' lk ow p0 p1 t0 t1 _).mono ?_
    rintro e w1 ⟨rfl, hb1⟩
    rw [HN.out]
    have hB1 : Below w.heap.size w w1 := (after (w := w) (by go_grown) hb1).1
    have K1 := Lib.hid (show Seven w1 w.heap.size rm he ar w0 w1' lk ow from Seven.later ⟨by go_cell, by go_cell, by go_cell, by go_cell, by go_cell, by go_cell, by go_cell⟩ hb1)
    have A1 := Lib.hid (show Four w1 (w.heap.size + 1) p0 p1 t0 t1 from Four.later ⟨by go_cell, by go_cell, by go_cell, by go_cell⟩ hb1)
    have N1 := Lib.hid (show NewBox w1 (w.heap.size + 1 + 1) from NewBox.later ⟨by go_cell, by go_cell, by go_cell, by go_cell⟩ hb1)
    clear hb1
    obtain ⟨c0, c1, c2, c3, c4, c5, c6⟩ := K1.out
    obtain ⟨a0, a1, a2, a3⟩ := A1.out
    go_wp2_with fail
    refine (rheat_any t0 t1 w0 w1' _ (by omega) (by omega) (by omega) (by omega) (by omega) (by omega) (by omega) (by omega)).mono ?_
    rintro e w2 ⟨rfl, hb2⟩
    have hB2 : Below w.heap.size w w2 := hB1.trans (hb2.mono hB1.size)
    have K2 := Lib.hid (K1.out.later hb2)
    have A2 := Lib.hid (A1.out.later hb2)
    have N2 := Lib.hid (N1.out.later hb2)
    clear hb2 hB1 c0 c1 c2 c3 c4 c5 c6 a0 a1 a2 a3 N1 A1 K1
    have hz := World.block_lt_of_cell? _ _ N2.out.c0
    go_wp2_with fail
    obtain ⟨W, hW⟩ : ∃ W, (w2.alloc (.cells #[.int .i64 (t0 + w0), .int .i64 (t1 + w1')] 23)) = W := ⟨_, rfl⟩
    have hWb : Below w2.heap.size w2 W := by subst hW; go_grown
    have hBW : Below w.heap.size w W := hB2.trans (hWb.mono hB2.size)
    have d0 : W.cell? ⟨w2.heap.size, 0, none⟩ = some (.int .i64 (t0 + w0)) := by subst hW; go_cell
    have d1 : W.cell? ⟨w2.heap.size, 1, none⟩ = some (.int .i64 (t1 + w1')) := by subst hW; go_cell
    have HNw := Lib.hid (N2.out.later hWb)
    obtain ⟨c0, c1, c2, c3, c4, c5, c6⟩ := K2.out.later hWb
    obtain ⟨a0, a1, a2, a3⟩ := A2.out.later hWb
    rw [hW]
    clear hW N2 K2 A2 hWb hB2
    have hB : Below W.heap.size W W := Below.refl _ _
    go_region_held3 (fun w' => w'.cell? ⟨w2.heap.size, 0, none⟩ = some (.int .i64 (t0 + w0)) ∧ w'.cell? ⟨w2.heap.size, 1, none⟩ = some (.int .i64 (t1 + w1')) ∧ w'.cell? ⟨w.heap.size + 1, 0, none⟩ = some (.int .i64 p0) ∧ w'.cell? ⟨w.heap.size + 1, 1, none⟩ = some (.int .i64 p1) ∧
        w'.cell? ⟨w.heap.size, 0, none⟩ = some (.int .i64 rm) ∧ w'.cell? ⟨w.heap.size, 1, none⟩ = some (.int .i64 he) ∧ w'.cell? ⟨w.heap.size, 2, none⟩ = some (.int .i64 ar) ∧ w'.cell? ⟨w.heap.size, 3, none⟩ = some (.int .i64 w0) ∧ w'.cell? ⟨w.heap.size, 4, none⟩ = some (.int .i64 w1') ∧ w'.cell? ⟨w.heap.size, 5, none⟩ = some (.int .i64 lk) ∧ w'.cell? ⟨w.heap.size, 6, none⟩ = some (.int .i64 ow))
      (first | (go_split_ands; (repeat' apply And.intro) <;> first | assumption | exact cell_later hb (by assumption) | ((repeat rw [cell_far _ _ (by omega)]); assumption)) | go_keep)
      (first
        | (go_at_call 71; refine (ramount_any _ _ _ _ _ _ _ _ h0 h1 a0' a1').mono ?_; rintro e wx ⟨rfl, hb⟩; have hB : Below W.heap.size W wx := (by first | exact chain hB hb | exact chainD hB hb); have c0' := (HNw.out.later hB).c0; have c1' := (HNw.out.later hB).c1; have f0 := (HNw.out.later hB).f0; have f1 := (HNw.out.later hB).f1)
        | (go_at_call 70; refine (rfloor_any _ _ _ (by omega) (by omega) (by omega) (by omega)).mono ?_; rintro e wx ⟨rfl, rfl⟩; (first | rw [HLo.out] | rw [HHi.out])))
    all_goals go_wp2_with fail
    all_goals have hBx := hBW.trans (hB.mono hBW.size)
    all_goals exact bodyPost_ret (v := .tuple #[sp (max 0 (he + ar - lo)) (max 0 (he + ar - hi)), .int .i64 0]) (by simp [results, Try.results28, go_sem, *]) rfl ⟨rfl, by go_grown⟩
  · rw [if_neg h0]
    go_enter Try.func28, Try.ntmps28
    go_wp2_with fail
    refine (rasked_any rm he ar w0 w1' lk ow p0 p1 t0 t1 _).mono ?_
    rintro e w1 ⟨rfl, hb1⟩
    rw [HN.out]
    have hB1 : Below w.heap.size w w1 := (after (w := w) (by go_grown) hb1).1
    obtain ⟨l0, l1, lf0, lf1⟩ := show NewBox w1 (w.heap.size + 1 + 1) from NewBox.later ⟨by go_cell, by go_cell, by go_cell, by go_cell⟩ hb1
    clear hb1 HV HN
    go_wp2_with fail
    exact bodyPost_ret (v := .tuple #[sp 0 0, .int .i64 n]) (by simp [results, Try.results28, go_sem, *]) rfl ⟨rfl, by go_grown⟩
end Go.Proofs.Ytpedmjjkhcigkaa
