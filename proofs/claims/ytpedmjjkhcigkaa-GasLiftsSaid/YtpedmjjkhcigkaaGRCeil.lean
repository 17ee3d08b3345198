/- The reference of layer 3: Ceiling. -/
import Derived.Test.YtpedmjjkhcigkaaGCeil
namespace Go.Proofs.Ytpedmjjkhcigkaa
open Go.RowKit

theorem rCell_again (rm he ar w0 w1' lk ow : Int) (w : World) : Calls Try.prog 80 #[cellV rm he ar w0 w1' lk ow] w fun e w' => e = .returned (.bool (cellB rm he ar w0 w1' lk ow)) ∧ Below w.heap.size w w' := rCell_any rm he ar w0 w1' lk ow w

set_option maxRecDepth 100000 in
set_option maxHeartbeats 8000000 in
theorem rCeil_any (rm he ar w0 w1' lk ow t0 t1 : Int) (w : World) :
    Calls Try.prog 26 #[cellV rm he ar w0 w1' lk ow, sp t0 t1] w fun e w' => e = ceilE rm he ar w0 w1' lk ow t0 t1 ∧ Below w.heap.size w w' := by
  unfold ceilE ceilN
  by_cases hc : cellB rm he ar w0 w1' lk ow = true
  · by_cases ha : spB t0 t1 1500 3500 = true
    · rw [if_pos hc, if_pos ha, if_pos rfl]
      obtain ⟨⟨r0, r1⟩, ⟨h0, h1⟩, ⟨a0', a1'⟩, x0, x1, x2⟩ := cell_ok hc
      have ha2 := ha
      unfold spB at ha2
      simp at ha2
      obtain ⟨t0', t1', t2'⟩ := ha2
      obtain ⟨X, hX⟩ : ∃ X, (he + ar) * (t0 + w0) = X := ⟨_, rfl⟩
      have lx0 : 0 ≤ X := by rw [← hX]; exact Int.mul_nonneg (by omega) (by omega)
      have lx1 : X ≤ 20000000 * 3800 := by rw [← hX]; exact Int.mul_le_mul (by omega) (by omega) (by omega) (by omega)
      have ex : IntKind.i64.wrap X = X := IntWalk.i64_in _ ⟨by omega, by omega⟩
      obtain ⟨Z, hZ⟩ : ∃ Z, (he + ar) * (t1 + w1') = Z := ⟨_, rfl⟩
      have lz0 : 0 ≤ Z := by rw [← hZ]; exact Int.mul_nonneg (by omega) (by omega)
      have lz1 : Z ≤ 20000000 * 3800 := by rw [← hZ]; exact Int.mul_le_mul (by omega) (by omega) (by omega) (by omega)
      have ez : IntKind.i64.wrap Z = Z := IntWalk.i64_in _ ⟨by omega, by omega⟩
      rw [hX, hZ]
      obtain ⟨lo, hlo⟩ : ∃ x, fl X rm = x := ⟨_, rfl⟩
      obtain ⟨hi, hhi⟩ : ∃ x, cl Z rm = x := ⟨_, rfl⟩
      rw [hlo, hhi]
      have HLo := Lib.hid hlo
      have HHi := Lib.hid hhi
      have HC := Lib.hid hc
      have HA := Lib.hid ha
      clear hlo hhi hc ha
      go_enter Try.func26, Try.ntmps26
      go_wp2_with fail
      refine (rCell_any rm he ar w0 w1' lk ow _).mono ?_
      rintro e w1 ⟨rfl, hb1⟩
      rw [HC.out]
      have hB1 : Below w.heap.size w w1 := (after (w := w) (by go_grown) hb1).1
      have K1 := Lib.hid (show Seven w1 w.heap.size rm he ar w0 w1' lk ow from Seven.later ⟨by go_cell, by go_cell, by go_cell, by go_cell, by go_cell, by go_cell, by go_cell⟩ hb1)
      have A1 := Lib.hid (show Two2 w1 (w.heap.size + 1) t0 t1 from Two2.later ⟨by go_cell, by go_cell⟩ hb1)
      have N1 := Lib.hid (show NewBox w1 (w.heap.size + 1 + 1) from NewBox.later ⟨by go_cell, by go_cell, by go_cell, by go_cell⟩ hb1)
      clear hb1
      obtain ⟨a0, a1⟩ := A1.out
      go_wp2_with fail
      refine (rTemp_any t0 t1 _).mono ?_
      rintro e w3 ⟨rfl, hb3⟩
      rw [HA.out]
      have hB3 : Below w.heap.size w w3 := hB1.trans (hb3.mono hB1.size)
      have K3 := Lib.hid (K1.out.later hb3)
      have A3 := Lib.hid (A1.out.later hb3)
      have N3 := Lib.hid (N1.out.later hb3)
      clear hb3 hB1 K1 A1 N1 a0 a1
      obtain ⟨c0, c1, c2, c3, c4, c5, c6⟩ := K3.out
      obtain ⟨a0, a1⟩ := A3.out
      go_wp2_with fail
      refine (rheat_any t0 t1 w0 w1' _ (by omega) (by omega) (by omega) (by omega) (by omega) (by omega) (by omega) (by omega)).mono ?_
      rintro e w2 ⟨rfl, hb2⟩
      have hB2 : Below w.heap.size w w2 := hB3.trans (hb2.mono hB3.size)
      have K2 := Lib.hid (K3.out.later hb2)
      have N2 := Lib.hid (N3.out.later hb2)
      clear hb2 hB3 c0 c1 c2 c3 c4 c5 c6 a0 a1 N3 A3 K3
      have hz := World.block_lt_of_cell? _ _ N2.out.c0
      go_wp2_with fail
      obtain ⟨W, hW⟩ : ∃ W, (w2.alloc (.cells #[.int .i64 (t0 + w0), .int .i64 (t1 + w1')] 23)) = W := ⟨_, rfl⟩
      have hWb : Below w2.heap.size w2 W := by subst hW; go_grown
      have hBW : Below w.heap.size w W := hB2.trans (hWb.mono hB2.size)
      have d0 : W.cell? ⟨w2.heap.size, 0, none⟩ = some (.int .i64 (t0 + w0)) := by subst hW; go_cell
      have d1 : W.cell? ⟨w2.heap.size, 1, none⟩ = some (.int .i64 (t1 + w1')) := by subst hW; go_cell
      have HNw := Lib.hid (N2.out.later hWb)
      obtain ⟨c0, c1, c2, c3, c4, c5, c6⟩ := K2.out.later hWb
      rw [hW]
      clear hW N2 K2 hWb hB2
      have hB : Below W.heap.size W W := Below.refl _ _
      go_region_held3 (fun w' => w'.cell? ⟨w2.heap.size, 0, none⟩ = some (.int .i64 (t0 + w0)) ∧ w'.cell? ⟨w2.heap.size, 1, none⟩ = some (.int .i64 (t1 + w1')) ∧
          w'.cell? ⟨w.heap.size, 0, none⟩ = some (.int .i64 rm) ∧ w'.cell? ⟨w.heap.size, 1, none⟩ = some (.int .i64 he) ∧ w'.cell? ⟨w.heap.size, 2, none⟩ = some (.int .i64 ar) ∧ w'.cell? ⟨w.heap.size, 3, none⟩ = some (.int .i64 w0) ∧ w'.cell? ⟨w.heap.size, 4, none⟩ = some (.int .i64 w1') ∧ w'.cell? ⟨w.heap.size, 5, none⟩ = some (.int .i64 lk) ∧ w'.cell? ⟨w.heap.size, 6, none⟩ = some (.int .i64 ow))
        (first | (go_split_ands; (repeat' apply And.intro) <;> first | assumption | exact cell_later hb (by assumption) | ((repeat rw [cell_far _ _ (by omega)]); assumption)) | go_keep)
        (first
          | (go_at_call 71; refine (ramount_any _ _ _ _ _ _ _ _ h0 h1 a0' a1').mono ?_; rintro e wx ⟨rfl, hb⟩; have hB : Below W.heap.size W wx := (by first | exact chain hB hb | exact chainD hB hb); have c0' := (HNw.out.later hB).c0; have c1' := (HNw.out.later hB).c1; have f0 := (HNw.out.later hB).f0; have f1 := (HNw.out.later hB).f1)
          | (go_at_call 70; refine (rfloor_any X rm _ (by omega) (by omega) (by omega) (by omega)).mono ?_; rintro e wx ⟨rfl, rfl⟩; rw [HLo.out])
          | (go_at_call 72; refine (rceil_any Z rm _ (by omega) (by omega) (by omega) (by omega)).mono ?_; rintro e wx ⟨rfl, rfl⟩; rw [HHi.out]))
      all_goals go_wp2_with fail
      all_goals have hBx := hBW.trans (hB.mono hBW.size)
      all_goals exact bodyPost_ret (v := .tuple #[sp lo hi, .int .i64 0]) (by simp [results, Try.results26, go_sem, *]) rfl ⟨rfl, by go_grown⟩
    · have ha' : spB t0 t1 1500 3500 = false := by simpa using ha
      rw [if_pos hc, ha', if_neg (by simp), if_neg (by simp)]
      have HC := Lib.hid hc
      have HA := Lib.hid ha'
      clear hc ha ha'
      go_enter Try.func26, Try.ntmps26
      go_wp2_with fail
      refine (rCell_any rm he ar w0 w1' lk ow _).mono ?_
      rintro e w1 ⟨rfl, hb1⟩
      rw [HC.out]
      have hB1 : Below w.heap.size w w1 := (after (w := w) (by go_grown) hb1).1
      have A1 := Lib.hid (show Two2 w1 (w.heap.size + 1) t0 t1 from Two2.later ⟨by go_cell, by go_cell⟩ hb1)
      have N1 := Lib.hid (show NewBox w1 (w.heap.size + 1 + 1) from NewBox.later ⟨by go_cell, by go_cell, by go_cell, by go_cell⟩ hb1)
      clear hb1
      obtain ⟨a0, a1⟩ := A1.out
      go_wp2_with fail
      refine (rTemp_any t0 t1 _).mono ?_
      rintro e w3 ⟨rfl, hb3⟩
      rw [HA.out]
      have hB3 : Below w.heap.size w w3 := hB1.trans (hb3.mono hB1.size)
      obtain ⟨l0, l1, lf0, lf1⟩ := N1.out.later hb3
      clear hb3 hB1 A1 N1 a0 a1
      go_wp2_with fail
      exact bodyPost_ret (v := .tuple #[sp 0 0, .int .i64 2]) (by simp [results, Try.results26, go_sem, *]) rfl ⟨rfl, by go_grown⟩
  · have hc' : cellB rm he ar w0 w1' lk ow = false := by simpa using hc
    rw [if_neg hc, if_neg (by omega)]
    have HC := Lib.hid hc'
    clear hc hc'
    go_enter Try.func26, Try.ntmps26
    go_wp2_with fail
    refine (rCell_any rm he ar w0 w1' lk ow _).mono ?_
    rintro e w1 ⟨rfl, hb1⟩
    rw [HC.out]
    have hB1 : Below w.heap.size w w1 := (after (w := w) (by go_grown) hb1).1
    obtain ⟨l0, l1, lf0, lf1⟩ := show NewBox w1 (w.heap.size + 1 + 1) from NewBox.later ⟨by go_cell, by go_cell, by go_cell, by go_cell⟩ hb1
    clear hb1
    go_wp2_with fail
    exact bodyPost_ret (v := .tuple #[sp 0 0, .int .i64 31]) (by simp [results, Try.results26, go_sem, *]) rfl ⟨rfl, by go_grown⟩
end Go.Proofs.Ytpedmjjkhcigkaa
