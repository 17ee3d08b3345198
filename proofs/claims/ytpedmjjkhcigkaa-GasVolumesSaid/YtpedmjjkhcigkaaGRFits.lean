/- The reference of layer 3: state, Fits. -/
import Derived.Test.YtpedmjjkhcigkaaGRVol
namespace Go.Proofs.Ytpedmjjkhcigkaa
open Go.RowKit

set_option maxHeartbeats 8000000 in
theorem state_any (rm he ar w0 w1' lk ow p0 p1 t0 t1 : Int) (w : World) (hc : cellB rm he ar w0 w1' lk ow = true) (ha : airB p0 p1 t0 t1 = true) :
    Calls Try.prog 74 #[cellV rm he ar w0 w1' lk ow, airV p0 p1 t0 t1] w fun e w' => e = .returned (.int .u8 (fitsN (he + ar) rm p0 p1 t0 t1 w0 w1')) ∧ Below w.heap.size w w' := by
  obtain ⟨⟨r0, r1⟩, ⟨h0, h1⟩, ⟨a0', a1'⟩, x0, x1, x2⟩ := cell_ok hc
  obtain ⟨⟨p0', p1', p2'⟩, t0', t1', t2'⟩ := air_ok ha
  unfold fitsN
  obtain ⟨X, hX⟩ : ∃ X, (he + ar) * (t0 + w0) = X := ⟨_, rfl⟩
  have lx0 : 0 ≤ X := by rw [← hX]; exact Int.mul_nonneg (by omega) (by omega)
  have lx1 : X ≤ 20000000 * 3800 := by rw [← hX]; exact Int.mul_le_mul (by omega) (by omega) (by omega) (by omega)
  have ex : IntKind.i64.wrap X = X := IntWalk.i64_in _ ⟨by omega, by omega⟩
  obtain ⟨Z, hZ⟩ : ∃ Z, (he + ar) * (t1 + w1') = Z := ⟨_, rfl⟩
  have lz0 : 0 ≤ Z := by rw [← hZ]; exact Int.mul_nonneg (by omega) (by omega)
  have lz1 : Z ≤ 20000000 * 3800 := by rw [← hZ]; exact Int.mul_le_mul (by omega) (by omega) (by omega) (by omega)
  have ez : IntKind.i64.wrap Z = Z := IntWalk.i64_in _ ⟨by omega, by omega⟩
  obtain ⟨P, hP⟩ : ∃ Z, rm * p0 = Z := ⟨_, rfl⟩
  have lp0 : 0 ≤ P := by rw [← hP]; exact Int.mul_nonneg (by omega) (by omega)
  have lp1 : P ≤ 10000000 * 12000 := by rw [← hP]; exact Int.mul_le_mul (by omega) (by omega) (by omega) (by omega)
  have ep : IntKind.i64.wrap P = P := IntWalk.i64_in _ ⟨by omega, by omega⟩
  obtain ⟨V, hV⟩ : ∃ Z, rm * p1 = Z := ⟨_, rfl⟩
  have lv0 : 0 ≤ V := by rw [← hV]; exact Int.mul_nonneg (by omega) (by omega)
  have lv1 : V ≤ 10000000 * 12000 := by rw [← hV]; exact Int.mul_le_mul (by omega) (by omega) (by omega) (by omega)
  have ev : IntKind.i64.wrap V = V := IntWalk.i64_in _ ⟨by omega, by omega⟩
  rw [hX, hZ, hP, hV]
  obtain ⟨u, hu⟩ : ∃ u : Int, (if Z ≤ P then 1 else if V < X then 3 else 2) = u := ⟨_, rfl⟩
  rw [hu]
  have HU := Lib.hid hu
  clear hc ha hu
  go_enter Try.func74, Try.ntmps74
  go_wp2_with fail
  refine (rheat_any t0 t1 w0 w1' _ (by omega) (by omega) (by omega) (by omega) (by omega) (by omega) (by omega) (by omega)).mono ?_
  rintro e w1 ⟨rfl, hb1⟩
  have hB1 : Below w.heap.size w w1 := (after (w := w) (by go_grown) hb1).1
  have K1 := Lib.hid (show Seven w1 w.heap.size rm he ar w0 w1' lk ow from Seven.later ⟨by go_cell, by go_cell, by go_cell, by go_cell, by go_cell, by go_cell, by go_cell⟩ hb1)
  have A1 := Lib.hid (show Four w1 (w.heap.size + 1) p0 p1 t0 t1 from Four.later ⟨by go_cell, by go_cell, by go_cell, by go_cell⟩ hb1)
  clear hb1
  have hz := World.block_lt_of_cell? _ _ A1.out.c0
  go_wp2_with fail
  obtain ⟨W, hW⟩ : ∃ W, (w1.alloc (.cells #[.int .i64 (t0 + w0), .int .i64 (t1 + w1')] 23)) = W := ⟨_, rfl⟩
  have hWb : Below w1.heap.size w1 W := by subst hW; go_grown
  have hBW : Below w.heap.size w W := hB1.trans (hWb.mono hB1.size)
  have d0 : W.cell? ⟨w1.heap.size, 0, none⟩ = some (.int .i64 (t0 + w0)) := by subst hW; go_cell
  have d1 : W.cell? ⟨w1.heap.size, 1, none⟩ = some (.int .i64 (t1 + w1')) := by subst hW; go_cell
  have D0 := Lib.hid d0
  have D1 := Lib.hid d1
  have KW := Lib.hid (K1.out.later hWb)
  have AW := Lib.hid (A1.out.later hWb)
  obtain ⟨c0, c1, c2, c3, c4, c5, c6⟩ := KW.out
  obtain ⟨a0, a1, a2, a3⟩ := AW.out
  rw [hW]
  clear hW K1 A1 hWb hB1
  have hB : Below W.heap.size W W := Below.refl _ _
  by_cases q1 : Z ≤ P
  · have hd1 : decide (Z ≤ P) = true := by simpa using q1
    have HQ : Hid (u = 1) := Lib.hid (by rw [← HU.out, if_pos q1])
    clear q1
    go_region_held3 (fun w' => w'.cell? ⟨w1.heap.size, 0, none⟩ = some (.int .i64 (t0 + w0)) ∧ w'.cell? ⟨w1.heap.size, 1, none⟩ = some (.int .i64 (t1 + w1')) ∧ w'.cell? ⟨w.heap.size + 1, 0, none⟩ = some (.int .i64 p0) ∧ w'.cell? ⟨w.heap.size + 1, 1, none⟩ = some (.int .i64 p1) ∧
        w'.cell? ⟨w.heap.size, 0, none⟩ = some (.int .i64 rm) ∧ w'.cell? ⟨w.heap.size, 1, none⟩ = some (.int .i64 he) ∧ w'.cell? ⟨w.heap.size, 2, none⟩ = some (.int .i64 ar) ∧ w'.cell? ⟨w.heap.size, 3, none⟩ = some (.int .i64 w0) ∧ w'.cell? ⟨w.heap.size, 4, none⟩ = some (.int .i64 w1') ∧ w'.cell? ⟨w.heap.size, 5, none⟩ = some (.int .i64 lk) ∧ w'.cell? ⟨w.heap.size, 6, none⟩ = some (.int .i64 ow))
      (first | (go_split_ands; (repeat' apply And.intro) <;> first | assumption | exact cell_later hb (by assumption)) | go_keep)
      (first
        | (go_at_call 71; refine (ramount_any _ _ _ _ _ _ _ _ h0 h1 a0' a1').mono ?_; rintro e wx ⟨rfl, hb⟩; have hB : Below W.heap.size W wx := (by first | exact chain hB hb | exact chainD hB hb)))
    go_wp2_with fail
    have hBx := hBW.trans (hB.mono hBW.size)
    go_returns
    exact ⟨ret_int HQ.out.symm, by go_grown⟩
  · have hd1 : decide (Z ≤ P) = false := by simpa using q1
    have HQ : Hid (u = if V < X then 3 else 2) := Lib.hid (by rw [← HU.out, if_neg q1])
    clear q1
    go_region_held3 (fun w' => w'.cell? ⟨w1.heap.size, 0, none⟩ = some (.int .i64 (t0 + w0)) ∧ w'.cell? ⟨w1.heap.size, 1, none⟩ = some (.int .i64 (t1 + w1')) ∧ w'.cell? ⟨w.heap.size + 1, 0, none⟩ = some (.int .i64 p0) ∧ w'.cell? ⟨w.heap.size + 1, 1, none⟩ = some (.int .i64 p1) ∧
        w'.cell? ⟨w.heap.size, 0, none⟩ = some (.int .i64 rm) ∧ w'.cell? ⟨w.heap.size, 1, none⟩ = some (.int .i64 he) ∧ w'.cell? ⟨w.heap.size, 2, none⟩ = some (.int .i64 ar) ∧ w'.cell? ⟨w.heap.size, 3, none⟩ = some (.int .i64 w0) ∧ w'.cell? ⟨w.heap.size, 4, none⟩ = some (.int .i64 w1') ∧ w'.cell? ⟨w.heap.size, 5, none⟩ = some (.int .i64 lk) ∧ w'.cell? ⟨w.heap.size, 6, none⟩ = some (.int .i64 ow))
      (first | (go_split_ands; (repeat' apply And.intro) <;> first | assumption | exact cell_later hb (by assumption)) | go_keep)
      (first
        | (go_at_call 71; refine (ramount_any _ _ _ _ _ _ _ _ h0 h1 a0' a1').mono ?_; rintro e wx ⟨rfl, hb⟩; have hB : Below W.heap.size W wx := (by first | exact chain hB hb | exact chainD hB hb)))
    have hBx := hBW.trans (hB.mono hBW.size)
    clear c0 c1 c2 c3 c4 c5 c6 a0 a1 a2 a3
    obtain ⟨c0, c1, c2, c3, c4, c5, c6⟩ := KW.out.later hB
    obtain ⟨a0, a1, a2, a3⟩ := AW.out.later hB
    clear d0 d1
    have d0 := cell_later hB D0.out
    have d1 := cell_later hB D1.out
    clear KW AW D0 D1 hB hb
    generalize wx = W at *
    have hB : Below W.heap.size W W := Below.refl _ _
    go_wp2_with fail
    by_cases q2 : V < X
    · have hd2 : decide (V < X) = true := by simpa using q2
      have HQ2 : Hid (u = 3) := Lib.hid (by rw [HQ.out, if_pos q2])
      clear q2
      go_region_held3 (fun w' => w'.cell? ⟨w1.heap.size, 0, none⟩ = some (.int .i64 (t0 + w0)) ∧ w'.cell? ⟨w1.heap.size, 1, none⟩ = some (.int .i64 (t1 + w1')) ∧ w'.cell? ⟨w.heap.size + 1, 0, none⟩ = some (.int .i64 p0) ∧ w'.cell? ⟨w.heap.size + 1, 1, none⟩ = some (.int .i64 p1) ∧
          w'.cell? ⟨w.heap.size, 0, none⟩ = some (.int .i64 rm) ∧ w'.cell? ⟨w.heap.size, 1, none⟩ = some (.int .i64 he) ∧ w'.cell? ⟨w.heap.size, 2, none⟩ = some (.int .i64 ar) ∧ w'.cell? ⟨w.heap.size, 3, none⟩ = some (.int .i64 w0) ∧ w'.cell? ⟨w.heap.size, 4, none⟩ = some (.int .i64 w1') ∧ w'.cell? ⟨w.heap.size, 5, none⟩ = some (.int .i64 lk) ∧ w'.cell? ⟨w.heap.size, 6, none⟩ = some (.int .i64 ow))
        (first | (go_split_ands; (repeat' apply And.intro) <;> first | assumption | exact cell_later hb (by assumption)) | go_keep)
        (first
          | (go_at_call 71; refine (ramount_any _ _ _ _ _ _ _ _ h0 h1 a0' a1').mono ?_; rintro e wx ⟨rfl, hb⟩; have hB : Below W.heap.size W wx := (by first | exact chain hB hb | exact chainD hB hb)))
      go_wp2_with fail
      have hBy := hBx.trans (hB.mono hBx.size)
      go_returns
      exact ⟨ret_int HQ2.out.symm, by go_grown⟩
    · have hd2 : decide (V < X) = false := by simpa using q2
      have HQ2 : Hid (u = 2) := Lib.hid (by rw [HQ.out, if_neg q2])
      clear q2
      go_region_held3 (fun w' => w'.cell? ⟨w1.heap.size, 0, none⟩ = some (.int .i64 (t0 + w0)) ∧ w'.cell? ⟨w1.heap.size, 1, none⟩ = some (.int .i64 (t1 + w1')) ∧ w'.cell? ⟨w.heap.size + 1, 0, none⟩ = some (.int .i64 p0) ∧ w'.cell? ⟨w.heap.size + 1, 1, none⟩ = some (.int .i64 p1) ∧
          w'.cell? ⟨w.heap.size, 0, none⟩ = some (.int .i64 rm) ∧ w'.cell? ⟨w.heap.size, 1, none⟩ = some (.int .i64 he) ∧ w'.cell? ⟨w.heap.size, 2, none⟩ = some (.int .i64 ar) ∧ w'.cell? ⟨w.heap.size, 3, none⟩ = some (.int .i64 w0) ∧ w'.cell? ⟨w.heap.size, 4, none⟩ = some (.int .i64 w1') ∧ w'.cell? ⟨w.heap.size, 5, none⟩ = some (.int .i64 lk) ∧ w'.cell? ⟨w.heap.size, 6, none⟩ = some (.int .i64 ow))
        (first | (go_split_ands; (repeat' apply And.intro) <;> first | assumption | exact cell_later hb (by assumption)) | go_keep)
        (first
          | (go_at_call 71; refine (ramount_any _ _ _ _ _ _ _ _ h0 h1 a0' a1').mono ?_; rintro e wx ⟨rfl, hb⟩; have hB : Below W.heap.size W wx := (by first | exact chain hB hb | exact chainD hB hb)))
      go_wp2_with fail
      have hBy := hBx.trans (hB.mono hBx.size)
      go_returns
      exact ⟨ret_int HQ2.out.symm, by go_grown⟩

set_option maxHeartbeats 2000000 in
theorem rFits_any (rm he ar w0 w1' lk ow p0 p1 t0 t1 : Int) (w : World) :
    Calls Try.prog 18 #[cellV rm he ar w0 w1' lk ow, airV p0 p1 t0 t1] w fun e w' => e = fitsE rm he ar w0 w1' lk ow p0 p1 t0 t1 ∧ Below w.heap.size w w' := by
  obtain ⟨n, hn⟩ : ∃ n, bothN rm he ar w0 w1' lk ow p0 p1 t0 t1 = n := ⟨_, rfl⟩
  have HN := Lib.hid hn
  have HV : Hid (n = 0 → cellB rm he ar w0 w1' lk ow = true ∧ airB p0 p1 t0 t1 = true) := Lib.hid (fun h => both_ok (hn.trans h))
  unfold fitsE
  rw [hn]
  clear hn
  by_cases h0 : n = 0
  · subst h0
    rw [if_pos rfl]
    obtain ⟨hc, ha⟩ := HV.out rfl
    obtain ⟨u, hu⟩ : ∃ u, fitsN (he + ar) rm p0 p1 t0 t1 w0 w1' = u := ⟨_, rfl⟩
    rw [hu]
    have HU := Lib.hid hu
    have HC := Lib.hid hc
    have HA := Lib.hid ha
    clear hu hc ha HV
    go_enter Try.func18, Try.ntmps18
    go_wp2_with fail
    refine (rasked_any rm he ar w0 w1' lk ow p0 p1 t0 t1 _).mono ?_
    rintro e w1 ⟨rfl, hb1⟩
    rw [HN.out]
    have hB1 : Below w.heap.size w w1 := (after (w := w) (by go_grown) hb1).1
    have K1 := Lib.hid (show Seven w1 w.heap.size rm he ar w0 w1' lk ow from Seven.later ⟨by go_cell, by go_cell, by go_cell, by go_cell, by go_cell, by go_cell, by go_cell⟩ hb1)
    have A1 := Lib.hid (show Four w1 (w.heap.size + 1) p0 p1 t0 t1 from Four.later ⟨by go_cell, by go_cell, by go_cell, by go_cell⟩ hb1)
    clear hb1
    obtain ⟨c0, c1, c2, c3, c4, c5, c6⟩ := K1.out
    obtain ⟨a0, a1, a2, a3⟩ := A1.out
    go_wp2_with fail
    refine (state_any rm he ar w0 w1' lk ow p0 p1 t0 t1 _ HC.out HA.out).mono ?_
    rintro e w2 ⟨rfl, hb2⟩
    rw [HU.out]
    have hB2 : Below w.heap.size w w2 := hB1.trans (hb2.mono hB1.size)
    clear hb2 hB1 c0 c1 c2 c3 c4 c5 c6 a0 a1 a2 a3 K1 A1
    go_wp2_with fail
    go_returns
    exact ⟨rfl, by go_grown⟩
  · rw [if_neg h0]
    go_enter Try.func18, Try.ntmps18
    go_wp2_with fail
    refine (rasked_any rm he ar w0 w1' lk ow p0 p1 t0 t1 _).mono ?_
    rintro e w1 ⟨rfl, hb1⟩
    rw [HN.out]
    have hB1 : Below w.heap.size w w1 := (after (w := w) (by go_grown) hb1).1
    clear hb1 HV HN
    go_wp2_with fail
    go_returns
    exact ⟨rfl, by go_grown⟩
end Go.Proofs.Ytpedmjjkhcigkaa
