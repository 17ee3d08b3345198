/- GasVolumes: the walk. -/
import Derived.Test.YtpedmjjkhcigkaaGRFits
namespace Go.Proofs.Ytpedmjjkhcigkaa
open Go.RowKit

theorem shape_volume (rm he ar w0 w1 lk ow p0 p1 t0 t1 : Int) : ∃ x y n : Int, volumeE rm he ar w0 w1 lk ow p0 p1 t0 t1 = .returned (.tuple #[sp x y, .int .i64 n]) := by
  unfold volumeE; split <;> exact ⟨_, _, _, rfl⟩
theorem shape_fits (rm he ar w0 w1 lk ow p0 p1 t0 t1 : Int) : ∃ x n : Int, fitsE rm he ar w0 w1 lk ow p0 p1 t0 t1 = .returned (.tuple #[.int .u8 x, .int .i64 n]) := by
  unfold fitsE; split <;> exact ⟨_, _, rfl⟩

set_option maxRecDepth 100000 in
set_option maxHeartbeats 8000000 in
theorem gasVolumes_walk (rm he ar w0 w1' lk ow p0 p1 t0 t1 : Int) (w : World) :
    Calls Try.prog 3 #[cellV rm he ar w0 w1' lk ow, airV p0 p1 t0 t1] w fun e w' => e = .returned (.bool true) ∧ Below w.heap.size w w' := by
  obtain ⟨x, y, n, hV⟩ := shape_volume rm he ar w0 w1' lk ow p0 p1 t0 t1
  obtain ⟨u, m, hFi⟩ := shape_fits rm he ar w0 w1' lk ow p0 p1 t0 t1
  have HV := Lib.hid hV
  have HFi := Lib.hid hFi
  clear hV hFi
  go_enter Try.func3, Try.ntmps3
  go_wp2_with fail
  refine (volume_any rm he ar w0 w1' lk ow p0 p1 t0 t1 _).mono ?_
  rintro e w1 ⟨rfl, hb1⟩
  rw [HV.out]
  have hB1 : Below w.heap.size w w1 := (after (w := w) (by go_grown) hb1).1
  have K1 := Lib.hid (show Seven w1 w.heap.size rm he ar w0 w1' lk ow from Seven.later ⟨by go_cell, by go_cell, by go_cell, by go_cell, by go_cell, by go_cell, by go_cell⟩ hb1)
  have A1 := Lib.hid (show Four w1 (w.heap.size + 1) p0 p1 t0 t1 from Four.later ⟨by go_cell, by go_cell, by go_cell, by go_cell⟩ hb1)
  clear hb1
  obtain ⟨c0, c1, c2, c3, c4, c5, c6⟩ := K1.out
  obtain ⟨a0, a1, a2, a3⟩ := A1.out
  have hz1 := World.block_lt_of_cell? _ _ a0
  have hy1 := World.block_lt_of_cell? _ _ c0
  go_wp2_with fail
  refine (rVolume_any rm he ar w0 w1' lk ow p0 p1 t0 t1 _).mono ?_
  rintro e w2 ⟨rfl, hb2⟩
  rw [HV.out]
  have S2 := Lib.hid (show Two2 w2 w1.heap.size x y from Two2.later ⟨by go_cell, by go_cell⟩ hb2)
  have hbb2 : Below w1.heap.size w1 w2 := two (by go_grown) hb2
  have hB2 : Below w.heap.size w w2 := hB1.trans (hbb2.mono hB1.size)
  have K2 := Lib.hid (K1.out.later hbb2)
  have A2 := Lib.hid (A1.out.later hbb2)
  clear hb2 hbb2 hB1 K1 A1 c0 c1 c2 c3 c4 c5 c6 a0 a1 a2 a3 hz1 hy1
  obtain ⟨c0, c1, c2, c3, c4, c5, c6⟩ := K2.out
  obtain ⟨a0, a1, a2, a3⟩ := A2.out
  have hz2 := World.block_lt_of_cell? _ _ a0
  have hy2 := World.block_lt_of_cell? _ _ c0
  have hs2 := World.block_lt_of_cell? _ _ S2.out.a0
  go_wp2_with fail
  refine (fits_any rm he ar w0 w1' lk ow p0 p1 t0 t1 _).mono ?_
  rintro e w3 ⟨rfl, hb3⟩
  rw [HFi.out]
  have T3 := Lib.hid (show Two2 w3 w2.heap.size x y from Two2.later ⟨by go_cell, by go_cell⟩ hb3)
  have hbb3 : Below w2.heap.size w2 w3 := two (by go_grown) hb3
  have hB3 : Below w.heap.size w w3 := hB2.trans (hbb3.mono hB2.size)
  have K3 := Lib.hid (K2.out.later hbb3)
  have A3 := Lib.hid (A2.out.later hbb3)
  have S3 := Lib.hid (S2.out.later hbb3)
  clear hb3 hbb3 hB2 K2 A2 S2 c0 c1 c2 c3 c4 c5 c6 a0 a1 a2 a3 hz2 hy2
  obtain ⟨c0, c1, c2, c3, c4, c5, c6⟩ := K3.out
  obtain ⟨a0, a1, a2, a3⟩ := A3.out
  go_wp2_with fail
  refine (rFits_any rm he ar w0 w1' lk ow p0 p1 t0 t1 _).mono ?_
  rintro e w4 ⟨rfl, hb4⟩
  rw [HFi.out]
  have hB4 : Below w.heap.size w w4 := hB3.trans (hb4.mono hB3.size)
  have K4 := K3.out.later hb4
  have A4 := A3.out.later hb4
  have S4 := S3.out.later hb4
  have T4 := T3.out.later hb4
  clear hb4 hB3 K3 A3 S3 T3 c0 c1 c2 c3 c4 c5 c6 a0 a1 a2 a3
  obtain ⟨c0, c1, c2, c3, c4, c5, c6⟩ := K4
  obtain ⟨a0, a1, a2, a3⟩ := A4
  obtain ⟨s0, s1⟩ := S4
  obtain ⟨d0, d1⟩ := T4
  go_wp2_with fail
  have hB : Below w4.heap.size w4 w4 := Below.refl _ _
  generalize w4 = W at *
  try simp only [List.append_eq, List.cons_append, List.nil_append]
  go_region_held3 (fun w' => w'.cell? ⟨w1.heap.size, 0, none⟩ = some (.int .i64 x) ∧ w'.cell? ⟨w1.heap.size, 1, none⟩ = some (.int .i64 y) ∧ w'.cell? ⟨w2.heap.size, 0, none⟩ = some (.int .i64 x) ∧ w'.cell? ⟨w2.heap.size, 1, none⟩ = some (.int .i64 y) ∧
      w'.cell? ⟨w.heap.size + 1, 0, none⟩ = some (.int .i64 p0) ∧ w'.cell? ⟨w.heap.size + 1, 1, none⟩ = some (.int .i64 p1) ∧ w'.cell? ⟨w.heap.size + 1, 2, none⟩ = some (.int .i64 t0) ∧ w'.cell? ⟨w.heap.size + 1, 3, none⟩ = some (.int .i64 t1) ∧
      w'.cell? ⟨w.heap.size, 0, none⟩ = some (.int .i64 rm) ∧ w'.cell? ⟨w.heap.size, 1, none⟩ = some (.int .i64 he) ∧ w'.cell? ⟨w.heap.size, 2, none⟩ = some (.int .i64 ar) ∧ w'.cell? ⟨w.heap.size, 3, none⟩ = some (.int .i64 w0) ∧ w'.cell? ⟨w.heap.size, 4, none⟩ = some (.int .i64 w1') ∧ w'.cell? ⟨w.heap.size, 5, none⟩ = some (.int .i64 lk) ∧ w'.cell? ⟨w.heap.size, 6, none⟩ = some (.int .i64 ow))
    (first | (go_split_ands; (repeat' apply And.intro) <;> first | assumption | exact cell_later hb (by assumption)) | go_keep)
    (first
      | (go_at_call 19; refine (checkAir_any _ _ _ _ _).mono ?_; rintro e wx ⟨rfl, hb⟩; have hB : Below W.heap.size W wx := (by first | exact chain hB hb | exact chainD hB hb))
      | (go_at_call 20; refine (rCheckAir_any _ _ _ _ _).mono ?_; rintro e wx ⟨rfl, hb⟩; have hB : Below W.heap.size W wx := (by first | exact chain hB hb | exact chainD hB hb))
      | (go_at_call 21; refine (checkCell_any _ _ _ _ _ _ _ _).mono ?_; rintro e wx ⟨rfl, hb⟩; have hB : Below W.heap.size W wx := (by first | exact chain hB hb | exact chainD hB hb))
      | (go_at_call 22; refine (rCheckCell_any _ _ _ _ _ _ _ _).mono ?_; rintro e wx ⟨rfl, hb⟩; have hB : Below W.heap.size W wx := (by first | exact chain hB hb | exact chainD hB hb)))
  go_wp2_with fail
  have hBx := hB4.trans (hB.mono hB4.size)
  go_returns
  exact ⟨rfl, by go_grown⟩
end Go.Proofs.Ytpedmjjkhcigkaa
