/- GasLifts: the walk. (Written by wip/genwlift.py.) -/
import Derived.Test.YtpedmjjkhcigkaaGRLift
import Derived.Test.YtpedmjjkhcigkaaGRCeil
import Derived.Test.YtpedmjjkhcigkaaGRValv
namespace Go.Proofs.Ytpedmjjkhcigkaa
open Go.RowKit

theorem shape_lift (rm he ar w0 w1 lk ow p0 p1 t0 t1 : Int) : ∃ x y n : Int, liftE rm he ar w0 w1 lk ow p0 p1 t0 t1 = .returned (.tuple #[sp x y, .int .i64 n]) := by
  unfold liftE; split <;> exact ⟨_, _, _, rfl⟩
theorem shape_valv (rm he ar w0 w1 lk ow p0 p1 t0 t1 : Int) : ∃ x y n : Int, valvE rm he ar w0 w1 lk ow p0 p1 t0 t1 = .returned (.tuple #[sp x y, .int .i64 n]) := by
  unfold valvE; split <;> exact ⟨_, _, _, rfl⟩
theorem shape_ceil (rm he ar w0 w1 lk ow t0 t1 : Int) : ∃ x y n : Int, ceilE rm he ar w0 w1 lk ow t0 t1 = .returned (.tuple #[sp x y, .int .i64 n]) := by
  unfold ceilE; split <;> exact ⟨_, _, _, rfl⟩

set_option maxRecDepth 100000 in
set_option maxHeartbeats 8000000 in
theorem gasLifts_walk (rm he ar w0 w1' lk ow p0 p1 t0 t1 : Int) (w : World) :
    Calls Try.prog 4 #[cellV rm he ar w0 w1' lk ow, airV p0 p1 t0 t1] w fun e w' => e = .returned (.bool true) ∧ Below w.heap.size w w' := by
  obtain ⟨x1, y1, n1, h1⟩ := shape_lift rm he ar w0 w1' lk ow p0 p1 t0 t1
  obtain ⟨x2, y2, n2, h2⟩ := shape_ceil rm he ar w0 w1' lk ow t0 t1
  obtain ⟨x3, y3, n3, h3⟩ := shape_valv rm he ar w0 w1' lk ow p0 p1 t0 t1
  have HL := Lib.hid h1
  have HC := Lib.hid h2
  have HV := Lib.hid h3
  clear h1 h2 h3
  go_enter Try.func4, Try.ntmps4
  go_wp2_with fail
  refine (lift_any rm he ar w0 w1' lk ow p0 p1 t0 t1 _).mono ?_
  rintro e w1 ⟨rfl, hb1⟩
  rw [HL.out]
  have hB1 : Below w.heap.size w w1 := (after (w := w) (by go_grown) hb1).1
  have K1 := Lib.hid (show Seven w1 w.heap.size rm he ar w0 w1' lk ow from Seven.later ⟨by go_cell, by go_cell, by go_cell, by go_cell, by go_cell, by go_cell, by go_cell⟩ hb1)
  have A1 := Lib.hid (show Four w1 (w.heap.size + 1) p0 p1 t0 t1 from Four.later ⟨by go_cell, by go_cell, by go_cell, by go_cell⟩ hb1)
  clear hb1
  obtain ⟨c0, c1, c2, c3, c4, c5, c6⟩ := K1.out
  obtain ⟨a0, a1, a2, a3⟩ := A1.out
  have hz1 := World.block_lt_of_cell? _ _ a0
  have hy1 := World.block_lt_of_cell? _ _ c0
  go_wp2_with fail
  refine (rLift_any rm he ar w0 w1' lk ow p0 p1 t0 t1 _).mono ?_
  rintro e w2 ⟨rfl, hb2⟩
  rw [HL.out]
  have S1_2 := Lib.hid (show Two2 w2 w1.heap.size x1 y1 from Two2.later ⟨by go_cell, by go_cell⟩ hb2)
  have hbb2 : Below w1.heap.size w1 w2 := two (by go_grown) hb2
  have hB2 : Below w.heap.size w w2 := hB1.trans (hbb2.mono hB1.size)
  have K2 := Lib.hid (K1.out.later hbb2)
  have A2 := Lib.hid (A1.out.later hbb2)
  clear hb2 hbb2 hB1 K1 A1 c0 c1 c2 c3 c4 c5 c6 a0 a1 a2 a3 hz1 hy1 
  obtain ⟨c0, c1, c2, c3, c4, c5, c6⟩ := K2.out
  obtain ⟨a0, a1, a2, a3⟩ := A2.out
  have hz2 := World.block_lt_of_cell? _ _ a0
  have hy2 := World.block_lt_of_cell? _ _ c0
  have g1_2 := World.block_lt_of_cell? _ _ S1_2.out.a0
  go_wp2_with fail
  refine (ceil_any rm he ar w0 w1' lk ow t0 t1 _).mono ?_
  rintro e w3 ⟨rfl, hb3⟩
  rw [HC.out]
  have S2_3 := Lib.hid (show Two2 w3 w2.heap.size x1 y1 from Two2.later ⟨by go_cell, by go_cell⟩ hb3)
  have hbb3 : Below w2.heap.size w2 w3 := two (by go_grown) hb3
  have hB3 : Below w.heap.size w w3 := hB2.trans (hbb3.mono hB2.size)
  have K3 := Lib.hid (K2.out.later hbb3)
  have A3 := Lib.hid (A2.out.later hbb3)
  have S1_3 := Lib.hid (S1_2.out.later hbb3)
  clear hb3 hbb3 hB2 K2 A2 c0 c1 c2 c3 c4 c5 c6 a0 a1 a2 a3 hz2 hy2 S1_2
  obtain ⟨c0, c1, c2, c3, c4, c5, c6⟩ := K3.out
  obtain ⟨a0, a1, a2, a3⟩ := A3.out
  have hz3 := World.block_lt_of_cell? _ _ a0
  have hy3 := World.block_lt_of_cell? _ _ c0
  have g1_3 := World.block_lt_of_cell? _ _ S1_3.out.a0
  have g2_3 := World.block_lt_of_cell? _ _ S2_3.out.a0
  clear g1_2
  go_wp2_with fail
  refine (rCeil_any rm he ar w0 w1' lk ow t0 t1 _).mono ?_
  rintro e w4 ⟨rfl, hb4⟩
  rw [HC.out]
  have S3_4 := Lib.hid (show Two2 w4 w3.heap.size x2 y2 from Two2.later ⟨by go_cell, by go_cell⟩ hb4)
  have hbb4 : Below w3.heap.size w3 w4 := two (by go_grown) hb4
  have hB4 : Below w.heap.size w w4 := hB3.trans (hbb4.mono hB3.size)
  have K4 := Lib.hid (K3.out.later hbb4)
  have A4 := Lib.hid (A3.out.later hbb4)
  have S1_4 := Lib.hid (S1_3.out.later hbb4)
  have S2_4 := Lib.hid (S2_3.out.later hbb4)
  clear hb4 hbb4 hB3 K3 A3 c0 c1 c2 c3 c4 c5 c6 a0 a1 a2 a3 hz3 hy3 S1_3 S2_3
  obtain ⟨c0, c1, c2, c3, c4, c5, c6⟩ := K4.out
  obtain ⟨a0, a1, a2, a3⟩ := A4.out
  have hz4 := World.block_lt_of_cell? _ _ a0
  have hy4 := World.block_lt_of_cell? _ _ c0
  have g1_4 := World.block_lt_of_cell? _ _ S1_4.out.a0
  have g2_4 := World.block_lt_of_cell? _ _ S2_4.out.a0
  have g3_4 := World.block_lt_of_cell? _ _ S3_4.out.a0
  clear g1_3 g2_3
  go_wp2_with fail
  refine (valv_any rm he ar w0 w1' lk ow p0 p1 t0 t1 _).mono ?_
  rintro e w5 ⟨rfl, hb5⟩
  rw [HV.out]
  have S4_5 := Lib.hid (show Two2 w5 w4.heap.size x2 y2 from Two2.later ⟨by go_cell, by go_cell⟩ hb5)
  have hbb5 : Below w4.heap.size w4 w5 := two (by go_grown) hb5
  have hB5 : Below w.heap.size w w5 := hB4.trans (hbb5.mono hB4.size)
  have K5 := Lib.hid (K4.out.later hbb5)
  have A5 := Lib.hid (A4.out.later hbb5)
  have S1_5 := Lib.hid (S1_4.out.later hbb5)
  have S2_5 := Lib.hid (S2_4.out.later hbb5)
  have S3_5 := Lib.hid (S3_4.out.later hbb5)
  clear hb5 hbb5 hB4 K4 A4 c0 c1 c2 c3 c4 c5 c6 a0 a1 a2 a3 hz4 hy4 S1_4 S2_4 S3_4
  obtain ⟨c0, c1, c2, c3, c4, c5, c6⟩ := K5.out
  obtain ⟨a0, a1, a2, a3⟩ := A5.out
  have hz5 := World.block_lt_of_cell? _ _ a0
  have hy5 := World.block_lt_of_cell? _ _ c0
  have g1_5 := World.block_lt_of_cell? _ _ S1_5.out.a0
  have g2_5 := World.block_lt_of_cell? _ _ S2_5.out.a0
  have g3_5 := World.block_lt_of_cell? _ _ S3_5.out.a0
  have g4_5 := World.block_lt_of_cell? _ _ S4_5.out.a0
  clear g1_4 g2_4 g3_4
  go_wp2_with fail
  refine (rValv_any rm he ar w0 w1' lk ow p0 p1 t0 t1 _).mono ?_
  rintro e w6 ⟨rfl, hb6⟩
  rw [HV.out]
  have S5_6 := Lib.hid (show Two2 w6 w5.heap.size x3 y3 from Two2.later ⟨by go_cell, by go_cell⟩ hb6)
  have hbb6 : Below w5.heap.size w5 w6 := two (by go_grown) hb6
  have hB6 : Below w.heap.size w w6 := hB5.trans (hbb6.mono hB5.size)
  have K6 := Lib.hid (K5.out.later hbb6)
  have A6 := Lib.hid (A5.out.later hbb6)
  have S1_6 := Lib.hid (S1_5.out.later hbb6)
  have S2_6 := Lib.hid (S2_5.out.later hbb6)
  have S3_6 := Lib.hid (S3_5.out.later hbb6)
  have S4_6 := Lib.hid (S4_5.out.later hbb6)
  clear hb6 hbb6 hB5 K5 A5 c0 c1 c2 c3 c4 c5 c6 a0 a1 a2 a3 hz5 hy5 S1_5 S2_5 S3_5 S4_5
  obtain ⟨s1, s1'⟩ := S1_6.out
  have g1_6 := World.block_lt_of_cell? _ _ s1
  obtain ⟨s2, s2'⟩ := S2_6.out
  have g2_6 := World.block_lt_of_cell? _ _ s2
  obtain ⟨s3, s3'⟩ := S3_6.out
  have g3_6 := World.block_lt_of_cell? _ _ s3
  obtain ⟨s4, s4'⟩ := S4_6.out
  have g4_6 := World.block_lt_of_cell? _ _ s4
  obtain ⟨s5, s5'⟩ := S5_6.out
  have g5_6 := World.block_lt_of_cell? _ _ s5
  go_wp2_with fail
  have hs6 := hB6.size
  go_returns
  exact ⟨rfl, by go_grown⟩
end Go.Proofs.Ytpedmjjkhcigkaa
