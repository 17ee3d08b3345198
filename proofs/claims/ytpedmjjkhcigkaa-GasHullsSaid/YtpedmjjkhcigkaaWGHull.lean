/- GasHulls: the walk. (Written by wip/genwhull.py.) -/
import Derived.Test.YtpedmjjkhcigkaaGRBlow
namespace Go.Proofs.Ytpedmjjkhcigkaa
open Go.RowKit

theorem shape_over (rm gs w0 w1 bl bg ls ms p0 p1 t0 t1 : Int) : ∃ x y n : Int, overE rm gs w0 w1 bl bg ls ms p0 p1 t0 t1 = .returned (.tuple #[sp x y, .int .i64 n]) := by
  unfold overE; split <;> exact ⟨_, _, _, rfl⟩
theorem shape_hold (rm gs w0 w1 bl bg ls ms p0 p1 t0 t1 : Int) : ∃ (b : Bool) (n : Int), holdE rm gs w0 w1 bl bg ls ms p0 p1 t0 t1 = .returned (.tuple #[.bool b, .int .i64 n]) := by
  unfold holdE; split <;> exact ⟨_, _, rfl⟩
theorem shape_blow (rm gs w0 w1 bl bg ls ms p0 p1 t0 t1 : Int) : ∃ x y n : Int, blowE rm gs w0 w1 bl bg ls ms p0 p1 t0 t1 = .returned (.tuple #[sp x y, .int .i64 n]) := by
  unfold blowE amtE; split
  · split <;> exact ⟨_, _, _, rfl⟩
  · exact ⟨_, _, _, rfl⟩
theorem shape_rf (r : Int × Int) (n : Int) : ∃ x m : Int, rfE r n = .returned (.tuple #[.int .i64 x, .int .i64 m]) := by
  unfold rfE; split <;> exact ⟨_, _, rfl⟩
theorem shape_roof (rm gs w0 w1 bl bg ls ms t0 t1 : Int) : ∃ x n : Int, roofE rm gs w0 w1 bl bg ls ms t0 t1 = .returned (.tuple #[.int .i64 x, .int .i64 n]) := shape_rf _ _

set_option maxRecDepth 100000 in
set_option maxHeartbeats 8000000 in
theorem gasHulls_walk (rm gs w0 w1' bl bg ls ms p0 p1 t0 t1 : Int) (w : World) :
    Calls Try.prog 5 #[hullV rm gs w0 w1' bl bg ls ms, airV p0 p1 t0 t1] w fun e w' => e = .returned (.bool true) ∧ Below w.heap.size w w' := by
  obtain ⟨x1, y1, n1, h1⟩ := shape_over rm gs w0 w1' bl bg ls ms p0 p1 t0 t1
  obtain ⟨u2, n2, h2⟩ := shape_hold rm gs w0 w1' bl bg ls ms p0 p1 t0 t1
  obtain ⟨x3, y3, n3, h3⟩ := shape_blow rm gs w0 w1' bl bg ls ms p0 p1 t0 t1
  obtain ⟨x4, n4, h4⟩ := shape_roof rm gs w0 w1' bl bg ls ms t0 t1
  have HO := Lib.hid h1
  have HH := Lib.hid h2
  have HB := Lib.hid h3
  have HR := Lib.hid h4
  clear h1 h2 h3 h4
  go_enter Try.func5, Try.ntmps5
  go_wp2_with fail
  refine (over_any rm gs w0 w1' bl bg ls ms p0 p1 t0 t1 _).mono ?_
  rintro e w1 ⟨rfl, hb1⟩
  rw [HO.out]
  have hB1 : Below w.heap.size w w1 := (after (w := w) (by go_grown) hb1).1
  have K1 := Lib.hid (show Eight w1 w.heap.size rm gs w0 w1' bl bg ls ms from Eight.later ⟨by go_cell, by go_cell, by go_cell, by go_cell, by go_cell, by go_cell, by go_cell, by go_cell⟩ hb1)
  have A1 := Lib.hid (show Four w1 (w.heap.size + 1) p0 p1 t0 t1 from Four.later ⟨by go_cell, by go_cell, by go_cell, by go_cell⟩ hb1)
  clear hb1
  obtain ⟨c0, c1, c2, c3, c4, c5, c6, c7⟩ := K1.out
  obtain ⟨a0, a1, a2, a3⟩ := A1.out
  have hz1 := World.block_lt_of_cell? _ _ a0
  have hy1 := World.block_lt_of_cell? _ _ c0
  go_wp2_with fail
  refine (rOver_any rm gs w0 w1' bl bg ls ms p0 p1 t0 t1 _).mono ?_
  rintro e w2 ⟨rfl, hb2⟩
  rw [HO.out]
  have S1_2 := Lib.hid (show Two2 w2 w1.heap.size x1 y1 from Two2.later ⟨by go_cell, by go_cell⟩ hb2)
  have hbb2 : Below w1.heap.size w1 w2 := two (by go_grown) hb2
  have hB2 : Below w.heap.size w w2 := hB1.trans (hbb2.mono hB1.size)
  have K2 := Lib.hid (K1.out.later hbb2)
  have A2 := Lib.hid (A1.out.later hbb2)
  clear hb2 hbb2 hB1 K1 A1 c0 c1 c2 c3 c4 c5 c6 c7 a0 a1 a2 a3 hz1 hy1  
  obtain ⟨c0, c1, c2, c3, c4, c5, c6, c7⟩ := K2.out
  obtain ⟨a0, a1, a2, a3⟩ := A2.out
  have hz2 := World.block_lt_of_cell? _ _ a0
  have hy2 := World.block_lt_of_cell? _ _ c0
  have g1_2 := World.block_lt_of_cell? _ _ S1_2.out.a0
  go_wp2_with fail
  refine (holds_any rm gs w0 w1' bl bg ls ms p0 p1 t0 t1 _).mono ?_
  rintro e w3 ⟨rfl, hb3⟩
  rw [HH.out]
  have S2_3 := Lib.hid (show Two2 w3 w2.heap.size x1 y1 from Two2.later ⟨by go_cell, by go_cell⟩ hb3)
  have hbb3 : Below w2.heap.size w2 w3 := two (by go_grown) hb3
  have hB3 : Below w.heap.size w w3 := hB2.trans (hbb3.mono hB2.size)
  have K3 := Lib.hid (K2.out.later hbb3)
  have A3 := Lib.hid (A2.out.later hbb3)
  have S1_3 := Lib.hid (S1_2.out.later hbb3)
  clear hb3 hbb3 hB2 K2 A2 c0 c1 c2 c3 c4 c5 c6 c7 a0 a1 a2 a3 hz2 hy2 S1_2 g1_2
  obtain ⟨c0, c1, c2, c3, c4, c5, c6, c7⟩ := K3.out
  obtain ⟨a0, a1, a2, a3⟩ := A3.out
  have hz3 := World.block_lt_of_cell? _ _ a0
  have hy3 := World.block_lt_of_cell? _ _ c0
  have g1_3 := World.block_lt_of_cell? _ _ S1_3.out.a0
  have g2_3 := World.block_lt_of_cell? _ _ S2_3.out.a0
  go_wp2_with fail
  refine (rHolds_any rm gs w0 w1' bl bg ls ms p0 p1 t0 t1 _).mono ?_
  rintro e w4 ⟨rfl, hb4⟩
  rw [HH.out]
  have hbb4 : Below w3.heap.size w3 w4 := two (by go_grown) hb4
  have hB4 : Below w.heap.size w w4 := hB3.trans (hbb4.mono hB3.size)
  have K4 := Lib.hid (K3.out.later hbb4)
  have A4 := Lib.hid (A3.out.later hbb4)
  have S1_4 := Lib.hid (S1_3.out.later hbb4)
  have S2_4 := Lib.hid (S2_3.out.later hbb4)
  clear hb4 hbb4 hB3 K3 A3 c0 c1 c2 c3 c4 c5 c6 c7 a0 a1 a2 a3 hz3 hy3 S1_3 S2_3 g1_3 g2_3
  obtain ⟨c0, c1, c2, c3, c4, c5, c6, c7⟩ := K4.out
  obtain ⟨a0, a1, a2, a3⟩ := A4.out
  have hz4 := World.block_lt_of_cell? _ _ a0
  have hy4 := World.block_lt_of_cell? _ _ c0
  have g1_4 := World.block_lt_of_cell? _ _ S1_4.out.a0
  have g2_4 := World.block_lt_of_cell? _ _ S2_4.out.a0
  go_wp2_with fail
  refine (blowQ_any rm gs w0 w1' bl bg ls ms p0 p1 t0 t1 _).mono ?_
  rintro e w5 ⟨rfl, hb5⟩
  rw [HB.out]
  have hbb5 : Below w4.heap.size w4 w5 := two (by go_grown) hb5
  have hB5 : Below w.heap.size w w5 := hB4.trans (hbb5.mono hB4.size)
  have K5 := Lib.hid (K4.out.later hbb5)
  have A5 := Lib.hid (A4.out.later hbb5)
  have S1_5 := Lib.hid (S1_4.out.later hbb5)
  have S2_5 := Lib.hid (S2_4.out.later hbb5)
  clear hb5 hbb5 hB4 K4 A4 c0 c1 c2 c3 c4 c5 c6 c7 a0 a1 a2 a3 hz4 hy4 S1_4 S2_4 g1_4 g2_4
  obtain ⟨c0, c1, c2, c3, c4, c5, c6, c7⟩ := K5.out
  obtain ⟨a0, a1, a2, a3⟩ := A5.out
  have hz5 := World.block_lt_of_cell? _ _ a0
  have hy5 := World.block_lt_of_cell? _ _ c0
  have g1_5 := World.block_lt_of_cell? _ _ S1_5.out.a0
  have g2_5 := World.block_lt_of_cell? _ _ S2_5.out.a0
  go_wp2_with fail
  refine (rblowQ_any rm gs w0 w1' bl bg ls ms p0 p1 t0 t1 _).mono ?_
  rintro e w6 ⟨rfl, hb6⟩
  rw [blowE_same, HB.out]
  have S5_6 := Lib.hid (show Two2 w6 w5.heap.size x3 y3 from Two2.later ⟨by go_cell, by go_cell⟩ hb6)
  have hbb6 : Below w5.heap.size w5 w6 := two (by go_grown) hb6
  have hB6 : Below w.heap.size w w6 := hB5.trans (hbb6.mono hB5.size)
  have K6 := Lib.hid (K5.out.later hbb6)
  have A6 := Lib.hid (A5.out.later hbb6)
  have S1_6 := Lib.hid (S1_5.out.later hbb6)
  have S2_6 := Lib.hid (S2_5.out.later hbb6)
  clear hb6 hbb6 hB5 K5 A5 c0 c1 c2 c3 c4 c5 c6 c7 a0 a1 a2 a3 hz5 hy5 S1_5 S2_5 g1_5 g2_5
  obtain ⟨c0, c1, c2, c3, c4, c5, c6, c7⟩ := K6.out
  obtain ⟨a0, a1, a2, a3⟩ := A6.out
  have hz6 := World.block_lt_of_cell? _ _ a0
  have hy6 := World.block_lt_of_cell? _ _ c0
  have g1_6 := World.block_lt_of_cell? _ _ S1_6.out.a0
  have g2_6 := World.block_lt_of_cell? _ _ S2_6.out.a0
  have g5_6 := World.block_lt_of_cell? _ _ S5_6.out.a0
  go_wp2_with fail
  refine (roof_any rm gs w0 w1' bl bg ls ms t0 t1 _).mono ?_
  rintro e w7 ⟨rfl, hb7⟩
  rw [HR.out]
  have S6_7 := Lib.hid (show Two2 w7 w6.heap.size x3 y3 from Two2.later ⟨by go_cell, by go_cell⟩ hb7)
  have hbb7 : Below w6.heap.size w6 w7 := two (by go_grown) hb7
  have hB7 : Below w.heap.size w w7 := hB6.trans (hbb7.mono hB6.size)
  have K7 := Lib.hid (K6.out.later hbb7)
  have A7 := Lib.hid (A6.out.later hbb7)
  have S1_7 := Lib.hid (S1_6.out.later hbb7)
  have S2_7 := Lib.hid (S2_6.out.later hbb7)
  have S5_7 := Lib.hid (S5_6.out.later hbb7)
  clear hb7 hbb7 hB6 K6 A6 c0 c1 c2 c3 c4 c5 c6 c7 a0 a1 a2 a3 hz6 hy6 S1_6 S2_6 S5_6 g1_6 g2_6 g5_6
  obtain ⟨c0, c1, c2, c3, c4, c5, c6, c7⟩ := K7.out
  obtain ⟨a0, a1, a2, a3⟩ := A7.out
  have hz7 := World.block_lt_of_cell? _ _ a0
  have hy7 := World.block_lt_of_cell? _ _ c0
  have g1_7 := World.block_lt_of_cell? _ _ S1_7.out.a0
  have g2_7 := World.block_lt_of_cell? _ _ S2_7.out.a0
  have g5_7 := World.block_lt_of_cell? _ _ S5_7.out.a0
  have g6_7 := World.block_lt_of_cell? _ _ S6_7.out.a0
  go_wp2_with fail
  refine (rroof_any rm gs w0 w1' bl bg ls ms t0 t1 _).mono ?_
  rintro e w8 ⟨rfl, hb8⟩
  rw [HR.out]
  have hbb8 : Below w7.heap.size w7 w8 := two (by go_grown) hb8
  have hB8 : Below w.heap.size w w8 := hB7.trans (hbb8.mono hB7.size)
  have K8 := Lib.hid (K7.out.later hbb8)
  have A8 := Lib.hid (A7.out.later hbb8)
  have S1_8 := Lib.hid (S1_7.out.later hbb8)
  have S2_8 := Lib.hid (S2_7.out.later hbb8)
  have S5_8 := Lib.hid (S5_7.out.later hbb8)
  have S6_8 := Lib.hid (S6_7.out.later hbb8)
  clear hb8 hbb8 hB7 K7 A7 c0 c1 c2 c3 c4 c5 c6 c7 a0 a1 a2 a3 hz7 hy7 S1_7 S2_7 S5_7 S6_7 g1_7 g2_7 g5_7 g6_7
  have hBw := hB8
  obtain ⟨c0, c1, c2, c3, c4, c5, c6, c7⟩ := K8.out
  obtain ⟨s1, s1'⟩ := S1_8.out
  obtain ⟨s2, s2'⟩ := S2_8.out
  obtain ⟨s5, s5'⟩ := S5_8.out
  obtain ⟨s6, s6'⟩ := S6_8.out
  clear S1_8 S2_8 S5_8 S6_8 K8 A8 hB8
  go_wp2_with fail
  have hB : Below w8.heap.size w8 w8 := Below.refl _ _
  generalize w8 = W at *
  try simp only [List.append_eq, List.cons_append, List.nil_append]
  go_region_held3 (fun w' => w'.cell? ⟨w1.heap.size, 0, none⟩ = some (.int .i64 x1) ∧ w'.cell? ⟨w1.heap.size, 1, none⟩ = some (.int .i64 y1) ∧ w'.cell? ⟨w2.heap.size, 0, none⟩ = some (.int .i64 x1) ∧ w'.cell? ⟨w2.heap.size, 1, none⟩ = some (.int .i64 y1) ∧ w'.cell? ⟨w5.heap.size, 0, none⟩ = some (.int .i64 x3) ∧ w'.cell? ⟨w5.heap.size, 1, none⟩ = some (.int .i64 y3) ∧ w'.cell? ⟨w6.heap.size, 0, none⟩ = some (.int .i64 x3) ∧ w'.cell? ⟨w6.heap.size, 1, none⟩ = some (.int .i64 y3) ∧ w'.cell? ⟨w.heap.size, 0, none⟩ = some (.int .i64 rm) ∧ w'.cell? ⟨w.heap.size, 1, none⟩ = some (.int .i64 gs) ∧ w'.cell? ⟨w.heap.size, 2, none⟩ = some (.int .i64 w0) ∧ w'.cell? ⟨w.heap.size, 3, none⟩ = some (.int .i64 w1') ∧ w'.cell? ⟨w.heap.size, 4, none⟩ = some (.int .i64 bl) ∧ w'.cell? ⟨w.heap.size, 5, none⟩ = some (.int .i64 bg) ∧ w'.cell? ⟨w.heap.size, 6, none⟩ = some (.int .i64 ls) ∧ w'.cell? ⟨w.heap.size, 7, none⟩ = some (.int .i64 ms))
    (first | (go_split_ands; (repeat' apply And.intro) <;> first | assumption | exact cell_later hb (by assumption)) | go_keep)
    (first
      | (go_at_call 37; refine (checkHull_any _ _ _ _ _ _ _ _ _).mono ?_; rintro e wx ⟨rfl, hb⟩; have hB : Below W.heap.size W wx := (by first | exact chain hB hb | exact chainD hB hb))
      | (go_at_call 38; refine (rCheckHull_any _ _ _ _ _ _ _ _ _).mono ?_; rintro e wx ⟨rfl, hb⟩; have hB : Below W.heap.size W wx := (by first | exact chain hB hb | exact chainD hB hb)))
  go_wp2_with fail
  have hBx := hBw.trans (hB.mono hBw.size)
  go_returns
  exact ⟨rfl, by go_grown⟩
end Go.Proofs.Ytpedmjjkhcigkaa
