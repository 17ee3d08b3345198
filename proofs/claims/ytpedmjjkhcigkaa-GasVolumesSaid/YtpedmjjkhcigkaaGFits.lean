/- Package gas: Fits. -/
import Derived.Test.YtpedmjjkhcigkaaGVolume
namespace Go.Proofs.Ytpedmjjkhcigkaa
open Go.RowKit

theorem cl_le {n d k : Int} (hd : 0 < d) : cl n d ≤ k ↔ n ≤ k * d := by
  unfold cl
  constructor
  · intro h
    have h1 : -k ≤ (-n) / d := by omega
    rw [Int.le_ediv_iff_mul_le hd, Int.neg_mul] at h1
    omega
  · intro h
    have h1 : -k ≤ (-n) / d := by rw [Int.le_ediv_iff_mul_le hd, Int.neg_mul]; omega
    omega
/-- How a cell fits. -/
def fitsN (A rm p0 p1 t0 t1 w0 w1 : Int) : Int := if A * (t1 + w1) ≤ rm * p0 then 1 else if rm * p1 < A * (t0 + w0) then 3 else 2
def fitsE (rm he ar w0 w1 lk ow p0 p1 t0 t1 : Int) : Ending := if bothN rm he ar w0 w1 lk ow p0 p1 t0 t1 = 0 then .returned (.tuple #[.int .u8 (fitsN (he + ar) rm p0 p1 t0 t1 w0 w1), .int .i64 0]) else
  .returned (.tuple #[.int .u8 0, .int .i64 (bothN rm he ar w0 w1 lk ow p0 p1 t0 t1)])
theorem ret_ui {k k' : IntKind} {a b a' b' : Int} (h1 : a = a') (h2 : b = b') : Ending.returned (.tuple #[.int k a, .int k' b]) = .returned (.tuple #[.int k a', .int k' b']) := by rw [h1, h2]

set_option maxHeartbeats 4000000 in
theorem fits_any (rm he ar w0 w1' lk ow p0 p1 t0 t1 : Int) (w : World) :
    Calls Try.prog 17 #[cellV rm he ar w0 w1' lk ow, airV p0 p1 t0 t1] w fun e w' => e = fitsE rm he ar w0 w1' lk ow p0 p1 t0 t1 ∧ Below w.heap.size w w' := by
  obtain ⟨n, hn⟩ : ∃ n, bothN rm he ar w0 w1' lk ow p0 p1 t0 t1 = n := ⟨_, rfl⟩
  have HN := Lib.hid hn
  have HV : Hid (n = 0 → cellB rm he ar w0 w1' lk ow = true ∧ airB p0 p1 t0 t1 = true) := Lib.hid (fun h => both_ok (hn.trans h))
  unfold fitsE
  rw [hn]
  clear hn
  by_cases h0 : n = 0
  · subst h0
    rw [if_pos rfl]
    obtain ⟨hc, ha⟩ := HV.out rfl
    obtain ⟨E, hE⟩ : ∃ x, volE (he + ar) p0 p1 t0 t1 w0 w1' = x := ⟨_, rfl⟩
    obtain ⟨⟨z1, z2⟩, z3, z4⟩ := E
    have hX := vol_ex hc ha hE
    have hp := air_ok ha
    have hi1 : cl z3 z4 ≤ rm ↔ (he + ar) * (t1 + w1') ≤ rm * p0 := by rw [hX.hi]; exact cl_le (by omega)
    have lo1 : rm < cl z1 z2 ↔ rm * p1 < (he + ar) * (t0 + w0) := by
      rw [hX.up]
      have := cl_le (n := (he + ar) * (t0 + w0)) (d := p1) (k := rm) (by omega)
      omega
    obtain ⟨u, hu⟩ : ∃ u, fitsN (he + ar) rm p0 p1 t0 t1 w0 w1' = u := ⟨_, rfl⟩
    rw [hu]
    unfold fitsN at hu
    simp only [← hi1, ← lo1] at hu
    obtain ⟨gu, hgu⟩ : ∃ x, cl z3 z4 = x := ⟨_, rfl⟩
    obtain ⟨lu, hlu⟩ : ∃ x, cl z1 z2 = x := ⟨_, rfl⟩
    rw [hgu, hlu] at hu
    have HU := Lib.hid hu
    have HGu := Lib.hid hgu
    have HLu := Lib.hid hlu
    have HX := Lib.hid hX
    have HE := Lib.hid hE
    have HC := Lib.hid hc
    have HA := Lib.hid ha
    clear hX hE hc ha HV hp hi1 lo1 hu hgu hlu
    go_enter Try.func17, Try.ntmps17
    go_wp2_with fail
    refine (checkBoth_any rm he ar w0 w1' lk ow p0 p1 t0 t1 _).mono ?_
    rintro e w1 ⟨rfl, hb1⟩
    rw [HN.out]
    have hB1 : Below w.heap.size w w1 := (after (w := w) (by go_grown) hb1).1
    have K1 := Lib.hid (show Seven w1 w.heap.size rm he ar w0 w1' lk ow from Seven.later ⟨by go_cell, by go_cell, by go_cell, by go_cell, by go_cell, by go_cell, by go_cell⟩ hb1)
    have A1 := Lib.hid (show Four w1 (w.heap.size + 1) p0 p1 t0 t1 from Four.later ⟨by go_cell, by go_cell, by go_cell, by go_cell⟩ hb1)
    clear hb1
    obtain ⟨c0, c1, c2, c3, c4, c5, c6⟩ := K1.out
    obtain ⟨a0, a1, a2, a3⟩ := A1.out
    go_wp2_with fail
    refine (volumes_any rm he ar w0 w1' lk ow p0 p1 t0 t1 _ HC.out HA.out).mono ?_
    rintro e w2 ⟨rfl, hb2⟩
    rw [HE.out]
    have hB2 : Below w.heap.size w w2 := hB1.trans (hb2.mono hB1.size)
    have k0 := (K1.out.later hb2).c0
    have hz := World.block_lt_of_cell? _ _ k0
    clear hb2 hB1 c0 c1 c2 c3 c4 c5 c6 a0 a1 a2 a3 A1 K1
    go_wp2_with fail
    obtain ⟨W, hW⟩ : ∃ W, (w2.alloc (.cells #[.int .i64 z1, .int .i64 z2] 127)).alloc (.cells #[.int .i64 z3, .int .i64 z4] 127) = W := ⟨_, rfl⟩
    have b0 : W.cell? ⟨w2.heap.size, 0, none⟩ = some (.int .i64 z1) := by subst hW; go_cell
    have b1 : W.cell? ⟨w2.heap.size, 1, none⟩ = some (.int .i64 z2) := by subst hW; go_cell
    have d0 : W.cell? ⟨w2.heap.size + 1, 0, none⟩ = some (.int .i64 z3) := by subst hW; go_cell
    have d1 : W.cell? ⟨w2.heap.size + 1, 1, none⟩ = some (.int .i64 z4) := by subst hW; go_cell
    have k0' : W.cell? ⟨w.heap.size, 0, none⟩ = some (.int .i64 rm) := by subst hW; go_cell
    have hBW : Below w.heap.size w W := by subst hW; go_grown
    have hs1 : w2.heap.size + 1 < W.heap.size := by subst hW; simp
    rw [hW]
    clear hW
    have hB : Below W.heap.size W W := Below.refl _ _
    by_cases q1 : gu ≤ rm
    · have hd1 : decide (gu ≤ rm) = true := by simpa using q1
      have HQ : Hid (u = 1) := Lib.hid (by rw [← HU.out, if_pos q1])
      clear q1
      go_region_held3 (fun w' => w'.cell? ⟨w2.heap.size + 1, 0, none⟩ = some (.int .i64 z3) ∧ w'.cell? ⟨w2.heap.size + 1, 1, none⟩ = some (.int .i64 z4) ∧ w'.cell? ⟨w.heap.size, 0, none⟩ = some (.int .i64 rm))
        (first | (go_split_ands; (repeat' apply And.intro) <;> first | assumption | exact cell_later hb (by assumption)) | go_keep)
        (first
          | (go_at_call 73; refine (up_any z3 z4 _ HX.out.d0 HX.out.d1 HX.out.fc).mono ?_; rintro e wx ⟨rfl, hb⟩; rw [HGu.out]; have hB : Below W.heap.size W wx := (by first | exact chain hB hb | exact chainD hB hb)))
      go_wp2_with fail
      have hBx := hBW.trans (hB.mono hBW.size)
      go_returns
      exact ⟨ret_ui HQ.out.symm rfl, by go_grown⟩
    · have hd1 : decide (gu ≤ rm) = false := by simpa using q1
      have HQ : Hid (u = if rm < lu then 3 else 2) := Lib.hid (by rw [← HU.out, if_neg q1])
      clear q1
      go_region_held3 (fun w' => w'.cell? ⟨w2.heap.size + 1, 0, none⟩ = some (.int .i64 z3) ∧ w'.cell? ⟨w2.heap.size + 1, 1, none⟩ = some (.int .i64 z4) ∧ w'.cell? ⟨w.heap.size, 0, none⟩ = some (.int .i64 rm) ∧ w'.cell? ⟨w2.heap.size, 0, none⟩ = some (.int .i64 z1) ∧ w'.cell? ⟨w2.heap.size, 1, none⟩ = some (.int .i64 z2))
        (first | (go_split_ands; (repeat' apply And.intro) <;> first | assumption | exact cell_later hb (by assumption)) | go_keep)
        (first
          | (go_at_call 73; refine (up_any z3 z4 _ HX.out.d0 HX.out.d1 HX.out.fc).mono ?_; rintro e wx ⟨rfl, hb⟩; rw [HGu.out]; have hB : Below W.heap.size W wx := (by first | exact chain hB hb | exact chainD hB hb); have k0 := cell_later hB k0'; have f0 := cell_later hB b0; have f1 := cell_later hB b1))
      clear k0' b0 b1 d0 d1
      have hBx := hBW.trans (hB.mono hBW.size)
      generalize wx = W2 at *
      clear hB hb
      have hB : Below W2.heap.size W2 W2 := Below.refl _ _
      go_wp2_with fail
      by_cases q2 : rm < lu
      · have hd2 : decide (rm < lu) = true := by simpa using q2
        have HQ2 : Hid (u = 3) := Lib.hid (by rw [HQ.out, if_pos q2])
        clear q2
        go_region_held3 (fun w' => w'.cell? ⟨w2.heap.size, 0, none⟩ = some (.int .i64 z1) ∧ w'.cell? ⟨w2.heap.size, 1, none⟩ = some (.int .i64 z2) ∧ w'.cell? ⟨w.heap.size, 0, none⟩ = some (.int .i64 rm))
          (first | (go_split_ands; (repeat' apply And.intro) <;> first | assumption | exact cell_later hb (by assumption)) | go_keep)
          (first
            | (go_at_call 73; refine (up_any z1 z2 _ HX.out.b0 HX.out.b1 HX.out.fa).mono ?_; rintro e wx ⟨rfl, hb⟩; rw [HLu.out]; have hB : Below W2.heap.size W2 wx := (by first | exact chain hB hb | exact chainD hB hb)))
        go_wp2_with fail
        have hBy := hBx.trans (hB.mono hBx.size)
        go_returns
        exact ⟨ret_ui HQ2.out.symm rfl, by go_grown⟩
      · have hd2 : decide (rm < lu) = false := by simpa using q2
        have HQ2 : Hid (u = 2) := Lib.hid (by rw [HQ.out, if_neg q2])
        clear q2
        go_region_held3 (fun w' => w'.cell? ⟨w2.heap.size, 0, none⟩ = some (.int .i64 z1) ∧ w'.cell? ⟨w2.heap.size, 1, none⟩ = some (.int .i64 z2) ∧ w'.cell? ⟨w.heap.size, 0, none⟩ = some (.int .i64 rm))
          (first | (go_split_ands; (repeat' apply And.intro) <;> first | assumption | exact cell_later hb (by assumption)) | go_keep)
          (first
            | (go_at_call 73; refine (up_any z1 z2 _ HX.out.b0 HX.out.b1 HX.out.fa).mono ?_; rintro e wx ⟨rfl, hb⟩; rw [HLu.out]; have hB : Below W2.heap.size W2 wx := (by first | exact chain hB hb | exact chainD hB hb)))
        go_wp2_with fail
        have hBy := hBx.trans (hB.mono hBx.size)
        go_returns
        exact ⟨ret_ui HQ2.out.symm rfl, by go_grown⟩
  · rw [if_neg h0]
    go_enter Try.func17, Try.ntmps17
    go_wp2_with fail
    refine (checkBoth_any rm he ar w0 w1' lk ow p0 p1 t0 t1 _).mono ?_
    rintro e w1 ⟨rfl, hb1⟩
    rw [HN.out]
    have hB1 : Below w.heap.size w w1 := (after (w := w) (by go_grown) hb1).1
    clear hb1 HV HN
    go_wp2_with fail
    go_returns
    exact ⟨rfl, by go_grown⟩
end Go.Proofs.Ytpedmjjkhcigkaa
