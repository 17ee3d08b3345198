/- The reference of layer 3: Lift. -/
import Derived.Test.YtpedmjjkhcigkaaGLift
namespace Go.Proofs.Ytpedmjjkhcigkaa
open Go.RowKit

set_option maxRecDepth 100000 in
set_option maxHeartbeats 8000000 in
theorem rLift_any (rm he ar w0 w1' lk ow p0 p1 t0 t1 : Int) (w : World) :
    Calls Try.prog 24 #[cellV rm he ar w0 w1' lk ow, airV p0 p1 t0 t1] w fun e w' => e = liftE rm he ar w0 w1' lk ow p0 p1 t0 t1 ∧ Below w.heap.size w w' := by
  obtain ⟨n, hn⟩ : ∃ n, bothN rm he ar w0 w1' lk ow p0 p1 t0 t1 = n := ⟨_, rfl⟩
  have HN := Lib.hid hn
  have HV : Hid (n = 0 → cellB rm he ar w0 w1' lk ow = true ∧ airB p0 p1 t0 t1 = true) := Lib.hid (fun h => both_ok (hn.trans h))
  unfold liftE liftLo liftHi
  rw [hn]
  clear hn
  by_cases h0 : n = 0
  · subst h0
    rw [if_pos rfl]
    obtain ⟨hc, ha⟩ := HV.out rfl
    obtain ⟨⟨r0, r1⟩, ⟨h0, h1⟩, ⟨a0', a1'⟩, x0, x1, x2⟩ := cell_ok hc
    obtain ⟨⟨p0', p1', p2'⟩, t0', t1', t2'⟩ := air_ok ha
    obtain ⟨X, hX⟩ : ∃ X, 29 * (he + ar) * w0 = X := ⟨_, rfl⟩
    obtain ⟨lx0, lx1⟩ := mul_lim2 (x := 29 * (he + ar)) (y := w0) (m := 580000000) (n := 300) (by omega) (by omega) (by omega) (by omega)
    rw [hX] at lx0 lx1
    have ex : IntKind.i64.wrap X = X := IntWalk.i64_in _ ⟨by omega, by omega⟩
    obtain ⟨Z, hZ⟩ : ∃ Z, 29 * (he + ar) * w1' = Z := ⟨_, rfl⟩
    obtain ⟨lz0, lz1⟩ := mul_lim2 (x := 29 * (he + ar)) (y := w1') (m := 580000000) (n := 300) (by omega) (by omega) (by omega) (by omega)
    rw [hZ] at lz0 lz1
    have ez : IntKind.i64.wrap Z = Z := IntWalk.i64_in _ ⟨by omega, by omega⟩
    have e29 : IntKind.i64.wrap (29 * (he + ar)) = 29 * (he + ar) := IntWalk.i64_in _ ⟨by omega, by omega⟩
    rw [hX, hZ]
    obtain ⟨q0, q1⟩ := fl_lim (n := X) (d := t0) (N := 580000000 * 300) (by omega) (by omega) (by omega) (by omega)
    obtain ⟨q2, q3⟩ := fl_lim (n := X) (d := t1) (N := 580000000 * 300) (by omega) (by omega) (by omega) (by omega)
    obtain ⟨q4, q5⟩ := cl_lim (n := Z) (d := t0) (N := 580000000 * 300) (by omega) (by omega) (by omega) (by omega)
    obtain ⟨q6, q7⟩ := cl_lim (n := Z) (d := t1) (N := 580000000 * 300) (by omega) (by omega) (by omega) (by omega)
    obtain ⟨lo0, hlo0⟩ : ∃ x, fl X t0 = x := ⟨_, rfl⟩
    obtain ⟨lo1, hlo1⟩ : ∃ x, fl X t1 = x := ⟨_, rfl⟩
    obtain ⟨hi0, hhi0⟩ : ∃ x, cl Z t0 = x := ⟨_, rfl⟩
    obtain ⟨hi1, hhi1⟩ : ∃ x, cl Z t1 = x := ⟨_, rfl⟩
    rw [hlo0] at q0 q1 ⊢
    rw [hlo1] at q2 q3 ⊢
    rw [hhi0] at q4 q5 ⊢
    rw [hhi1] at q6 q7 ⊢
    have v1 : IntKind.i64.wrap (25 * he) = 25 * he := IntWalk.i64_in _ ⟨by omega, by omega⟩
    have v2 : IntKind.i64.wrap (25 * he + min lo0 lo1) = 25 * he + min lo0 lo1 := IntWalk.i64_in _ ⟨by omega, by omega⟩
    have v3 : IntKind.i64.wrap (25 * he + max hi0 hi1) = 25 * he + max hi0 hi1 := IntWalk.i64_in _ ⟨by omega, by omega⟩
    have L0 := Lib.hid hlo0
    have L1 := Lib.hid hlo1
    have G0 := Lib.hid hhi0
    have G1 := Lib.hid hhi1
    clear hlo0 hlo1 hhi0 hhi1 hc ha HV q0 q1 q2 q3 q4 q5 q6 q7
    go_enter Try.func24, Try.ntmps24
    go_wp2_with fail
    refine (rasked_any rm he ar w0 w1' lk ow p0 p1 t0 t1 _).mono ?_
    rintro e w1 ⟨rfl, hb1⟩
    rw [HN.out]
    have hB1 : Below w.heap.size w w1 := (after (w := w) (by go_grown) hb1).1
    have KW := Lib.hid (show Seven w1 w.heap.size rm he ar w0 w1' lk ow from Seven.later ⟨by go_cell, by go_cell, by go_cell, by go_cell, by go_cell, by go_cell, by go_cell⟩ hb1)
    have AW := Lib.hid (show Four w1 (w.heap.size + 1) p0 p1 t0 t1 from Four.later ⟨by go_cell, by go_cell, by go_cell, by go_cell⟩ hb1)
    have NW := Lib.hid (show NewBox w1 (w.heap.size + 1 + 1) from NewBox.later ⟨by go_cell, by go_cell, by go_cell, by go_cell⟩ hb1)
    clear hb1
    generalize w1 = W at *
    obtain ⟨c0, c1, c2, c3, c4, c5, c6⟩ := KW.out
    obtain ⟨a0, a1, a2, a3⟩ := AW.out
    have hB : Below W.heap.size W W := Below.refl _ _
    go_wp2_with fail
    go_region_held3 (fun w' => w'.cell? ⟨w.heap.size + 1, 2, none⟩ = some (.int .i64 t0) ∧ w'.cell? ⟨w.heap.size + 1, 3, none⟩ = some (.int .i64 t1) ∧
        w'.cell? ⟨w.heap.size, 0, none⟩ = some (.int .i64 rm) ∧ w'.cell? ⟨w.heap.size, 1, none⟩ = some (.int .i64 he) ∧ w'.cell? ⟨w.heap.size, 2, none⟩ = some (.int .i64 ar) ∧ w'.cell? ⟨w.heap.size, 3, none⟩ = some (.int .i64 w0) ∧ w'.cell? ⟨w.heap.size, 4, none⟩ = some (.int .i64 w1') ∧ w'.cell? ⟨w.heap.size, 5, none⟩ = some (.int .i64 lk) ∧ w'.cell? ⟨w.heap.size, 6, none⟩ = some (.int .i64 ow))
      (first | (go_split_ands; (repeat' apply And.intro) <;> first | assumption | exact cell_later hb (by assumption)) | go_keep)
      (first
        | (go_at_call 71; refine (ramount_any _ _ _ _ _ _ _ _ h0 h1 a0' a1').mono ?_; rintro e wx ⟨rfl, hb⟩; have hB : Below W.heap.size W wx := (by first | exact chain hB hb | exact chainD hB hb))
        | (go_at_call 70; refine (rfloor_any _ _ _ (by omega) (by omega) (by omega) (by omega)).mono ?_; rintro e wx ⟨rfl, rfl⟩; (first | rw [L0.out] | rw [L1.out])))
    have hB2 := hB1.trans (hB.mono hB1.size)
    have KX := Lib.hid (KW.out.later hB)
    have AX := Lib.hid (AW.out.later hB)
    have NX := Lib.hid (NW.out.later hB)
    clear c0 c1 c2 c3 c4 c5 c6 a0 a1 a2 a3 hB hB1 KW AW NW
    generalize wx = W at *
    obtain ⟨c0, c1, c2, c3, c4, c5, c6⟩ := KX.out
    obtain ⟨a0, a1, a2, a3⟩ := AX.out
    have hB : Below W.heap.size W W := Below.refl _ _
    go_wp2_with fail
    go_region_held3 (fun w' => w'.cell? ⟨w.heap.size + 1, 2, none⟩ = some (.int .i64 t0) ∧ w'.cell? ⟨w.heap.size + 1, 3, none⟩ = some (.int .i64 t1) ∧
        w'.cell? ⟨w.heap.size, 0, none⟩ = some (.int .i64 rm) ∧ w'.cell? ⟨w.heap.size, 1, none⟩ = some (.int .i64 he) ∧ w'.cell? ⟨w.heap.size, 2, none⟩ = some (.int .i64 ar) ∧ w'.cell? ⟨w.heap.size, 3, none⟩ = some (.int .i64 w0) ∧ w'.cell? ⟨w.heap.size, 4, none⟩ = some (.int .i64 w1') ∧ w'.cell? ⟨w.heap.size, 5, none⟩ = some (.int .i64 lk) ∧ w'.cell? ⟨w.heap.size, 6, none⟩ = some (.int .i64 ow))
      (first | (go_split_ands; (repeat' apply And.intro) <;> first | assumption | exact cell_later hb (by assumption)) | go_keep)
      (first
        | (go_at_call 71; refine (ramount_any _ _ _ _ _ _ _ _ h0 h1 a0' a1').mono ?_; rintro e wx ⟨rfl, hb⟩; have hB : Below W.heap.size W wx := (by first | exact chain hB hb | exact chainD hB hb))
        | (go_at_call 72; refine (rceil_any _ _ _ (by omega) (by omega) (by omega) (by omega)).mono ?_; rintro e wx ⟨rfl, rfl⟩; (first | rw [G0.out] | rw [G1.out])))
    have hB3 := hB2.trans (hB.mono hB2.size)
    clear c0 c1 c2 c3 c4 c5 c6 a0 a1 a2 a3
    obtain ⟨c0, c1, c2, c3, c4, c5, c6⟩ := KX.out.later hB
    obtain ⟨l0, l1, lf0, lf1⟩ := NX.out.later hB
    clear hB hB2 KX AX NX
    generalize wx = W at *
    go_wp2_with fail
    exact bodyPost_ret (v := .tuple #[sp (25 * he + min lo0 lo1) (25 * he + max hi0 hi1), .int .i64 0]) (by simp [results, Try.results24, go_sem, *]) rfl ⟨rfl, by go_grown⟩
  · rw [if_neg h0]
    go_enter Try.func24, Try.ntmps24
    go_wp2_with fail
    refine (rasked_any rm he ar w0 w1' lk ow p0 p1 t0 t1 _).mono ?_
    rintro e w1 ⟨rfl, hb1⟩
    rw [HN.out]
    have hB1 : Below w.heap.size w w1 := (after (w := w) (by go_grown) hb1).1
    obtain ⟨l0, l1, lf0, lf1⟩ := show NewBox w1 (w.heap.size + 1 + 1) from NewBox.later ⟨by go_cell, by go_cell, by go_cell, by go_cell⟩ hb1
    clear hb1 HV HN
    go_wp2_with fail
    exact bodyPost_ret (v := .tuple #[sp 0 0, .int .i64 n]) (by simp [results, Try.results24, go_sem, *]) rfl ⟨rfl, by go_grown⟩
end Go.Proofs.Ytpedmjjkhcigkaa
