/- Package gas: Lift. (Written by wip/genlift.py.) -/
import Derived.Test.YtpedmjjkhcigkaaGLiftM
import Derived.Test.YtpedmjjkhcigkaaGLift1
import Derived.Test.YtpedmjjkhcigkaaGELift
namespace Go.Proofs.Ytpedmjjkhcigkaa
open Go.RowKit

def liftE (rm he ar w0 w1 lk ow p0 p1 t0 t1 : Int) : Ending := if bothN rm he ar w0 w1 lk ow p0 p1 t0 t1 = 0 then .returned (.tuple #[sp (25 * he + liftLo (he + ar) t0 t1 w0) (25 * he + liftHi (he + ar) t0 t1 w1), .int .i64 0]) else
  .returned (.tuple #[sp 0 0, .int .i64 (bothN rm he ar w0 w1 lk ow p0 p1 t0 t1)])
theorem lift_fair {rm he ar w0 w1 lk ow p0 p1 t0 t1 : Int} (hc : cellB rm he ar w0 w1 lk ow = true) (ha : airB p0 p1 t0 t1 = true) :
    Fairs (liftR he (he + ar)) ((p0, t0, w0) :: mos p0 p1 t0 t1 w0 w1) ∧
    ∀ (Y : Nat) (W : World), Seven W Y rm he ar w0 w1 lk ow → GivesLift Y (liftR he (he + ar)) ((p0, t0, w0) :: mos p0 p1 t0 t1 w0 w1) W := by
  obtain ⟨⟨r0, r1⟩, ⟨h0, h1⟩, ⟨a0', a1'⟩, x0, x1, x2⟩ := cell_ok hc
  obtain ⟨⟨p0', p1', p2'⟩, t0', t1', t2'⟩ := air_ok ha
  refine ⟨(lift_bound h0 h1 (by omega) (by omega) t0' t1' t2' x0 x1 x2).fairs (by omega), fun Y W hY x hx w' hb' => ?_⟩
  obtain ⟨g1, g2, g3⟩ := mos_mem hx
  exact lift1_any Y rm he ar w0 w1 lk ow x.1 x.2.1 x.2.2 w' (hY.later hb') h0 h1 a0' a1' (by omega) (by omega) (by omega) (by omega)

set_option maxRecDepth 100000 in
set_option maxHeartbeats 4000000 in
theorem lift_any (rm he ar w0 w1' lk ow p0 p1 t0 t1 : Int) (w : World) :
    Calls Try.prog 23 #[cellV rm he ar w0 w1' lk ow, airV p0 p1 t0 t1] w fun e w' => e = liftE rm he ar w0 w1' lk ow p0 p1 t0 t1 ∧ Below w.heap.size w w' := by
  obtain ⟨n, hn⟩ : ∃ n, bothN rm he ar w0 w1' lk ow p0 p1 t0 t1 = n := ⟨_, rfl⟩
  have HN := Lib.hid hn
  have HV : Hid (n = 0 → cellB rm he ar w0 w1' lk ow = true ∧ airB p0 p1 t0 t1 = true) := Lib.hid (fun h => both_ok (hn.trans h))
  unfold liftE
  rw [hn]
  clear hn
  have hmf := makeFunc_run
  by_cases h0 : n = 0
  · subst h0
    rw [if_pos rfl]
    obtain ⟨hc, ha⟩ := HV.out rfl
    obtain ⟨hF, hS⟩ := lift_fair hc ha
    obtain ⟨E, hE⟩ : ∃ x, liftX he (he + ar) p0 p1 t0 t1 w0 w1' = x := ⟨_, rfl⟩
    obtain ⟨⟨z1, z2⟩, z3, z4⟩ := E
    have hX := lift_ex hc ha hE
    obtain ⟨lo, hlo⟩ : ∃ x, 25 * he + liftLo (he + ar) t0 t1 w0 = x := ⟨_, rfl⟩
    obtain ⟨hi, hhi⟩ : ∃ x, 25 * he + liftHi (he + ar) t0 t1 w1' = x := ⟨_, rfl⟩
    rw [hlo, hhi] at hX ⊢
    clear hlo hhi
    have HX := Lib.hid hX
    have HE := Lib.hid (show exOf (liftR he (he + ar)) (p0, t0, w0) (mos p0 p1 t0 t1 w0 w1') = _ from hE)
    have HF := Lib.hid hF
    have HS := Lib.hid hS
    clear hX hE hc ha HV hF hS
    go_enter Try.func23, Try.ntmps23
    go_wp2_with fail
    refine (checkBoth_any rm he ar w0 w1' lk ow p0 p1 t0 t1 _).mono ?_
    rintro e w1 ⟨rfl, hb1⟩
    rw [HN.out]
    have hB1 : Below w.heap.size w w1 := (after (w := w) (by go_grown) hb1).1
    have K1 := Lib.hid (show Seven w1 w.heap.size rm he ar w0 w1' lk ow from Seven.later ⟨by go_cell, by go_cell, by go_cell, by go_cell, by go_cell, by go_cell, by go_cell⟩ hb1)
    have A1 := Lib.hid (show Four w1 (w.heap.size + 1) p0 p1 t0 t1 from Four.later ⟨by go_cell, by go_cell, by go_cell, by go_cell⟩ hb1)
    have N1 := Lib.hid (show NewBox w1 (w.heap.size + 1 + 1) from NewBox.later ⟨by go_cell, by go_cell, by go_cell, by go_cell⟩ hb1)
    clear hb1
    obtain ⟨c0, c1, c2, c3, c4, c5, c6⟩ := K1.out
    obtain ⟨a0, a1, a2, a3⟩ := A1.out
    go_wp2_with fail
    refine (reach_Lift w.heap.size (liftR he (he + ar)) p0 p1 t0 t1 w0 w1' _ (HS.out _ _ K1.out) HF.out).mono ?_
    rintro e w2 ⟨rfl, hb2⟩
    rw [HE.out]
    have hB2 : Below w.heap.size w w2 := hB1.trans (hb2.mono hB1.size)
    have N2 := Lib.hid (N1.out.later hb2)
    clear hb2 hB1 c0 c1 c2 c3 c4 c5 c6 a0 a1 a2 a3 N1 A1 K1
    go_wp2_with fail
    refine (outwards_any z1 z2 z3 z4 _ HX.out.b0 HX.out.b1 HX.out.fa HX.out.d0 HX.out.d1 HX.out.fc).mono ?_
    rintro e w3 ⟨rfl, hb3⟩
    rw [HX.out.lo, HX.out.hi]
    have hB3 : Below w.heap.size w w3 := hB2.trans (hb3.mono hB2.size)
    obtain ⟨l0, l1, lf0, lf1⟩ := N2.out.later hb3
    clear hb3 hB2 N2
    go_wp2_with fail
    exact bodyPost_ret (v := .tuple #[sp lo hi, .int .i64 0]) (by simp [results, Try.results23, go_sem, *]) rfl ⟨rfl, by go_grown⟩
  · rw [if_neg h0]
    go_enter Try.func23, Try.ntmps23
    go_wp2_with fail
    refine (checkBoth_any rm he ar w0 w1' lk ow p0 p1 t0 t1 _).mono ?_
    rintro e w1 ⟨rfl, hb1⟩
    rw [HN.out]
    have hB1 : Below w.heap.size w w1 := (after (w := w) (by go_grown) hb1).1
    obtain ⟨l0, l1, lf0, lf1⟩ := show NewBox w1 (w.heap.size + 1 + 1) from NewBox.later ⟨by go_cell, by go_cell, by go_cell, by go_cell⟩ hb1
    clear hb1 HV HN
    go_wp2_with fail
    exact bodyPost_ret (v := .tuple #[sp 0 0, .int .i64 n]) (by simp [results, Try.results23, go_sem, *]) rfl ⟨rfl, by go_grown⟩
end Go.Proofs.Ytpedmjjkhcigkaa
