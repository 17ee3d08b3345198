/- Package gas: Valving. (Written by wip/genlift.py.) -/
import Derived.Test.YtpedmjjkhcigkaaGLiftM
import Derived.Test.YtpedmjjkhcigkaaGValv1
import Derived.Test.YtpedmjjkhcigkaaGEValv
namespace Go.Proofs.Ytpedmjjkhcigkaa
open Go.RowKit

def valvE (rm he ar w0 w1 lk ow p0 p1 t0 t1 : Int) : Ending := if bothN rm he ar w0 w1 lk ow p0 p1 t0 t1 = 0 then .returned (.tuple #[sp (max 0 ((he + ar) - fl (rm * p1) (t0 + w0))) (max 0 ((he + ar) - fl (rm * p0) (t1 + w1))), .int .i64 0]) else
  .returned (.tuple #[sp 0 0, .int .i64 (bothN rm he ar w0 w1 lk ow p0 p1 t0 t1)])
theorem valv_fair {rm he ar w0 w1 lk ow p0 p1 t0 t1 : Int} (hc : cellB rm he ar w0 w1 lk ow = true) (ha : airB p0 p1 t0 t1 = true) :
    Fairs (valvR (he + ar) rm) ((p0, t0, w0) :: mos p0 p1 t0 t1 w0 w1) ∧
    ∀ (Y : Nat) (W : World), Seven W Y rm he ar w0 w1 lk ow → GivesValv Y (valvR (he + ar) rm) ((p0, t0, w0) :: mos p0 p1 t0 t1 w0 w1) W := by
  obtain ⟨⟨r0, r1⟩, ⟨h0, h1⟩, ⟨a0', a1'⟩, x0, x1, x2⟩ := cell_ok hc
  obtain ⟨⟨p0', p1', p2'⟩, t0', t1', t2'⟩ := air_ok ha
  refine ⟨(valv_bound (by omega) (by omega) r0 r1 (by omega) p1' p2' t0' t1' t2' x0 x1 x2).fairs (by omega), fun Y W hY x hx w' hb' => ?_⟩
  obtain ⟨g1, g2, g3⟩ := mos_mem hx
  exact valving1_any Y rm he ar w0 w1 lk ow x.1 x.2.1 x.2.2 w' (hY.later hb') h0 h1 a0' a1' (by omega) (by omega) (by omega) (by omega) (by omega) (by omega) (by omega) (by omega)

set_option maxRecDepth 100000 in
set_option maxHeartbeats 4000000 in
theorem valv_any (rm he ar w0 w1' lk ow p0 p1 t0 t1 : Int) (w : World) :
    Calls Try.prog 27 #[cellV rm he ar w0 w1' lk ow, airV p0 p1 t0 t1] w fun e w' => e = valvE rm he ar w0 w1' lk ow p0 p1 t0 t1 ∧ Below w.heap.size w w' := by
  obtain ⟨n, hn⟩ : ∃ n, bothN rm he ar w0 w1' lk ow p0 p1 t0 t1 = n := ⟨_, rfl⟩
  have HN := Lib.hid hn
  have HV : Hid (n = 0 → cellB rm he ar w0 w1' lk ow = true ∧ airB p0 p1 t0 t1 = true) := Lib.hid (fun h => both_ok (hn.trans h))
  unfold valvE
  rw [hn]
  clear hn
  have hmf := makeFunc_run
  by_cases h0 : n = 0
  · subst h0
    rw [if_pos rfl]
    obtain ⟨hc, ha⟩ := HV.out rfl
    obtain ⟨hF, hS⟩ := valv_fair hc ha
    obtain ⟨E, hE⟩ : ∃ x, valvX (he + ar) rm p0 p1 t0 t1 w0 w1' = x := ⟨_, rfl⟩
    obtain ⟨⟨z1, z2⟩, z3, z4⟩ := E
    have hX := valv_ex hc ha hE
    obtain ⟨lo, hlo⟩ : ∃ x, (he + ar) - fl (rm * p1) (t0 + w0) = x := ⟨_, rfl⟩
    obtain ⟨hi, hhi⟩ : ∃ x, (he + ar) - fl (rm * p0) (t1 + w1') = x := ⟨_, rfl⟩
    rw [hlo, hhi] at hX ⊢
    clear hlo hhi
    have HX := Lib.hid hX
    have HE := Lib.hid (show exOf (valvR (he + ar) rm) (p0, t0, w0) (mos p0 p1 t0 t1 w0 w1') = _ from hE)
    have HF := Lib.hid hF
    have HS := Lib.hid hS
    clear hX hE hc ha HV hF hS
    go_enter Try.func27, Try.ntmps27
    go_wp2_with fail
    refine (checkBoth_any rm he ar w0 w1' lk ow p0 p1 t0 t1 _).mono ?_
    rintro e w1 ⟨rfl, hb1⟩
    rw [HN.out]
    have hB1 : Below w.heap.size w w1 := (after (w := w) (by go_grown) hb1).1
    have K1 := Lib.hid (show Seven w1 w.heap.size rm he ar w0 w1' lk ow from Seven.later ⟨by go_cell, by go_cell, by go_cell, by go_cell, by go_cell, by go_cell, by go_cell⟩ hb1)
    have A1 := Lib.hid (show Four w1 (w.heap.size + 1) p0 p1 t0 t1 from Four.later ⟨by go_cell, by go_cell, by go_cell, by go_cell⟩ hb1)
    have N1 := Lib.hid (show NewBox w1 (w.heap.size + 1 + 1) from NewBox.later ⟨by go_cell, by go_cell, by go_cell, by go_cell⟩ hb1)
    clear hb1
    obtain ⟨c0, c1, c2, c3, c4, c5, c6⟩ := K1.out
    obtain ⟨a0, a1, a2, a3⟩ := A1.out
    go_wp2_with fail
    refine (reach_Valv w.heap.size (valvR (he + ar) rm) p0 p1 t0 t1 w0 w1' _ (HS.out _ _ K1.out) HF.out).mono ?_
    rintro e w2 ⟨rfl, hb2⟩
    rw [HE.out]
    have hB2 : Below w.heap.size w w2 := hB1.trans (hb2.mono hB1.size)
    have N2 := Lib.hid (N1.out.later hb2)
    clear hb2 hB1 c0 c1 c2 c3 c4 c5 c6 a0 a1 a2 a3 N1 A1 K1
    go_wp2_with fail
    obtain ⟨W, hW⟩ : ∃ W, (w2.alloc (.cells #[.int .i64 z1, .int .i64 z2] 127)).alloc (.cells #[.int .i64 z3, .int .i64 z4] 127) = W := ⟨_, rfl⟩
    have b0 : W.cell? ⟨w2.heap.size, 0, none⟩ = some (.int .i64 z1) := by subst hW; go_cell
    have b1 : W.cell? ⟨w2.heap.size, 1, none⟩ = some (.int .i64 z2) := by subst hW; go_cell
    have d0 : W.cell? ⟨w2.heap.size + 1, 0, none⟩ = some (.int .i64 z3) := by subst hW; go_cell
    have d1 : W.cell? ⟨w2.heap.size + 1, 1, none⟩ = some (.int .i64 z4) := by subst hW; go_cell
    have hWb : Below w2.heap.size w2 W := by subst hW; go_grown
    have hBW : Below w.heap.size w W := hB2.trans (hWb.mono hB2.size)
    have hz := World.block_lt_of_cell? _ _ N2.out.c0
    have HNw := Lib.hid (N2.out.later hWb)
    rw [hW]
    clear hW hWb hB2 N2
    have hB : Below W.heap.size W W := Below.refl _ _
    go_region_held3 (fun w' => w'.cell? ⟨w2.heap.size, 0, none⟩ = some (.int .i64 z1) ∧ w'.cell? ⟨w2.heap.size, 1, none⟩ = some (.int .i64 z2) ∧ w'.cell? ⟨w2.heap.size + 1, 0, none⟩ = some (.int .i64 z3) ∧ w'.cell? ⟨w2.heap.size + 1, 1, none⟩ = some (.int .i64 z4))
      (first | (go_split_ands; (repeat' apply And.intro) <;> first | assumption | exact cell_later hb (by assumption) | ((repeat rw [cell_far _ _ (by omega)]); assumption)) | go_keep)
      (first
        | (go_at_call 73; refine (up_any _ _ _ (by first | exact HX.out.b0 | exact HX.out.d0) (by first | exact HX.out.b1 | exact HX.out.d1) (by first | exact HX.out.fa | exact HX.out.fc)).mono ?_; rintro e wx ⟨rfl, hb⟩; (first | rw [HX.out.lo] | rw [HX.out.hi]); have hB : Below W.heap.size W wx := (by first | exact chain hB hb | exact chainD hB hb); have c0 := (HNw.out.later hB).c0; have c1 := (HNw.out.later hB).c1; have f0 := (HNw.out.later hB).f0; have f1 := (HNw.out.later hB).f1))
    all_goals go_wp2_with fail
    all_goals have hBx := hBW.trans (hB.mono hBW.size)
    all_goals rw [Int.max_comm 0 lo, Int.max_comm 0 hi]
    all_goals exact bodyPost_ret (v := .tuple #[sp (max lo 0) (max hi 0), .int .i64 0]) (by simp [results, Try.results27, go_sem, *]) rfl ⟨rfl, by go_grown⟩
  · rw [if_neg h0]
    go_enter Try.func27, Try.ntmps27
    go_wp2_with fail
    refine (checkBoth_any rm he ar w0 w1' lk ow p0 p1 t0 t1 _).mono ?_
    rintro e w1 ⟨rfl, hb1⟩
    rw [HN.out]
    have hB1 : Below w.heap.size w w1 := (after (w := w) (by go_grown) hb1).1
    obtain ⟨l0, l1, lf0, lf1⟩ := show NewBox w1 (w.heap.size + 1 + 1) from NewBox.later ⟨by go_cell, by go_cell, by go_cell, by go_cell⟩ hb1
    clear hb1 HV HN
    go_wp2_with fail
    exact bodyPost_ret (v := .tuple #[sp 0 0, .int .i64 n]) (by simp [results, Try.results27, go_sem, *]) rfl ⟨rfl, by go_grown⟩
end Go.Proofs.Ytpedmjjkhcigkaa
