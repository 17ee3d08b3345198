/- Package gas: Ceiling. -/
import Derived.Test.YtpedmjjkhcigkaaGLiftM
import Derived.Test.YtpedmjjkhcigkaaGCeil1
import Derived.Test.YtpedmjjkhcigkaaGECeil
namespace Go.Proofs.Ytpedmjjkhcigkaa
open Go.RowKit

/-- The error of a cell and temperatures. -/
def ceilN (rm he ar w0 w1 lk ow t0 t1 : Int) : Int := if cellB rm he ar w0 w1 lk ow then (if spB t0 t1 1500 3500 then 0 else 2) else 31
def ceilE (rm he ar w0 w1 lk ow t0 t1 : Int) : Ending := if ceilN rm he ar w0 w1 lk ow t0 t1 = 0 then .returned (.tuple #[sp (fl ((he + ar) * (t0 + w0)) rm) (cl ((he + ar) * (t1 + w1)) rm), .int .i64 0]) else
  .returned (.tuple #[sp 0 0, .int .i64 (ceilN rm he ar w0 w1 lk ow t0 t1)])
theorem ceil_fair {rm he ar w0 w1 lk ow t0 t1 : Int} (hc : cellB rm he ar w0 w1 lk ow = true) (ha : spB t0 t1 1500 3500 = true) :
    Fairs (ceilR (he + ar) rm) ((0, t0, w0) :: mos 0 0 t0 t1 w0 w1) ∧
    ∀ (Y : Nat) (W : World), Seven W Y rm he ar w0 w1 lk ow → GivesCeil Y (ceilR (he + ar) rm) ((0, t0, w0) :: mos 0 0 t0 t1 w0 w1) W := by
  obtain ⟨⟨r0, r1⟩, ⟨h0, h1⟩, ⟨a0', a1'⟩, x0, x1, x2⟩ := cell_ok hc
  unfold spB at ha
  simp at ha
  obtain ⟨t0', t1', t2'⟩ := ha
  refine ⟨(ceil_bound (by omega) (by omega) r0 r1 t0' t1' t2' x0 x1 x2).fairs (by omega), fun Y W hY x hx w' hb' => ?_⟩
  obtain ⟨g1, g2, g3⟩ := mos_mem hx
  exact ceiling1_any Y rm he ar w0 w1 lk ow x.1 x.2.1 x.2.2 w' (hY.later hb') h0 h1 a0' a1' (by omega) (by omega) (by omega) (by omega)

set_option maxRecDepth 100000 in
set_option maxHeartbeats 4000000 in
theorem ceil_any (rm he ar w0 w1' lk ow t0 t1 : Int) (w : World) :
    Calls Try.prog 25 #[cellV rm he ar w0 w1' lk ow, sp t0 t1] w fun e w' => e = ceilE rm he ar w0 w1' lk ow t0 t1 ∧ Below w.heap.size w w' := by
  have hmf := makeFunc_run
  unfold ceilE ceilN
  by_cases hc : cellB rm he ar w0 w1' lk ow = true
  · by_cases ha : spB t0 t1 1500 3500 = true
    · rw [if_pos hc, if_pos ha, if_pos rfl]
      obtain ⟨hF, hS⟩ := ceil_fair hc ha
      obtain ⟨E, hE⟩ : ∃ x, ceilX (he + ar) rm 0 0 t0 t1 w0 w1' = x := ⟨_, rfl⟩
      obtain ⟨⟨z1, z2⟩, z3, z4⟩ := E
      have hX := ceil_ex hc ha hE
      obtain ⟨lo, hlo⟩ : ∃ x, fl ((he + ar) * (t0 + w0)) rm = x := ⟨_, rfl⟩
      obtain ⟨hi, hhi⟩ : ∃ x, cl ((he + ar) * (t1 + w1')) rm = x := ⟨_, rfl⟩
      rw [hlo, hhi] at hX ⊢
      clear hlo hhi
      have HX := Lib.hid hX
      have HE := Lib.hid (show exOf (ceilR (he + ar) rm) (0, t0, w0) (mos 0 0 t0 t1 w0 w1') = _ from hE)
      have HF := Lib.hid hF
      have HS := Lib.hid hS
      have HC := Lib.hid (cellN_yes hc)
      have HA := Lib.hid ha
      clear hX hE hc ha hF hS
      go_enter Try.func25, Try.ntmps25
      go_wp2_with fail
      refine (checkCell_any rm he ar w0 w1' lk ow _).mono ?_
      rintro e w1 ⟨rfl, hb1⟩
      rw [HC.out]
      have hB1 : Below w.heap.size w w1 := (after (w := w) (by go_grown) hb1).1
      have K1 := Lib.hid (show Seven w1 w.heap.size rm he ar w0 w1' lk ow from Seven.later ⟨by go_cell, by go_cell, by go_cell, by go_cell, by go_cell, by go_cell, by go_cell⟩ hb1)
      have A1 := Lib.hid (show Two2 w1 (w.heap.size + 1) t0 t1 from Two2.later ⟨by go_cell, by go_cell⟩ hb1)
      have N1 := Lib.hid (show NewBox w1 (w.heap.size + 1 + 1) from NewBox.later ⟨by go_cell, by go_cell, by go_cell, by go_cell⟩ hb1)
      clear hb1
      obtain ⟨a0, a1⟩ := A1.out
      go_wp2_with fail
      refine (isTemp_any t0 t1 _).mono ?_
      rintro e w3 ⟨rfl, hb3⟩
      rw [HA.out]
      have hB3 : Below w.heap.size w w3 := hB1.trans (hb3.mono hB1.size)
      have K3 := Lib.hid (K1.out.later hb3)
      have A3 := Lib.hid (A1.out.later hb3)
      have N3 := Lib.hid (N1.out.later hb3)
      clear hb3 hB1 K1 A1 N1 a0 a1
      obtain ⟨c0, c1, c2, c3, c4, c5, c6⟩ := K3.out
      obtain ⟨a0, a1⟩ := A3.out
      go_wp2_with fail
      refine (reach_Ceil w.heap.size (ceilR (he + ar) rm) 0 0 t0 t1 w0 w1' _ (HS.out _ _ K3.out) HF.out).mono ?_
      rintro e w2 ⟨rfl, hb2⟩
      rw [HE.out]
      have hB2 : Below w.heap.size w w2 := hB3.trans (hb2.mono hB3.size)
      have N2 := Lib.hid (N3.out.later hb2)
      clear hb2 hB3 c0 c1 c2 c3 c4 c5 c6 a0 a1 N3 A3 K3
      go_wp2_with fail
      refine (outwards_any z1 z2 z3 z4 _ HX.out.b0 HX.out.b1 HX.out.fa HX.out.d0 HX.out.d1 HX.out.fc).mono ?_
      rintro e w3 ⟨rfl, hb3⟩
      rw [HX.out.lo, HX.out.hi]
      have hB3 : Below w.heap.size w w3 := hB2.trans (hb3.mono hB2.size)
      obtain ⟨l0, l1, lf0, lf1⟩ := N2.out.later hb3
      clear hb3 hB2 N2
      go_wp2_with fail
      exact bodyPost_ret (v := .tuple #[sp lo hi, .int .i64 0]) (by simp [results, Try.results25, go_sem, *]) rfl ⟨rfl, by go_grown⟩
    · have ha' : spB t0 t1 1500 3500 = false := by simpa using ha
      rw [if_pos hc, ha', if_neg (by simp), if_neg (by simp)]
      have HC := Lib.hid (cellN_yes hc)
      have HA := Lib.hid ha'
      clear hc ha ha'
      go_enter Try.func25, Try.ntmps25
      go_wp2_with fail
      refine (checkCell_any rm he ar w0 w1' lk ow _).mono ?_
      rintro e w1 ⟨rfl, hb1⟩
      rw [HC.out]
      have hB1 : Below w.heap.size w w1 := (after (w := w) (by go_grown) hb1).1
      have A1 := Lib.hid (show Two2 w1 (w.heap.size + 1) t0 t1 from Two2.later ⟨by go_cell, by go_cell⟩ hb1)
      have N1 := Lib.hid (show NewBox w1 (w.heap.size + 1 + 1) from NewBox.later ⟨by go_cell, by go_cell, by go_cell, by go_cell⟩ hb1)
      clear hb1
      obtain ⟨a0, a1⟩ := A1.out
      go_wp2_with fail
      refine (isTemp_any t0 t1 _).mono ?_
      rintro e w3 ⟨rfl, hb3⟩
      rw [HA.out]
      have hB3 : Below w.heap.size w w3 := hB1.trans (hb3.mono hB1.size)
      obtain ⟨l0, l1, lf0, lf1⟩ := N1.out.later hb3
      clear hb3 hB1 A1 N1 a0 a1
      go_wp2_with fail
      exact bodyPost_ret (v := .tuple #[sp 0 0, .int .i64 2]) (by simp [results, Try.results25, go_sem, *]) rfl ⟨rfl, by go_grown⟩
  · have hc' : cellB rm he ar w0 w1' lk ow = false := by simpa using hc
    rw [if_neg hc, if_neg (by omega)]
    have HC := Lib.hid (cellN_no hc')
    clear hc hc'
    go_enter Try.func25, Try.ntmps25
    go_wp2_with fail
    refine (checkCell_any rm he ar w0 w1' lk ow _).mono ?_
    rintro e w1 ⟨rfl, hb1⟩
    rw [HC.out]
    have hB1 : Below w.heap.size w w1 := (after (w := w) (by go_grown) hb1).1
    obtain ⟨l0, l1, lf0, lf1⟩ := show NewBox w1 (w.heap.size + 1 + 1) from NewBox.later ⟨by go_cell, by go_cell, by go_cell, by go_cell⟩ hb1
    clear hb1
    go_wp2_with fail
    exact bodyPost_ret (v := .tuple #[sp 0 0, .int .i64 31]) (by simp [results, Try.results25, go_sem, *]) rfl ⟨rfl, by go_grown⟩
end Go.Proofs.Ytpedmjjkhcigkaa
