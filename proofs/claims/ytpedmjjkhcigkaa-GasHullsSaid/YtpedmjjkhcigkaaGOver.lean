/- Package gas: overpressures, Over, Holds. -/
import Derived.Test.YtpedmjjkhcigkaaGTight
import Derived.Test.YtpedmjjkhcigkaaGOver1
import Derived.Test.YtpedmjjkhcigkaaGEOver
namespace Go.Proofs.Ytpedmjjkhcigkaa
open Go.RowKit

def overLo (rm gs w0 bl p1 t0 : Int) : Int := fl (endLo gs bl t0 w0) rm - p1
def overHi (rm gs w1 bl p0 t1 : Int) : Int := cl (endLo gs bl t1 w1) rm - p0
set_option maxRecDepth 100000 in
set_option maxHeartbeats 4000000 in
theorem overpressures_any (rm gs w0 w1' bl bg ls ms p0 p1 t0 t1 : Int) (w : World) (hh : hullB rm gs w0 w1' bl bg ls ms = true) (ha : airB p0 p1 t0 t1 = true) :
    Calls Try.prog 89 #[hullV rm gs w0 w1' bl bg ls ms, airV p0 p1 t0 t1] w fun e w' => e = .returned (sp (overLo rm gs w0 bl p1 t0) (overHi rm gs w1' bl p0 t1)) ∧ Below w.heap.size w w' := by
  obtain ⟨⟨r0, r1⟩, ⟨g0, g1⟩, ⟨x0, x1, x2⟩, ⟨b0, b1, b2⟩, l0, l1, l2⟩ := hull_ok hh
  obtain ⟨⟨p0', p1', p2'⟩, t0', t1', t2'⟩ := air_ok ha
  have hF := (over_bound (rm := rm) (gs := gs) (bl := bl) (p0 := p0) (p1 := p1) (t0 := t0) (t1 := t1) (w0 := w0) (w1 := w1') r0 r1 g0 g1 b0 (by omega) (by omega) p1' p2' t0' t1' t2' x0 x1 x2).fairs (by omega)
  have hS : ∀ (Y : Nat) (W : World), Eight W Y rm gs w0 w1' bl bg ls ms → GivesOver Y (overR rm gs bl) ((p0, t0, w0) :: mos p0 p1 t0 t1 w0 w1') W := fun Y W hY x hx w' hb' => by
    obtain ⟨h1, h2, h3⟩ := mos_mem hx
    exact over1_any Y rm gs w0 w1' bl bg ls ms x.1 x.2.1 x.2.2 w' (hY.later hb') r0 r1 g0 g1 b0 (by omega) (by omega) (by omega) (by omega) (by omega) (by omega) (by omega)
  obtain ⟨E, hE⟩ : ∃ x, overX rm gs bl p0 p1 t0 t1 w0 w1' = x := ⟨_, rfl⟩
  obtain ⟨⟨z1, z2⟩, z3, z4⟩ := E
  have hX := over_ex hh ha hE
  obtain ⟨lo, hlo⟩ : ∃ x, overLo rm gs w0 bl p1 t0 = x := ⟨_, rfl⟩
  obtain ⟨hi, hhi⟩ : ∃ x, overHi rm gs w1' bl p0 t1 = x := ⟨_, rfl⟩
  rw [hlo, hhi]
  unfold overLo at hlo
  unfold overHi at hhi
  rw [hlo, hhi] at hX
  have HX := Lib.hid hX
  have HE := Lib.hid (show exOf (overR rm gs bl) (p0, t0, w0) (mos p0 p1 t0 t1 w0 w1') = _ from hE)
  have HF := Lib.hid hF
  have HS := Lib.hid hS
  have hmf := makeFunc_run
  clear hX hE hF hS hlo hhi hh ha r0 r1 g0 g1 x0 x1 x2 b0 b1 b2 l0 l1 l2 p0' p1' p2' t0' t1' t2'
  go_enter Try.func89, Try.ntmps89
  go_wp2_with fail
  refine (reach_Over w.heap.size (overR rm gs bl) p0 p1 t0 t1 w0 w1' _ (HS.out _ _ ⟨by go_cell, by go_cell, by go_cell, by go_cell, by go_cell, by go_cell, by go_cell, by go_cell⟩) HF.out).mono ?_
  rintro e w2 ⟨rfl, hb2⟩
  rw [HE.out]
  have hB2 : Below w.heap.size w w2 := (after (w := w) (by go_grown) hb2).1
  have N2 := Lib.hid (show NewBox w2 (w.heap.size + 1 + 1) from NewBox.later ⟨by go_cell, by go_cell, by go_cell, by go_cell⟩ hb2)
  clear hb2 hmf
  go_wp2_with fail
  refine (outwards_any z1 z2 z3 z4 _ HX.out.b0 HX.out.b1 HX.out.fa HX.out.d0 HX.out.d1 HX.out.fc).mono ?_
  rintro e w3 ⟨rfl, hb3⟩
  rw [HX.out.lo, HX.out.hi]
  have hB3 : Below w.heap.size w w3 := hB2.trans (hb3.mono hB2.size)
  obtain ⟨l0, l1, lf0, lf1⟩ := N2.out.later hb3
  clear hb3 hB2 N2
  go_wp2_with fail
  exact bodyPost_ret (v := sp lo hi) (by simp [results, Try.results89, go_sem, *]) rfl ⟨rfl, by go_grown⟩

def overE (rm gs w0 w1 bl bg ls ms p0 p1 t0 t1 : Int) : Ending := if tightN rm gs w0 w1 bl bg ls ms p0 p1 t0 t1 = 0 then .returned (.tuple #[sp (overLo rm gs w0 bl p1 t0) (overHi rm gs w1 bl p0 t1), .int .i64 0]) else
  .returned (.tuple #[sp 0 0, .int .i64 (tightN rm gs w0 w1 bl bg ls ms p0 p1 t0 t1)])
def holdE (rm gs w0 w1 bl bg ls ms p0 p1 t0 t1 : Int) : Ending := if tightN rm gs w0 w1 bl bg ls ms p0 p1 t0 t1 = 0 then .returned (.tuple #[.bool (holdB rm gs w0 w1 bl ls ms p0 p1 t0 t1), .int .i64 0]) else
  .returned (.tuple #[.bool false, .int .i64 (tightN rm gs w0 w1 bl bg ls ms p0 p1 t0 t1)])

set_option maxRecDepth 100000 in
set_option maxHeartbeats 4000000 in
theorem over_any (rm gs w0 w1' bl bg ls ms p0 p1 t0 t1 : Int) (w : World) :
    Calls Try.prog 29 #[hullV rm gs w0 w1' bl bg ls ms, airV p0 p1 t0 t1] w fun e w' => e = overE rm gs w0 w1' bl bg ls ms p0 p1 t0 t1 ∧ Below w.heap.size w w' := by
  obtain ⟨n, hn⟩ : ∃ n, tightN rm gs w0 w1' bl bg ls ms p0 p1 t0 t1 = n := ⟨_, rfl⟩
  have HN := Lib.hid hn
  have HV : Hid (n = 0 → hullB rm gs w0 w1' bl bg ls ms = true ∧ airB p0 p1 t0 t1 = true) := Lib.hid (fun h => tight_ok (hn.trans h))
  unfold overE
  rw [hn]
  clear hn
  by_cases h0 : n = 0
  · subst h0
    rw [if_pos rfl]
    obtain ⟨lo, hlo⟩ : ∃ x, overLo rm gs w0 bl p1 t0 = x := ⟨_, rfl⟩
    obtain ⟨hi, hhi⟩ : ∃ x, overHi rm gs w1' bl p0 t1 = x := ⟨_, rfl⟩
    rw [hlo, hhi]
    have HLo := Lib.hid hlo
    have HHi := Lib.hid hhi
    clear hlo hhi
    go_enter Try.func29, Try.ntmps29
    go_wp2_with fail
    refine (checkHullIn_any rm gs w0 w1' bl bg ls ms p0 p1 t0 t1 _).mono ?_
    rintro e w1 ⟨rfl, hb1⟩
    rw [HN.out]
    have hB1 : Below w.heap.size w w1 := (after (w := w) (by go_grown) hb1).1
    have K1 := Lib.hid (show Eight w1 w.heap.size rm gs w0 w1' bl bg ls ms from Eight.later ⟨by go_cell, by go_cell, by go_cell, by go_cell, by go_cell, by go_cell, by go_cell, by go_cell⟩ hb1)
    have A1 := Lib.hid (show Four w1 (w.heap.size + 1) p0 p1 t0 t1 from Four.later ⟨by go_cell, by go_cell, by go_cell, by go_cell⟩ hb1)
    have N1 := Lib.hid (show NewBox w1 (w.heap.size + 1 + 1) from NewBox.later ⟨by go_cell, by go_cell, by go_cell, by go_cell⟩ hb1)
    clear hb1
    obtain ⟨c0, c1, c2, c3, c4, c5, c6, c7⟩ := K1.out
    obtain ⟨a0, a1, a2, a3⟩ := A1.out
    go_wp2_with fail
    refine (overpressures_any rm gs w0 w1' bl bg ls ms p0 p1 t0 t1 _ (HV.out (by trivial)).1 (HV.out (by trivial)).2).mono ?_
    rintro e w2 ⟨rfl, hb2⟩
    rw [HLo.out, HHi.out]
    have hB2 : Below w.heap.size w w2 := hB1.trans (hb2.mono hB1.size)
    obtain ⟨l0, l1, lf0, lf1⟩ := N1.out.later hb2
    clear hb2 hB1 c0 c1 c2 c3 c4 c5 c6 c7 a0 a1 a2 a3 N1 A1 K1
    go_wp2_with fail
    exact bodyPost_ret (v := .tuple #[sp lo hi, .int .i64 0]) (by simp [results, Try.results29, go_sem, *]) rfl ⟨rfl, by go_grown⟩
  · rw [if_neg h0]
    go_enter Try.func29, Try.ntmps29
    go_wp2_with fail
    refine (checkHullIn_any rm gs w0 w1' bl bg ls ms p0 p1 t0 t1 _).mono ?_
    rintro e w1 ⟨rfl, hb1⟩
    rw [HN.out]
    have hB1 : Below w.heap.size w w1 := (after (w := w) (by go_grown) hb1).1
    have K1 := Lib.hid (show Eight w1 w.heap.size rm gs w0 w1' bl bg ls ms from Eight.later ⟨by go_cell, by go_cell, by go_cell, by go_cell, by go_cell, by go_cell, by go_cell, by go_cell⟩ hb1)
    have A1 := Lib.hid (show Four w1 (w.heap.size + 1) p0 p1 t0 t1 from Four.later ⟨by go_cell, by go_cell, by go_cell, by go_cell⟩ hb1)
    obtain ⟨l0, l1, lf0, lf1⟩ := show NewBox w1 (w.heap.size + 1 + 1) from NewBox.later ⟨by go_cell, by go_cell, by go_cell, by go_cell⟩ hb1
    clear hb1 HV HN K1 A1
    go_wp2_with fail
    exact bodyPost_ret (v := .tuple #[sp 0 0, .int .i64 n]) (by simp [results, Try.results29, go_sem, *]) rfl ⟨rfl, by go_grown⟩

set_option maxRecDepth 100000 in
set_option maxHeartbeats 4000000 in
theorem holds_any (rm gs w0 w1' bl bg ls ms p0 p1 t0 t1 : Int) (w : World) :
    Calls Try.prog 31 #[hullV rm gs w0 w1' bl bg ls ms, airV p0 p1 t0 t1] w fun e w' => e = holdE rm gs w0 w1' bl bg ls ms p0 p1 t0 t1 ∧ Below w.heap.size w w' := by
  obtain ⟨n, hn⟩ : ∃ n, tightN rm gs w0 w1' bl bg ls ms p0 p1 t0 t1 = n := ⟨_, rfl⟩
  have HN := Lib.hid hn
  have HV : Hid (n = 0 → hullB rm gs w0 w1' bl bg ls ms = true ∧ airB p0 p1 t0 t1 = true) := Lib.hid (fun h => tight_ok (hn.trans h))
  unfold holdE
  rw [hn]
  clear hn
  by_cases h0 : n = 0
  · subst h0
    rw [if_pos rfl]
    have hsame : spB (overLo rm gs w0 bl p1 t0) (overHi rm gs w1' bl p0 t1) ls ms = holdB rm gs w0 w1' bl ls ms p0 p1 t0 t1 := hold_same (HV.out (by trivial)).1 (HV.out (by trivial)).2
    rw [← hsame]
    obtain ⟨lo, hlo⟩ : ∃ x, overLo rm gs w0 bl p1 t0 = x := ⟨_, rfl⟩
    obtain ⟨hi, hhi⟩ : ∃ x, overHi rm gs w1' bl p0 t1 = x := ⟨_, rfl⟩
    rw [hlo, hhi]
    have HLo := Lib.hid hlo
    have HHi := Lib.hid hhi
    obtain ⟨u, hu⟩ : ∃ u, spB lo hi ls ms = u := ⟨_, rfl⟩
    rw [hu]
    have HU := Lib.hid hu
    clear hlo hhi hsame hu
    go_enter Try.func31, Try.ntmps31
    go_wp2_with fail
    refine (checkHullIn_any rm gs w0 w1' bl bg ls ms p0 p1 t0 t1 _).mono ?_
    rintro e w1 ⟨rfl, hb1⟩
    rw [HN.out]
    have hB1 : Below w.heap.size w w1 := (after (w := w) (by go_grown) hb1).1
    have K1 := Lib.hid (show Eight w1 w.heap.size rm gs w0 w1' bl bg ls ms from Eight.later ⟨by go_cell, by go_cell, by go_cell, by go_cell, by go_cell, by go_cell, by go_cell, by go_cell⟩ hb1)
    have A1 := Lib.hid (show Four w1 (w.heap.size + 1) p0 p1 t0 t1 from Four.later ⟨by go_cell, by go_cell, by go_cell, by go_cell⟩ hb1)
    clear hb1
    obtain ⟨c0, c1, c2, c3, c4, c5, c6, c7⟩ := K1.out
    obtain ⟨a0, a1, a2, a3⟩ := A1.out
    go_wp2_with fail
    refine (overpressures_any rm gs w0 w1' bl bg ls ms p0 p1 t0 t1 _ (HV.out (by trivial)).1 (HV.out (by trivial)).2).mono ?_
    rintro e w2 ⟨rfl, hb2⟩
    rw [HLo.out, HHi.out]
    have hB2 : Below w.heap.size w w2 := hB1.trans (hb2.mono hB1.size)
    have K2 := Lib.hid (K1.out.later hb2)
    clear hb2 hB1 c0 c1 c2 c3 c4 c5 c6 c7 a0 a1 a2 a3 A1 K1
    obtain ⟨c0, c1, c2, c3, c4, c5, c6, c7⟩ := K2.out
    have hz := World.block_lt_of_cell? _ _ c0
    go_wp2_with fail
    refine (inOrder4 _ ls lo hi ms _ (by go_cell) (by go_cell) (by go_cell) (by go_cell)).mono ?_
    rintro e w3 ⟨rfl, hb3⟩
    rw [HU.out]
    have hB3 : Below w.heap.size w w3 := (after (w := w) (by have := hB2.size; go_grown) hb3).1
    clear hb3 hB2 c0 c1 c2 c3 c4 c5 c6 c7 K2
    go_wp2_with fail
    exact bodyPost_ret (v := .tuple #[.bool u, .int .i64 0]) (by simp [results, Try.results31, go_sem, *]) rfl ⟨rfl, by go_grown⟩
  · rw [if_neg h0]
    go_enter Try.func31, Try.ntmps31
    go_wp2_with fail
    refine (checkHullIn_any rm gs w0 w1' bl bg ls ms p0 p1 t0 t1 _).mono ?_
    rintro e w1 ⟨rfl, hb1⟩
    rw [HN.out]
    have hB1 : Below w.heap.size w w1 := (after (w := w) (by go_grown) hb1).1
    have K1 := Lib.hid (show Eight w1 w.heap.size rm gs w0 w1' bl bg ls ms from Eight.later ⟨by go_cell, by go_cell, by go_cell, by go_cell, by go_cell, by go_cell, by go_cell, by go_cell⟩ hb1)
    have A1 := Lib.hid (show Four w1 (w.heap.size + 1) p0 p1 t0 t1 from Four.later ⟨by go_cell, by go_cell, by go_cell, by go_cell⟩ hb1)
    clear hb1 HV HN K1 A1
    go_wp2_with fail
    exact bodyPost_ret (v := .tuple #[.bool false, .int .i64 n]) (by simp [results, Try.results31, go_sem, *]) rfl ⟨rfl, by go_grown⟩
end Go.Proofs.Ytpedmjjkhcigkaa
