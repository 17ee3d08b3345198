/- Package gas: volumes, Volume, Fits. -/
import Derived.Test.YtpedmjjkhcigkaaGBoth
import Derived.Test.YtpedmjjkhcigkaaGVol
import Derived.Test.YtpedmjjkhcigkaaGEVol
namespace Go.Proofs.Ytpedmjjkhcigkaa
open Go.RowKit

theorem makeFunc_run : ∀ (fn : Fn) (first cap : Array Value) (w : World), (Instr.makeFunc fn first cap).run Try.prog w = .ok (.func fn first cap) w := fun _ _ _ _ => rfl
/-- The extremes of a cell's volumes. -/
abbrev volE (A p0 p1 t0 t1 w0 w1 : Int) : (Int × Int) × (Int × Int) := exOf (volR A) (p0, t0, w0) (mos p0 p1 t0 t1 w0 w1)

set_option maxHeartbeats 2000000 in
theorem volumes_any (rm he ar w0 w1' lk ow p0 p1 t0 t1 : Int) (w : World) (hc : cellB rm he ar w0 w1' lk ow = true) (ha : airB p0 p1 t0 t1 = true) :
    Calls Try.prog 67 #[cellV rm he ar w0 w1' lk ow, airV p0 p1 t0 t1] w fun e w' =>
      e = .returned (.tuple #[sp (volE (he + ar) p0 p1 t0 t1 w0 w1').1.1 (volE (he + ar) p0 p1 t0 t1 w0 w1').1.2, sp (volE (he + ar) p0 p1 t0 t1 w0 w1').2.1 (volE (he + ar) p0 p1 t0 t1 w0 w1').2.2]) ∧ Below w.heap.size w w' := by
  obtain ⟨⟨r0, r1⟩, ⟨h0, h1⟩, ⟨a0', a1'⟩, x0, x1, x2⟩ := cell_ok hc
  obtain ⟨⟨p0', p1', p2'⟩, t0', t1', t2'⟩ := air_ok ha
  have hF := (vol_bound (A := he + ar) (p0 := p0) (p1 := p1) (t0 := t0) (t1 := t1) (w0 := w0) (w1 := w1') (by omega) (by omega) (by omega) p1' p2' t0' t1' t2' x0 x1 x2).fairs (by omega)
  have hS : ∀ (Y : Nat) (W : World), Seven W Y rm he ar w0 w1' lk ow → GivesVol Y (volR (he + ar)) ((p0, t0, w0) :: mos p0 p1 t0 t1 w0 w1') W := fun Y W hY x hx w' hb' => by
    obtain ⟨g1, g2, g3⟩ := mos_mem hx
    exact volumes1_any Y rm he ar w0 w1' lk ow x.1 x.2.1 x.2.2 w' (hY.later hb') h0 h1 a0' a1' (by omega) (by omega) (by omega) (by omega)
  obtain ⟨E, hE⟩ : ∃ x, volE (he + ar) p0 p1 t0 t1 w0 w1' = x := ⟨_, rfl⟩
  obtain ⟨⟨z1, z2⟩, z3, z4⟩ := E
  rw [hE]
  have HE := Lib.hid (show exOf (volR (he + ar)) (p0, t0, w0) (mos p0 p1 t0 t1 w0 w1') = _ from hE)
  have HF := Lib.hid hF
  have HS := Lib.hid hS
  have hmf := makeFunc_run
  clear hE hF hS hc ha r0 r1 h0 h1 a0' a1' x0 x1 x2 p0' p1' p2' t0' t1' t2'
  go_enter Try.func67, Try.ntmps67
  go_wp2_with fail
  refine (reach_Vol w.heap.size (volR (he + ar)) p0 p1 t0 t1 w0 w1' _ (HS.out _ _ ⟨by go_cell, by go_cell, by go_cell, by go_cell, by go_cell, by go_cell, by go_cell⟩) HF.out).mono ?_
  rintro e w1 ⟨rfl, hb1⟩
  rw [HE.out]
  have hB1 : Below w.heap.size w w1 := (after (w := w) (by go_grown) hb1).1
  have nl : Box2 w1 (w.heap.size + 1 + 1) 0 0 := Box2.later ⟨by go_cell, by go_cell, by go_cell, by go_cell⟩ hb1
  have ng : Box2 w1 (w.heap.size + 1 + 1 + 1) 0 0 := Box2.later ⟨by go_cell, by go_cell, by go_cell, by go_cell⟩ hb1
  clear hb1 hmf
  obtain ⟨l0, l1, lf0, lf1⟩ := nl
  obtain ⟨g0, g1, gf0, gf1⟩ := ng
  go_wp2_with fail
  exact bodyPost_ret (v := .tuple #[sp z1 z2, sp z3 z4]) (by simp [results, Try.results67, go_sem, *]) rfl ⟨rfl, by go_grown⟩

/-- What Volume returns. -/
def volumeE (rm he ar w0 w1 lk ow p0 p1 t0 t1 : Int) : Ending := if bothN rm he ar w0 w1 lk ow p0 p1 t0 t1 = 0 then .returned (.tuple #[sp (fl ((he + ar) * (t0 + w0)) p1) (cl ((he + ar) * (t1 + w1)) p0), .int .i64 0]) else
  .returned (.tuple #[sp 0 0, .int .i64 (bothN rm he ar w0 w1 lk ow p0 p1 t0 t1)])
/-- What the extremes come to. -/
structure VolX (A p0 p1 t0 t1 w0 w1 a b c d : Int) : Prop where
  b0 : 1 ≤ b
  b1 : b ≤ 4611686018427387904
  d0 : 1 ≤ d
  d1 : d ≤ 4611686018427387904
  fa : Fair a
  fc : Fair c
  lo : fl a b = fl (A * (t0 + w0)) p1
  hi : cl c d = cl (A * (t1 + w1)) p0
  up : cl a b = cl (A * (t0 + w0)) p1
theorem vol_ex {rm he ar w0 w1 lk ow p0 p1 t0 t1 a b c d : Int} (hc : cellB rm he ar w0 w1 lk ow = true) (ha : airB p0 p1 t0 t1 = true) (hE : volE (he + ar) p0 p1 t0 t1 w0 w1 = ((a, b), (c, d))) :
    VolX (he + ar) p0 p1 t0 t1 w0 w1 a b c d := by
  obtain ⟨⟨r0, r1⟩, ⟨h0, h1⟩, ⟨a0', a1'⟩, x0, x1, x2⟩ := cell_ok hc
  obtain ⟨⟨p0', p1', p2'⟩, t0', t1', t2'⟩ := air_ok ha
  have hB := vol_bound (A := he + ar) (p0 := p0) (p1 := p1) (t0 := t0) (t1 := t1) (w0 := w0) (w1 := w1) (by omega) (by omega) (by omega) p1' p2' t0' t1' t2' x0 x1 x2
  obtain ⟨⟨e1, e2, e3, e4⟩, e5, e6, e7, e8⟩ := hB.ends hE
  have hl : ∀ {f : Int → Int → Int}, Mono f → f a b = f ((he + ar) * (t0 + w0)) p1 := fun hf =>
    ex_least hB.pos hf hE (p1, t0, w0) (mos_has (.inr rfl) (.inl rfl) (.inl rfl)) (fun x hx => vol_least (by omega) (by omega) p1' t0' t1' x0 x1 hx)
  have hg : ∀ {f : Int → Int → Int}, Mono f → f c d = f ((he + ar) * (t1 + w1)) p0 := fun hf =>
    ex_greatest hB.pos hf hE (p0, t1, w1) (mos_has (.inl rfl) (.inr rfl) (.inr rfl)) (fun x hx => vol_greatest (by omega) (by omega) p1' t0' t1' x0 x1 hx)
  exact ⟨e3, by omega, e7, by omega, ⟨by omega, by omega⟩, ⟨by omega, by omega⟩, hl mono_fl, hg mono_cl, hl mono_cl⟩

set_option maxHeartbeats 2000000 in
theorem volume_any (rm he ar w0 w1' lk ow p0 p1 t0 t1 : Int) (w : World) :
    Calls Try.prog 15 #[cellV rm he ar w0 w1' lk ow, airV p0 p1 t0 t1] w fun e w' => e = volumeE rm he ar w0 w1' lk ow p0 p1 t0 t1 ∧ Below w.heap.size w w' := by
  obtain ⟨n, hn⟩ : ∃ n, bothN rm he ar w0 w1' lk ow p0 p1 t0 t1 = n := ⟨_, rfl⟩
  have HN := Lib.hid hn
  have HV : Hid (n = 0 → cellB rm he ar w0 w1' lk ow = true ∧ airB p0 p1 t0 t1 = true) := Lib.hid (fun h => both_ok (hn.trans h))
  unfold volumeE
  rw [hn]
  clear hn
  by_cases h0 : n = 0
  · subst h0
    rw [if_pos rfl]
    obtain ⟨hc, ha⟩ := HV.out rfl
    obtain ⟨E, hE⟩ : ∃ x, volE (he + ar) p0 p1 t0 t1 w0 w1' = x := ⟨_, rfl⟩
    obtain ⟨⟨z1, z2⟩, z3, z4⟩ := E
    have hX := vol_ex hc ha hE
    have HX := Lib.hid hX
    obtain ⟨lo, hlo⟩ : ∃ x, fl ((he + ar) * (t0 + w0)) p1 = x := ⟨_, rfl⟩
    obtain ⟨hi, hhi⟩ : ∃ x, cl ((he + ar) * (t1 + w1')) p0 = x := ⟨_, rfl⟩
    rw [hlo, hhi]
    have HLo := Lib.hid (hX.lo.trans hlo)
    have HHi := Lib.hid (hX.hi.trans hhi)
    have HE := Lib.hid hE
    have HC := Lib.hid hc
    have HA := Lib.hid ha
    clear hX hlo hhi hE hc ha HV
    go_enter Try.func15, Try.ntmps15
    go_wp2_with fail
    refine (checkBoth_any rm he ar w0 w1' lk ow p0 p1 t0 t1 _).mono ?_
    rintro e w1 ⟨rfl, hb1⟩
    rw [HN.out]
    have hB1 : Below w.heap.size w w1 := (after (w := w) (by go_grown) hb1).1
    have K1 := Lib.hid (show Seven w1 w.heap.size rm he ar w0 w1' lk ow from Seven.later ⟨by go_cell, by go_cell, by go_cell, by go_cell, by go_cell, by go_cell, by go_cell⟩ hb1)
    have A1 := Lib.hid (show Four w1 (w.heap.size + 1) p0 p1 t0 t1 from Four.later ⟨by go_cell, by go_cell, by go_cell, by go_cell⟩ hb1)
    have N1 := Lib.hid (show Box2 w1 (w.heap.size + 1 + 1) 0 0 from Box2.later ⟨by go_cell, by go_cell, by go_cell, by go_cell⟩ hb1)
    clear hb1
    obtain ⟨c0, c1, c2, c3, c4, c5, c6⟩ := K1.out
    obtain ⟨a0, a1, a2, a3⟩ := A1.out
    go_wp2_with fail
    refine (volumes_any rm he ar w0 w1' lk ow p0 p1 t0 t1 _ HC.out HA.out).mono ?_
    rintro e w2 ⟨rfl, hb2⟩
    rw [HE.out]
    have hB2 : Below w.heap.size w w2 := hB1.trans (hb2.mono hB1.size)
    have N2 := Lib.hid (N1.out.later hb2)
    clear hb2 hB1 c0 c1 c2 c3 c4 c5 c6 a0 a1 a2 a3 N1 A1 K1
    go_wp2_with fail
    refine (outwards_any z1 z2 z3 z4 _ HX.out.b0 HX.out.b1 HX.out.fa HX.out.d0 HX.out.d1 HX.out.fc).mono ?_
    rintro e w3 ⟨rfl, hb3⟩
    rw [HLo.out, HHi.out]
    have hB3 : Below w.heap.size w w3 := hB2.trans (hb3.mono hB2.size)
    obtain ⟨l0, l1, lf0, lf1⟩ := N2.out.later hb3
    clear hb3 hB2 N2
    go_wp2_with fail
    exact bodyPost_ret (v := .tuple #[sp lo hi, .int .i64 0]) (by simp [results, Try.results15, go_sem, *]) rfl ⟨rfl, by go_grown⟩
  · rw [if_neg h0]
    go_enter Try.func15, Try.ntmps15
    go_wp2_with fail
    refine (checkBoth_any rm he ar w0 w1' lk ow p0 p1 t0 t1 _).mono ?_
    rintro e w1 ⟨rfl, hb1⟩
    rw [HN.out]
    have hB1 : Below w.heap.size w w1 := (after (w := w) (by go_grown) hb1).1
    obtain ⟨l0, l1, lf0, lf1⟩ := show Box2 w1 (w.heap.size + 1 + 1) 0 0 from Box2.later ⟨by go_cell, by go_cell, by go_cell, by go_cell⟩ hb1
    clear hb1 HV HN
    go_wp2_with fail
    exact bodyPost_ret (v := .tuple #[sp 0 0, .int .i64 n]) (by simp [results, Try.results15, go_sem, *]) rfl ⟨rfl, by go_grown⟩
end Go.Proofs.Ytpedmjjkhcigkaa
