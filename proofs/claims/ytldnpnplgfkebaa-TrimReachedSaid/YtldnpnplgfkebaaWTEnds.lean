/- TrimEnds: the walk. -/
import Derived.Test.YtldnpnplgfkebaaTChs
import Derived.Test.YtldnpnplgfkebaaTAlive
namespace Go.Proofs.Ytldnpnplgfkebaa
open Go.RowKit

theorem okay_loads {ls : List Ld} {ms : List Li} (h : okayB ls ms = true) : loadsN ls = 0 ∧ limitsN ms = 0 := by
  unfold okayB at h
  rw [Bool.and_eq_true, decide_eq_true_eq, decide_eq_true_eq] at h
  exact h
theorem all_ok {ls : List Ld} (h : loadsN ls = 0) : ∀ l, l ∈ ls → l.ok = true := fun l hl => List.all_eq_true.1 (loadsN_ok h).2 l hl
set_option maxHeartbeats 2000000 in
theorem trimEnds_great (a0 : Option Addr) (l0 c0 : Nat) (at' : Int) (a2 : Option Addr) (l2 c2 : Nat) (w : World) (hg : 50 < l0) :
    Calls Try.prog 11 #[.slice a0 l0 c0, .int .i64 at', .slice a2 l2 c2] w fun e w' => e = .returned (.bool true) ∧ Below w.heap.size w w' := by
  go_enter Try.func11, Try.ntmps11
  go_wp2_with fail
  refine (alive_any _).mono ?_
  rintro e w1 ⟨rfl, hb1⟩
  go_wp2_with fail
  refine (valid_great a0 l0 c0 none 0 0 _ (.inl hg)).mono ?_
  rintro e w2 ⟨rfl, hb2⟩
  have hB2 := two hb1 hb2
  clear hb1 hb2
  go_wp2_with fail
  go_returns
  exact ⟨rfl, hB2⟩
theorem stern_bound {at' : Int} {ps : List Pu} {ls : List Ld} (h0 : -20000 ≤ at') (h1 : at' ≤ 20000) (hc : ChoP ps ls) (hok : ∀ l, l ∈ ls → l.ok = true) : ∀ q, q ∈ ps.map (sternP at') → PuB q := fun q hq => by
  refine ChoP.bound (ls := ls.map (asternL at')) (fun l hl => ?_) (sterns_in at' hc) q hq
  obtain ⟨m, hm, rfl⟩ := List.mem_map.1 hl
  exact (astern_bound at' (hok m hm) h0 h1).1
/-- The loop's head: what stands astern so far. -/
def EnHead (qs : List Pu) (w wr : World) (v18 v19 v97 : Value) : Prop := ∃ k : Nat, k ≤ qs.length ∧ v18 = .int .i64 (heavE (qs.take k)) ∧ v19 = .int .i64 (momsE (qs.take k)) ∧ v97 = .int .i64 k ∧ Below w.heap.size w wr
set_option linter.unusedSimpArgs false in
set_option maxRecDepth 100000 in
set_option maxHeartbeats 8000000 in
theorem trimEnds_walk (v : Value) (ls : List Ld) (at' : Int) (a2 : Option Addr) (l2 c2 : Nat) (w : World) (hv : SlLd w v ls) (hby : ByAt w a2 l2) (h50 : ls.length ≤ 50) :
    Calls Try.prog 11 #[v, .int .i64 at', .slice a2 l2 c2] w fun e w' => e = .returned (.bool true) ∧ Below w.heap.size w w' := by
  obtain ⟨a0, cap0, rfl, hl0, hc0⟩ := hv.form
  have HV := Lib.hid hv
  have HBy := Lib.hid hby
  clear hv hby
  go_enter Try.func11, Try.ntmps11
  go_wp2_with fail
  refine (alive_any _).mono ?_
  rintro e w1 ⟨rfl, hb1⟩
  go_wp2_with fail
  refine (valid_any _ _ ls [] _ (ldLater HV.out hb1) (.inl ⟨rfl, rfl⟩) h50 (by simp)).mono ?_
  rintro e w2 ⟨rfl, hb2⟩
  have hB2 := two hb1 hb2
  clear hb1 hb2
  by_cases hval : okayB ls [] = true
  rotate_left 1
  · have hval' : okayB ls [] = false := by simpa using hval
    rw [hval']
    clear hval hval'
    go_wp2_with fail
    go_returns
    exact ⟨rfl, hB2⟩
  have h0 := (okay_loads hval).1
  have HN := Lib.hid h0
  have HOk := Lib.hid (all_ok h0)
  have HIn := Lib.hid (And.intro (fun ps (h : ChoP ps ls) => heavy_in h0 h) (fun ps (h : ChoP ps ls) => moment_in h0 h))
  rw [hval]
  clear hval h0
  go_wp2_with fail
  refine (balance_any _ ls _ (ldLater HV.out hB2)).mono ?_
  rintro e w3 ⟨rfl, hb3⟩
  rw [HN.out]
  obtain ⟨H0, hH0⟩ : ∃ x, (heavyS ls).1 = x := ⟨_, rfl⟩
  obtain ⟨H1, hH1⟩ : ∃ x, (heavyS ls).2 = x := ⟨_, rfl⟩
  obtain ⟨M0, hM0⟩ : ∃ x, (momentS ls).1 = x := ⟨_, rfl⟩
  obtain ⟨M1, hM1⟩ : ∃ x, (momentS ls).2 = x := ⟨_, rfl⟩
  rw [hH0, hH1, hM0, hM1] at HIn
  rw [hH0, hH1, hM0, hM1]
  have hB3 := two hB2 hb3
  clear hb3 hB2 hH0 hH1 hM0 hM1
  go_wp2_with fail
  obtain ⟨W3, hW3⟩ : ∃ W, (w3.alloc (.cells #[.int .i64 H0, .int .i64 H1] 37)).alloc (.cells #[.int .i64 M0, .int .i64 M1] 37) = W := ⟨_, rfl⟩
  have K1 := Lib.hid (show Two2 W3 w3.heap.size H0 H1 by subst hW3; exact ⟨by go_cell, by go_cell⟩)
  have K2 := Lib.hid (show Two2 W3 (w3.heap.size + 1) M0 M1 by subst hW3; exact ⟨by go_cell, by go_cell⟩)
  have hBW : Below w.heap.size w W3 := by
    have h9 : Below w3.heap.size w3 W3 := by subst hW3; go_grown
    exact two hB3 h9
  have hz3 : w3.heap.size + 1 < W3.heap.size := K2.out.lt
  rw [hW3]
  clear hW3 hB3
  generalize w3.heap.size = b1 at *
  refine (shearOf_any _ ls at' _ (ldLater HV.out hBW)).mono ?_
  rintro e w4 ⟨rfl, hb4⟩
  obtain ⟨q, hq⟩ : ∃ q, placeN ls at' = q := ⟨_, rfl⟩
  obtain ⟨S0, hS0⟩ : ∃ x, (shearE ls at').1 = x := ⟨_, rfl⟩
  obtain ⟨S1, hS1⟩ : ∃ x, (shearE ls at').2 = x := ⟨_, rfl⟩
  rw [hq, hS0, hS1]
  have HQ := Lib.hid hq
  have HS := Lib.hid (And.intro hS0 hS1)
  replace K1 := Lib.hid (K1.out.later hb4)
  replace K2 := Lib.hid (K2.out.later hb4)
  have hB4 := two hBW hb4
  clear hb4 hBW hq hS0 hS1 hz3
  go_wp2_with fail
  obtain ⟨W4, hW4⟩ : ∃ W, w4.alloc (.cells #[.int .i64 S0, .int .i64 S1] 37) = W := ⟨_, rfl⟩
  have K3 := Lib.hid (show Two2 W4 w4.heap.size S0 S1 by subst hW4; exact ⟨by go_cell, by go_cell⟩)
  have hb4 : Below w4.heap.size w4 W4 := by subst hW4; go_grown
  replace K1 := Lib.hid (K1.out.later hb4)
  replace K2 := Lib.hid (K2.out.later hb4)
  have hBW := two hB4 hb4
  rw [hW4]
  clear hW4 hB4 hb4
  generalize w4.heap.size = b3 at *
  refine (bendOf_any _ ls at' _ (ldLater HV.out hBW)).mono ?_
  rintro e w5 ⟨rfl, hb5⟩
  obtain ⟨B0, hB0⟩ : ∃ x, (bendE ls at').1 = x := ⟨_, rfl⟩
  obtain ⟨B1, hB1⟩ : ∃ x, (bendE ls at').2 = x := ⟨_, rfl⟩
  rw [HQ.out, hB0, hB1]
  have HBd := Lib.hid (And.intro hB0 hB1)
  replace K1 := Lib.hid (K1.out.later hb5)
  replace K2 := Lib.hid (K2.out.later hb5)
  replace K3 := Lib.hid (K3.out.later hb5)
  have hB5 := two hBW hb5
  clear hb5 hBW hB0 hB1
  have hq2 : q = 0 ∨ q = 2 := by
    rw [← HQ.out]
    unfold placeN
    rw [if_pos HN.out]
    split
    · exact .inl rfl
    · exact .inr rfl
  rcases hq2 with rfl | rfl
  rotate_left 1
  · skip
    go_wp2_with fail
    obtain ⟨W5, hW5⟩ : ∃ W, w5.alloc (.cells #[.int .i64 B0, .int .i64 B1] 37) = W := ⟨_, rfl⟩
    have K4 := Lib.hid (show Two2 W5 w5.heap.size B0 B1 by subst hW5; exact ⟨by go_cell, by go_cell⟩)
    have hb5 : Below w5.heap.size w5 W5 := by subst hW5; go_grown
    replace K1 := Lib.hid (K1.out.later hb5)
    replace K2 := Lib.hid (K2.out.later hb5)
    replace K3 := Lib.hid (K3.out.later hb5)
    have hBW := two hB5 hb5
    rw [hW5]
    clear hW5 hB5 hb5
    generalize w5.heap.size = b4 at *
    refine (chosen_any _ a2 l2 c2 ls _ (ldLater HV.out hBW) (HBy.out.later hBW) h50 HOk.out).mono ?_
    rintro e w6 ⟨u, ps, rfl, hps, hch, hb6⟩
    have HCh := Lib.hid hch
    have HPs := Lib.hid hps
    have HPb := Lib.hid (ChoP.bound (fun l hl => Ld.bound (HOk.out l hl)) hch)
    have hpl : ps.length ≤ 50 := by have := hch.len; omega
    obtain ⟨au, cu, rfl, hul, _⟩ := hps.form
    replace K1 := Lib.hid (K1.out.later hb6)
    replace K2 := Lib.hid (K2.out.later hb6)
    replace K3 := Lib.hid (K3.out.later hb6)
    replace K4 := Lib.hid (K4.out.later hb6)
    have hB6 := two hBW hb6
    clear hb6 hBW hps hch
    go_wp2_with fail
    refine (sums_any _ ps _ HPs.out hpl HPb.out).mono ?_
    rintro e w7 ⟨rfl, hb7⟩
    replace K1 := Lib.hid (K1.out.later hb7)
    replace K2 := Lib.hid (K2.out.later hb7)
    replace K3 := Lib.hid (K3.out.later hb7)
    replace K4 := Lib.hid (K4.out.later hb7)
    replace HPs := Lib.hid (puLater HPs.out hb7)
    have hB7 := two hB6 hb7
    clear hb7 hB6
    obtain ⟨i0, i1⟩ := HIn.out.1 ps HCh.out
    obtain ⟨j0, j1⟩ := HIn.out.2 ps HCh.out
    generalize heavE ps = h at *
    generalize momsE ps = m at *
    have n0 : ¬ h < H0 := by omega
    have n1 : ¬ H1 < h := by omega
    have n2 : ¬ m < M0 := by omega
    have n3 : ¬ M1 < m := by omega
    clear i0 i1 j0 j1
    obtain ⟨x0, x1⟩ := K1.out
    obtain ⟨y0, y1⟩ := K2.out
    go_wp2_with fail
    clear x0 x1 y0 y1 n0 n1 n2 n3
    go_returns
    exact ⟨rfl, hB7⟩
  obtain ⟨p0, p1⟩ : -20000 ≤ at' ∧ at' ≤ 20000 := by
    have h := HQ.out
    unfold placeN at h
    rw [if_pos HN.out] at h
    split at h
    · exact inB_iff.1 (by assumption)
    · cases h
  go_wp2_with fail
  obtain ⟨W5, hW5⟩ : ∃ W, w5.alloc (.cells #[.int .i64 B0, .int .i64 B1] 37) = W := ⟨_, rfl⟩
  have K4 := Lib.hid (show Two2 W5 w5.heap.size B0 B1 by subst hW5; exact ⟨by go_cell, by go_cell⟩)
  have hb5 : Below w5.heap.size w5 W5 := by subst hW5; go_grown
  replace K1 := Lib.hid (K1.out.later hb5)
  replace K2 := Lib.hid (K2.out.later hb5)
  replace K3 := Lib.hid (K3.out.later hb5)
  have hBW := two hB5 hb5
  rw [hW5]
  clear hW5 hB5 hb5
  generalize w5.heap.size = b4 at *
  refine (chosen_any _ a2 l2 c2 ls _ (ldLater HV.out hBW) (HBy.out.later hBW) h50 HOk.out).mono ?_
  rintro e w6 ⟨u, ps, rfl, hps, hch, hb6⟩
  have HCh := Lib.hid hch
  have HPs := Lib.hid hps
  have HPb := Lib.hid (ChoP.bound (fun l hl => Ld.bound (HOk.out l hl)) hch)
  have hpl : ps.length ≤ 50 := by have := hch.len; omega
  obtain ⟨au, cu, rfl, hul, _⟩ := hps.form
  replace K1 := Lib.hid (K1.out.later hb6)
  replace K2 := Lib.hid (K2.out.later hb6)
  replace K3 := Lib.hid (K3.out.later hb6)
  replace K4 := Lib.hid (K4.out.later hb6)
  have hB6 := two hBW hb6
  clear hb6 hBW hps hch
  go_wp2_with fail
  refine (sums_any _ ps _ HPs.out hpl HPb.out).mono ?_
  rintro e w7 ⟨rfl, hb7⟩
  replace K1 := Lib.hid (K1.out.later hb7)
  replace K2 := Lib.hid (K2.out.later hb7)
  replace K3 := Lib.hid (K3.out.later hb7)
  replace K4 := Lib.hid (K4.out.later hb7)
  replace HPs := Lib.hid (puLater HPs.out hb7)
  have hB7 := two hB6 hb7
  clear hb7 hB6
  obtain ⟨i0, i1⟩ := HIn.out.1 ps HCh.out
  obtain ⟨j0, j1⟩ := HIn.out.2 ps HCh.out
  generalize heavE ps = h at *
  generalize momsE ps = m at *
  have n0 : ¬ h < H0 := by omega
  have n1 : ¬ H1 < h := by omega
  have n2 : ¬ m < M0 := by omega
  have n3 : ¬ M1 < m := by omega
  clear i0 i1 j0 j1
  obtain ⟨x0, x1⟩ := K1.out
  obtain ⟨y0, y1⟩ := K2.out
  go_wp2_with fail
  clear x0 x1 y0 y1 n0 n1 n2 n3
  obtain ⟨s0, s1⟩ := shear_in HOk.out p0 p1 HQ.out HCh.out
  obtain ⟨t0, t1⟩ := bend_in HOk.out HQ.out HCh.out
  rw [HS.out.1, HS.out.2] at *
  rw [HBd.out.1, HBd.out.2] at *
  have HE := Lib.hid (And.intro (And.intro s0 s1) (And.intro t0 t1))
  have hqs : (ps.map (sternP at')).length = ps.length := List.length_map ..
  have hqb := stern_bound p0 p1 HCh.out HOk.out
  have HC : Hid (∀ (k : Nat) (c : Pu), ps[k]? = some c → (ps.map (sternP at'))[k]? = some (sternP at' c)) := Lib.hid (fun k c e => by rw [List.getElem?_map, e]; rfl)
  obtain ⟨qs, hqe⟩ : ∃ qs, ps.map (sternP at') = qs := ⟨_, rfl⟩
  rw [hqe] at hqs hqb HE HC
  have HQl := Lib.hid hqs
  have HQb := Lib.hid hqb
  have hz7 := hB7.size
  clear s0 s1 t0 t1 hqs hqb hqe
  go_loopw [18, 19, 97] (fun v18 v19 v97 wr => EnHead qs w7 wr v18 v19 v97) (fun _ _ v97 _ => ps.length - (intOf v97).toNat)
  case atStart => exact ⟨0, by omega, rfl, rfl, rfl, Below.refl _ _⟩
  case round =>
    obtain ⟨k, hk, rfl, rfl, rfl, hbr⟩ := hrel
    have hBr := hB7.trans (hbr.mono hB7.size)
    by_cases hlt : k < ps.length
    rotate_left 1
    · obtain ⟨X, hX⟩ : ∃ X, heavE (qs.take k) = X := ⟨_, rfl⟩
      obtain ⟨Y, hY⟩ : ∃ X, momsE (qs.take k) = X := ⟨_, rfl⟩
      rw [hX, hY]
      rw [List.take_of_length_le (by have := HQl.out; omega)] at hX hY
      have he := HE.out
      rw [hX, hY] at he
      obtain ⟨⟨s0, s1⟩, t0, t1⟩ := he
      clear hX hY HE
      obtain ⟨x0, x1⟩ := K3.out.later hbr
      obtain ⟨y0, y1⟩ := K4.out.later hbr
      go_wp2_with fail
      go_returns
      exact ⟨rfl, hBr⟩
    obtain ⟨bk, off, c, rfl, hb, hc, hat⟩ := HPs.out.at hlt
    obtain ⟨c0, c1⟩ := PuAt.later hat hbr
    have hlt' : (k : Int) < (ps.length : Int) := by omega
    have hk0 : (0 : Int) ≤ (k : Int) := by omega
    have hpb := HPb.out c (List.mem_of_getElem? hc)
    have hqc := HC.out k c hc
    have hsb := HQb.out _ (List.mem_of_getElem? hqc)
    obtain ⟨⟨x0, x1⟩, y0, y1⟩ := sums_bound k HQb.out (by have := HQl.out; omega)
    have HCx := Lib.hid (show heavE (qs.take (k + 1)) = heavE (qs.take k) + (sternP at' c).w from sum_take (f := Pu.w) hqc)
    have HCy := Lib.hid (show momsE (qs.take (k + 1)) = momsE (qs.take k) + momE (sternP at' c) from sum_take (f := momE) hqc)
    obtain ⟨m0, m1⟩ := mom_bound hsb
    obtain ⟨g0, g1, r0, r1⟩ := hpb
    obtain ⟨X, hX⟩ : ∃ X, heavE (qs.take k) = X := ⟨_, rfl⟩
    obtain ⟨Y, hY⟩ : ∃ X, momsE (qs.take k) = X := ⟨_, rfl⟩
    rw [hX] at x0 x1 HCx
    rw [hY] at y0 y1 HCy
    rw [hX, hY]
    clear hc hat hX hY hqc hsb
    have hsz := hbr.size
    by_cases hs : c.p < at'
    · unfold momE sternP at m0 m1 HCy
      unfold sternP at HCx
      rw [if_pos hs] at m0 m1 HCx HCy
      simp only at m0 m1 HCx HCy
      have d0 : -2000000 ≤ at' - c.p ∧ at' - c.p ≤ 2000000 := by omega
      obtain ⟨d1, d2⟩ := d0
      obtain ⟨D, hD⟩ : ∃ D, at' - c.p = D := ⟨_, rfl⟩
      have eD : IntKind.i64.wrap (at' - c.p) = D := by rw [hD]; exact IntWalk.i64_in _ ⟨by omega, by omega⟩
      rw [hD] at m0 m1 HCy d1 d2
      obtain ⟨Z, hZ⟩ : ∃ X, c.w * D = X := ⟨_, rfl⟩
      rw [hZ] at m0 m1 HCy
      go_wp2_with fail
      go_roundw
      case rel => exact ⟨k + 1, by have := HQl.out; omega, by rw [HCx.out], by rw [HCy.out], by go_num, by go_grown⟩
      case measure => simp [intOf]; omega
    · unfold momE sternP at HCy
      unfold sternP at HCx
      rw [if_neg hs] at HCx HCy
      simp only [Int.zero_mul, Int.mul_zero, Int.add_zero] at HCx HCy
      clear m0 m1
      go_wp2_with fail
      go_roundw
      case rel => exact ⟨k + 1, by have := HQl.out; omega, by rw [HCx.out], by rw [HCy.out], by go_num, by go_grown⟩
      case measure => simp [intOf]; omega
end Go.Proofs.Ytldnpnplgfkebaa
