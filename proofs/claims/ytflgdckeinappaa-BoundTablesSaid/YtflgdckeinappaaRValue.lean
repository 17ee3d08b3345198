/- The reference's Value. -/
import Derived.Test.YtflgdckeinappaaRLines
import Derived.Test.YtflgdckeinappaaTail3
namespace Go.Proofs.Ytflgdckeinappaa
open Go.RowKit

theorem VW.put {B C : Nat} {w wr : World} {lo hi vl vh : Int} (h : VW B C w wr lo hi vl vh) (x y : Int) : VW B C w ((wr.setCell ⟨C, 0, none⟩ (.int .i64 x)).setCell ⟨C, 1, none⟩ (.int .i64 y)) lo hi x y := by
  obtain ⟨a1, a2, a3, a4, a5, a6, a7, a8, a9, a10, a11, a12, a13⟩ := h
  refine ⟨?_, a2, ?_, ?_, ?_, ?_, ?_, ?_, ?_, ?_, ?_, ?_, ?_⟩
  · go_grown
  · simpa using a3
  all_goals go_cell
/-- The loop's head. -/
def RVHead (ks : List (Int × Int × Int)) (C : Nat) (w wr : World) (lo hi : Int) (i1 i2 : Nat) (v11 : Value) : Prop := ∃ k : Nat, k ≤ ks.length ∧ v11 = .int .i64 k ∧ VW w.heap.size C w wr lo hi (rV ks lo hi i1 i2 k).1 (rV ks lo hi i1 i2 k).2
theorem rV_in {ks : List (Int × Int × Int)} {lo hi : Int} {i1 i2 k : Nat} (h : lo ≤ atOf ks k ∧ atOf ks k ≤ hi) : rV ks lo hi i1 i2 (k + 1) = (min (rV ks lo hi i1 i2 k).1 (loOf ks k), max (rV ks lo hi i1 i2 k).2 (hiOf ks k)) := if_pos h
theorem rV_out {ks : List (Int × Int × Int)} {lo hi : Int} {i1 i2 k : Nat} (h : ¬ (lo ≤ atOf ks k ∧ atOf ks k ≤ hi)) : rV ks lo hi i1 i2 (k + 1) = rV ks lo hi i1 i2 k := if_neg h
/-- What the region loads. -/
structure LX (b o C : Nat) (w : World) (l h vl vh : Int) : Prop where
  p1 : w.cell? ⟨b, o + 1, none⟩ = some (.int .i64 l)
  p2 : w.cell? ⟨b, o + 2, none⟩ = some (.int .i64 h)
  v0 : w.cell? ⟨C, 0, none⟩ = some (.int .i64 vl)
  v1 : w.cell? ⟨C, 1, none⟩ = some (.int .i64 vh)
theorem LX.later {b o C : Nat} {w w1 : World} {l h vl vh : Int} (k : LX b o C w l h vl vh) (hb : Below w.heap.size w w1) : LX b o C w1 l h vl vh := ⟨cell_later hb k.p1, cell_later hb k.p2, cell_later hb k.v0, cell_later hb k.v1⟩
set_option linter.unusedSimpArgs false in
set_option maxHeartbeats 4000000 in
set_option maxRecDepth 100000 in
theorem rvalue_any (v : Value) (ks : List (Int × Int × Int)) (lo hi : Int) (w : World) (hs : SlK w v ks) :
    Calls Try.prog 34 #[v, sp lo hi] w fun e w' => e = valueE ks lo hi ∧ Below w.heap.size w w' := by
  have HS := Lib.hid hs
  clear hs
  go_enter Try.func34, Try.ntmps34
  go_wp2_with fail
  refine (rtable_any _ ks _ (HS.out.later (((Below.refl _ _).alloc (by simp) _).alloc (by simp) _))).mono ?_
  rintro e w1 ⟨rfl, hb1⟩
  obtain ⟨hB, hc, hf⟩ := after (w := w) (by go_grown) hb1
  have hz1 : w.heap.size + 1 < w1.heap.size := by have := hb1.size; simp at this; omega
  have hz0 : w.heap.size < w1.heap.size := by omega
  have x0 : w1.cell? ⟨w.heap.size, 0, none⟩ = some (.int .i64 lo) := by rw [hc _ _ (by simp; omega)]; go_cell
  have x1 : w1.cell? ⟨w.heap.size, 1, none⟩ = some (.int .i64 hi) := by rw [hc _ _ (by simp; omega)]; go_cell
  have r0 : w1.cell? ⟨w.heap.size + 1, 0, none⟩ = some (.int .i64 0) := by rw [hc _ _ (by simp)]; go_cell
  have r1 : w1.cell? ⟨w.heap.size + 1, 1, none⟩ = some (.int .i64 0) := by rw [hc _ _ (by simp)]; go_cell
  have rf0 : w1.frozen? ⟨w.heap.size + 1, 0, none⟩ = false := by rw [hf _ _ (by simp)]; go_cell
  have rf1 : w1.frozen? ⟨w.heap.size + 1, 1, none⟩ = false := by rw [hf _ _ (by simp)]; go_cell
  clear hc hf hb1
  by_cases ht : tableB ks = true
  · rw [ht]
    have hlen : 2 ≤ ks.length ∧ ks.length ≤ 32 := by unfold tableB at ht; simp at ht; omega
    have HT := Lib.hid ht
    clear ht
    go_wp2_with fail
    refine (rvalid_any lo hi _).mono ?_
    rintro e w2 ⟨rfl, hb2⟩
    have hB2 : Below w.heap.size w w2 := (after (w := w) hB hb2).1
    have hz2 : w.heap.size + 1 < w2.heap.size := by have := hb2.size; omega
    have hy2 : w.heap.size < w2.heap.size := by omega
    replace x0 := cell_later hb2 x0
    replace x1 := cell_later hb2 x1
    replace r0 := cell_later hb2 r0
    replace r1 := cell_later hb2 r1
    replace rf0 := ((bcell hb2).2 _ 0 hz1).trans rf0
    replace rf1 := ((bcell hb2).2 _ 1 hz1).trans rf1
    clear hb2 hz1 hz0 hB
    by_cases hv : validB lo hi = true
    · rw [hv]
      obtain ⟨v1, v2, v3⟩ := validB_bd hv
      have hN : bothN ks lo hi = 0 := by unfold bothN; rw [if_pos HT.out, checkN_yes hv]
      rcases HS.out with ⟨e1, _⟩ | ⟨b, off, cap, rfl, hcap, hmax, hb, hcells⟩
      · rw [e1] at hlen; simp at hlen
      obtain ⟨l1, l2⟩ := hlen
      obtain ⟨a0, ha0⟩ : ∃ a, atOf ks 0 = a := ⟨_, rfl⟩
      obtain ⟨aN, haN⟩ : ∃ a, atOf ks (ks.length - 1) = a := ⟨_, rfl⟩
      have c0 : w2.cell? ⟨b, off, none⟩ = some (.int .i64 a0) := by rw [hB2.cell (by simpa using hb)]; have := (hcells 0 _ _ _ (knot_get (by omega))).1; rw [ha0] at this; simpa using this
      have cN : w2.cell? ⟨b, off + (ks.length - 1) * 3, none⟩ = some (.int .i64 aN) := by rw [hB2.cell (by simpa using hb)]; have := (hcells _ _ _ _ (knot_get (show ks.length - 1 < ks.length by omega))).1; rw [haN] at this; exact this
      have HC := Lib.hid hcells
      have HN := Lib.hid hN
      have H0 := Lib.hid ha0
      have HNN := Lib.hid haN
      clear hcells hN hv ha0 haN
      have g0 : (0 : Int) < (ks.length : Int) := by omega
      have g1 : (0 : Int) ≤ (ks.length : Int) - 1 := by omega
      have g2 : (ks.length : Int) - 1 < (ks.length : Int) := by omega
      have g3 : IntKind.i64.wrap ((ks.length : Int) - 1) = (ks.length : Int) - 1 := IntWalk.i64_in _ ⟨by omega, by omega⟩
      have g4 : ((ks.length : Int) - 1).toNat = ks.length - 1 := by omega
      by_cases q1 : lo < a0
      · have HE := Lib.hid (valueE_out HN.out (.inl (by rw [H0.out]; exact q1)))
        go_wp2_with fail
        go_quiet (fail)
        have hBq := below_drewN hB2 nq
        go_wp2_with fail
        exact bodyPost_ret (v := .tuple #[sp 0 0, .int .i64 2]) (by simp [results, Try.results34, go_sem, *]) rfl ⟨HE.out, by go_grown⟩
      · have hg : decide (lo < a0) = false := by simp; omega
        by_cases q2 : aN < hi
        · have HE := Lib.hid (valueE_out HN.out (.inr (by rw [HNN.out]; exact q2)))
          go_wp2_with fail
          go_quiet (fail)
          have hBq := below_drewN hB2 nq
          go_wp2_with fail
          exact bodyPost_ret (v := .tuple #[sp 0 0, .int .i64 2]) (by simp [results, Try.results34, go_sem, *]) rfl ⟨HE.out, by go_grown⟩
        · have HE := Lib.hid (valueE_in HN.out (by rw [H0.out, HNN.out]; omega))
          have hg2 : decide (aN < hi) = false := by simp; omega
          go_wp2_with fail
          go_quiet (fail)
          have vw : ∀ nn, Below w.heap.size w (w2.drewN nn) ∧ (w2.drewN nn).heap.size = w2.heap.size ∧ (w2.drewN nn).cell? ⟨w.heap.size, 0, none⟩ = some (.int .i64 lo) ∧ (w2.drewN nn).cell? ⟨w.heap.size, 1, none⟩ = some (.int .i64 hi) ∧ (w2.drewN nn).cell? ⟨w.heap.size + 1, 0, none⟩ = some (.int .i64 0) ∧ (w2.drewN nn).cell? ⟨w.heap.size + 1, 1, none⟩ = some (.int .i64 0) ∧ (w2.drewN nn).frozen? ⟨w.heap.size + 1, 0, none⟩ = false ∧ (w2.drewN nn).frozen? ⟨w.heap.size + 1, 1, none⟩ = false := fun nn => ⟨below_drewN hB2 nn, rfl, x0, x1, r0, r1, rf0, rf1⟩
          obtain ⟨hB3, hsz, y0, y1, s0, s1, sf0, sf1⟩ := vw nq
          clear vw x0 x1 r0 r1 rf0 rf1 c0 cN
          generalize w2.drewN nq = w3 at *
          have hz3 : w.heap.size + 1 < w3.heap.size := by omega
          have hy3 : w.heap.size < w3.heap.size := by omega
          clear hsz hz2 hy2 hB2
          go_wp2_with fail
          refine (rlines_any _ ks lo _ (HS.out.later (hB3)) HT.out (by rw [H0.out]; omega) (by rw [HNN.out]; omega)).mono ?_
          rintro e w4 ⟨hp, hb4⟩
          obtain ⟨i1, s1', rfl⟩ := hp
          have hB4 : Below w.heap.size w w4 := (after (w := w) hB3 hb4).1
          have hz4 : w.heap.size + 1 < w4.heap.size := by have := hb4.size; omega
          have hy4 : w.heap.size < w4.heap.size := by omega
          replace y0 := cell_later hb4 y0
          replace y1 := cell_later hb4 y1
          replace s0 := cell_later hb4 s0
          replace s1 := cell_later hb4 s1
          replace sf0 := ((bcell hb4).2 _ 0 hz3).trans sf0
          replace sf1 := ((bcell hb4).2 _ 1 hz3).trans sf1
          have S1 := Lib.hid s1'
          clear hb4 hz3 hy3 hB3 s1'
          obtain ⟨L1, hL1⟩ : ∃ L, lnLo ks i1 lo = L := ⟨_, rfl⟩
          obtain ⟨U1, hU1⟩ : ∃ L, lnHi ks i1 lo = L := ⟨_, rfl⟩
          rw [hL1, hU1]
          have HL1 := Lib.hid hL1
          have HU1 := Lib.hid hU1
          clear hL1 hU1
          go_wp2_with fail
          refine (rlines_any _ ks hi _ (HS.out.later (hB4)) HT.out (by rw [H0.out]; omega) (by rw [HNN.out]; omega)).mono ?_
          rintro e w5 ⟨hp, hb5⟩
          obtain ⟨i2, s2', rfl⟩ := hp
          have hB5 : Below w.heap.size w w5 := (after (w := w) hB4 hb5).1
          have hz5 : w.heap.size + 1 < w5.heap.size := by have := hb5.size; omega
          have hy5 : w.heap.size < w5.heap.size := by omega
          replace y0 := cell_later hb5 y0
          replace y1 := cell_later hb5 y1
          replace s0 := cell_later hb5 s0
          replace s1 := cell_later hb5 s1
          replace sf0 := ((bcell hb5).2 _ 0 hz4).trans sf0
          replace sf1 := ((bcell hb5).2 _ 1 hz4).trans sf1
          have S2 := Lib.hid s2'
          clear hb5 hz4 hy4 hB4 s2'
          obtain ⟨L2, hL2⟩ : ∃ L, lnLo ks i2 hi = L := ⟨_, rfl⟩
          obtain ⟨U2, hU2⟩ : ∃ L, lnHi ks i2 hi = L := ⟨_, rfl⟩
          rw [hL2, hU2]
          have HL2 := Lib.hid hL2
          have HU2 := Lib.hid hU2
          clear hL2 hU2
          have HAcc : Hid (rV ks lo hi i1 i2 ks.length = accV ks lo hi (ks.length - 1)) := Lib.hid (value_same HT.out v1 S1.out S2.out)
          have HBeg : Hid (rV ks lo hi i1 i2 0 = (min L1 L2, max U1 U2)) := Lib.hid (by rw [← HL1.out, ← HL2.out, ← HU1.out, ← HU2.out]; rfl)
          go_wp2_with fail
          go_loopw [11] (fun v11 wr => RVHead ks w5.heap.size w wr lo hi i1 i2 v11) (fun v11 _ => ks.length - (intOf v11).toNat)
          case atStart =>
            refine ⟨0, by omega, rfl, ?_⟩
            rw [HBeg.out]
            exact ⟨by go_grown, hz5, by simp, by go_cell, by go_cell, by go_cell, by go_cell, by go_cell, by go_cell, by go_cell, by go_cell, by go_cell, by go_cell⟩
          case round =>
            obtain ⟨k, hk, rfl, hvw⟩ := hrel
            have HW := Lib.hid hvw
            by_cases hlt : k < ks.length
            · have hg := knot_get hlt
              have hbl : ∀ o, wr.cell? ⟨b, o, none⟩ = w.cell? ⟨b, o, none⟩ := fun o => hvw.below.cell (by simpa using hb)
              obtain ⟨e0, e1, e2⟩ := HC.out _ _ _ _ hg
              rw [← hbl] at e0 e1 e2
              have X0 := hvw.x0
              have X1 := hvw.x1
              have hbr : b < wr.heap.size := by have := hvw.below.size; omega
              have hk0 : (0 : Int) ≤ (k : Int) := by omega
              have hk1 : (k : Int) < (ks.length : Int) := by omega
              obtain ⟨a, ha⟩ : ∃ a, atOf ks k = a := ⟨_, rfl⟩
              obtain ⟨l, hl⟩ : ∃ a, loOf ks k = a := ⟨_, rfl⟩
              obtain ⟨h, hh⟩ : ∃ a, hiOf ks k = a := ⟨_, rfl⟩
              rw [ha] at e0
              rw [hl] at e1
              rw [hh] at e2
              have HIn : Hid ((lo ≤ a ∧ a ≤ hi) → rV ks lo hi i1 i2 (k + 1) = (min (rV ks lo hi i1 i2 k).1 l, max (rV ks lo hi i1 i2 k).2 h)) := Lib.hid (fun hi' => by rw [rV_in (by rw [ha]; exact hi'), hl, hh])
              have HOut : Hid (¬ (lo ≤ a ∧ a ≤ hi) → rV ks lo hi i1 i2 (k + 1) = rV ks lo hi i1 i2 k) := Lib.hid (fun hi' => rV_out (by rw [ha]; exact hi'))
              clear hvw hg hbl ha hl hh y0 y1 s0 s1 sf0 sf1
              by_cases hin : lo ≤ a ∧ a ≤ hi
              · have hd : decide (lo ≤ a ∧ a ≤ hi) = true := by simpa using hin
                have HI := Lib.hid hin
                clear hin
                go_wp2_with fail
                go_quiet ((go_at_call 83; exact Calls.quiet_of_same ((rwithin_any _ _ _ _).mono fun _ _ ⟨he, hw⟩ => ⟨he, hw.symm⟩)))
                have HQ : Hid (∀ nn, VW w.heap.size w5.heap.size w (wr.drewN nn) lo hi (rV ks lo hi i1 i2 k).1 (rV ks lo hi i1 i2 k).2 ∧ (wr.drewN nn).cell? ⟨b, off + k * 3 + 1, none⟩ = some (.int .i64 l) ∧ (wr.drewN nn).cell? ⟨b, off + k * 3 + 2, none⟩ = some (.int .i64 h)) :=
                  Lib.hid (fun nn => ⟨HW.out.later (below_drewN (Below.refl _ _) nn), e1, e2⟩)
                obtain ⟨hvw, e1', e2'⟩ := HQ.out nq
                clear HQ HW e0 e1 e2 X0 X1
                generalize wr.drewN nq = wq at *
                obtain ⟨vl, hvl⟩ : ∃ x, (rV ks lo hi i1 i2 k).1 = x := ⟨_, rfl⟩
                obtain ⟨vh, hvh⟩ : ∃ x, (rV ks lo hi i1 i2 k).2 = x := ⟨_, rfl⟩
                rw [hvl, hvh] at hvw HIn
                have HX := Lib.hid (LX.mk (b := b) (o := off + k * 3) (C := w5.heap.size) e1' e2' hvw.v0 hvw.v1)
                have HW := Lib.hid hvw
                clear hvw e1' e2' hvl hvh
                go_wp2_with fail
                have hA : Below wq.heap.size wq wq.drew := below_drewN (Below.refl _ _) 1
                refine AnyU.start (fun w' => Below wq.heap.size wq w') 19 20 #[false, false, false, false, false, false, false, false, false, false, false, false, false, false, false, false, false, false, false, false] (by kernel_rfl) (by kernel_rfl) (by kernel_rfl) hA (fun hHeld => ?_)
                generalize World.drew wq = wd1 at hA hHeld ⊢
                refine AnyU.take (i := 0) (oi := _) (v := ?_) rfl (by kernel_rfl) (by kernel_rfl) (by kernel_rfl) (by kernel_rfl) (by kernel_rfl) (fun _ _ _ h => h) (Or.inl ⟨by rfl, ?_⟩) (by assumption) ?_
                rotate_left 1
                · intro wz hSw; clear hSw; go_simp; try with_reducible rfl
                try simp only [Act.put, List.setIfInBounds_toArray, List.set_cons_zero, List.set_cons_succ]
                refine AnyU.take (i := 1) (oi := _) (v := ?_) rfl (by kernel_rfl) (by kernel_rfl) (by kernel_rfl) (by kernel_rfl) (by kernel_rfl) (fun _ _ _ h => h) (Or.inl ⟨by rfl, ?_⟩) (by assumption) ?_
                rotate_left 1
                · intro wz hSw; have h1 := (HX.out.later hSw).v0; go_simp; try with_reducible rfl
                try simp only [Act.put, List.setIfInBounds_toArray, List.set_cons_zero, List.set_cons_succ]
                refine AnyU.take (i := 2) (oi := _) (v := ?_) rfl (by kernel_rfl) (by kernel_rfl) (by kernel_rfl) (by kernel_rfl) (by kernel_rfl) (fun _ _ _ h => h) (Or.inl ⟨by rfl, ?_⟩) (by assumption) ?_
                rotate_left 1
                · intro wz hSw; clear hSw; go_simp; try with_reducible rfl
                try simp only [Act.put, List.setIfInBounds_toArray, List.set_cons_zero, List.set_cons_succ]
                refine AnyU.take (i := 3) (oi := _) (v := ?_) rfl (by kernel_rfl) (by kernel_rfl) (by kernel_rfl) (by kernel_rfl) (by kernel_rfl) (fun _ _ _ h => h) (Or.inl ⟨by rfl, ?_⟩) (by assumption) ?_
                rotate_left 1
                · intro wz hSw; clear hSw; go_simp; try with_reducible rfl
                try simp only [Act.put, List.setIfInBounds_toArray, List.set_cons_zero, List.set_cons_succ]
                refine AnyU.take (i := 4) (oi := _) (v := ?_) rfl (by kernel_rfl) (by kernel_rfl) (by kernel_rfl) (by kernel_rfl) (by kernel_rfl) (fun _ _ _ h => h) (Or.inl ⟨by rfl, ?_⟩) (by assumption) ?_
                rotate_left 1
                · intro wz hSw; clear hSw; go_simp; try with_reducible rfl
                try simp only [Act.put, List.setIfInBounds_toArray, List.set_cons_zero, List.set_cons_succ]
                refine AnyU.take (i := 5) (oi := _) (v := ?_) rfl (by kernel_rfl) (by kernel_rfl) (by kernel_rfl) (by kernel_rfl) (by kernel_rfl) (fun _ _ _ h => h) (Or.inl ⟨by rfl, ?_⟩) (by assumption) ?_
                rotate_left 1
                · intro wz hSw; clear hSw; go_simp; try with_reducible rfl
                try simp only [Act.put, List.setIfInBounds_toArray, List.set_cons_zero, List.set_cons_succ]
                refine AnyU.take (i := 6) (oi := _) (v := ?_) rfl (by kernel_rfl) (by kernel_rfl) (by kernel_rfl) (by kernel_rfl) (by kernel_rfl) (fun _ _ _ h => h) (Or.inl ⟨by rfl, ?_⟩) (by assumption) ?_
                rotate_left 1
                · intro wz hSw; clear hSw; go_simp; try with_reducible rfl
                try simp only [Act.put, List.setIfInBounds_toArray, List.set_cons_zero, List.set_cons_succ]
                refine AnyU.take (i := 7) (oi := _) (v := ?_) rfl (by kernel_rfl) (by kernel_rfl) (by kernel_rfl) (by kernel_rfl) (by kernel_rfl) (fun _ _ _ h => h) (Or.inl ⟨by rfl, ?_⟩) (by assumption) ?_
                rotate_left 1
                · intro wz hSw; have h1 := (HX.out.later hSw).p1; go_simp; try with_reducible rfl
                try simp only [Act.put, List.setIfInBounds_toArray, List.set_cons_zero, List.set_cons_succ]
                refine AnyU.take (i := 8) (oi := _) (v := ?_) rfl (by kernel_rfl) (by kernel_rfl) (by kernel_rfl) (by kernel_rfl) (by kernel_rfl) (fun _ _ _ h => h) (Or.inl ⟨by rfl, ?_⟩) (by assumption) ?_
                rotate_left 1
                · intro wz hSw; clear hSw; go_simp; try with_reducible rfl
                try simp only [Act.put, List.setIfInBounds_toArray, List.set_cons_zero, List.set_cons_succ]
                refine AnyU.take (i := 9) (oi := _) (v := ?_) rfl (by kernel_rfl) (by kernel_rfl) (by kernel_rfl) (by kernel_rfl) (by kernel_rfl) (fun _ _ _ h => h) (Or.inl ⟨by rfl, ?_⟩) (by assumption) ?_
                rotate_left 1
                · intro wz hSw; clear hSw; go_simp; try with_reducible rfl
                try simp only [Act.put, List.setIfInBounds_toArray, List.set_cons_zero, List.set_cons_succ]
                refine AnyU.take (i := 10) (oi := _) (v := ?_) rfl (by kernel_rfl) (by kernel_rfl) (by kernel_rfl) (by kernel_rfl) (by kernel_rfl) (fun _ _ _ h => h) (Or.inl ⟨by rfl, ?_⟩) (by assumption) ?_
                rotate_left 1
                · intro wz hSw; have h1 := (HX.out.later hSw).v1; go_simp; try with_reducible rfl
                try simp only [Act.put, List.setIfInBounds_toArray, List.set_cons_zero, List.set_cons_succ]
                refine AnyU.take (i := 11) (oi := _) (v := ?_) rfl (by kernel_rfl) (by kernel_rfl) (by kernel_rfl) (by kernel_rfl) (by kernel_rfl) (fun _ _ _ h => h) (Or.inl ⟨by rfl, ?_⟩) (by assumption) ?_
                rotate_left 1
                · intro wz hSw; clear hSw; go_simp; try with_reducible rfl
                try simp only [Act.put, List.setIfInBounds_toArray, List.set_cons_zero, List.set_cons_succ]
                refine AnyU.take (i := 12) (oi := _) (v := ?_) rfl (by kernel_rfl) (by kernel_rfl) (by kernel_rfl) (by kernel_rfl) (by kernel_rfl) (fun _ _ _ h => h) (Or.inl ⟨by rfl, ?_⟩) (by assumption) ?_
                rotate_left 1
                · intro wz hSw; clear hSw; go_simp; try with_reducible rfl
                try simp only [Act.put, List.setIfInBounds_toArray, List.set_cons_zero, List.set_cons_succ]
                refine AnyU.take (i := 13) (oi := _) (v := ?_) rfl (by kernel_rfl) (by kernel_rfl) (by kernel_rfl) (by kernel_rfl) (by kernel_rfl) (fun _ _ _ h => h) (Or.inl ⟨by rfl, ?_⟩) (by assumption) ?_
                rotate_left 1
                · intro wz hSw; clear hSw; go_simp; try with_reducible rfl
                try simp only [Act.put, List.setIfInBounds_toArray, List.set_cons_zero, List.set_cons_succ]
                refine AnyU.take (i := 14) (oi := _) (v := ?_) rfl (by kernel_rfl) (by kernel_rfl) (by kernel_rfl) (by kernel_rfl) (by kernel_rfl) (fun _ _ _ h => h) (Or.inl ⟨by rfl, ?_⟩) (by assumption) ?_
                rotate_left 1
                · intro wz hSw; clear hSw; go_simp; try with_reducible rfl
                try simp only [Act.put, List.setIfInBounds_toArray, List.set_cons_zero, List.set_cons_succ]
                refine AnyU.take (i := 15) (oi := _) (v := ?_) rfl (by kernel_rfl) (by kernel_rfl) (by kernel_rfl) (by kernel_rfl) (by kernel_rfl) (fun _ _ _ h => h) (Or.inl ⟨by rfl, ?_⟩) (by assumption) ?_
                rotate_left 1
                · intro wz hSw; clear hSw; go_simp; try with_reducible rfl
                try simp only [Act.put, List.setIfInBounds_toArray, List.set_cons_zero, List.set_cons_succ]
                refine AnyU.take (i := 16) (oi := _) (v := ?_) rfl (by kernel_rfl) (by kernel_rfl) (by kernel_rfl) (by kernel_rfl) (by kernel_rfl) (fun _ _ _ h => h) (Or.inl ⟨by rfl, ?_⟩) (by assumption) ?_
                rotate_left 1
                · intro wz hSw; have h1 := (HX.out.later hSw).p2; go_simp; try with_reducible rfl
                try simp only [Act.put, List.setIfInBounds_toArray, List.set_cons_zero, List.set_cons_succ]
                refine AnyU.take (i := 17) (oi := _) (v := ?_) rfl (by kernel_rfl) (by kernel_rfl) (by kernel_rfl) (by kernel_rfl) (by kernel_rfl) (fun _ _ _ h => h) (Or.inl ⟨by rfl, ?_⟩) (by assumption) ?_
                rotate_left 1
                · intro wz hSw; clear hSw; go_simp; try with_reducible rfl
                try simp only [Act.put, List.setIfInBounds_toArray, List.set_cons_zero, List.set_cons_succ]
                refine AnyU.take (i := 18) (oi := _) (v := ?_) rfl (by kernel_rfl) (by kernel_rfl) (by kernel_rfl) (by kernel_rfl) (by kernel_rfl) (fun _ _ _ h => h) (Or.inl ⟨by rfl, ?_⟩) (by assumption) ?_
                rotate_left 1
                · intro wz hSw; clear hSw; go_simp; try with_reducible rfl
                try simp only [Act.put, List.setIfInBounds_toArray, List.set_cons_zero, List.set_cons_succ]
                have hv := HW.out.later hA
                have HV := Lib.hid hv
                obtain ⟨_, _, zz, _, _, _, _, _, _, z0, z1, zf0, zf1⟩ := hv
                clear hHeld hA HW
                refine AnyU.one (i := 19) (o := _) rfl (by kernel_rfl) (fun K hK => ?_)
                go_simp
                refine hK.out _ _ (fun h => absurd rfl h) ?_
                clear hK K
                refine AnyU.done (by kernel_rfl) ?_
                try simp only [Act.put, List.setIfInBounds_toArray, List.set_cons_zero, List.set_cons_succ]
                clear zz z0 z1 zf0 zf1
                go_wp2_with fail
                go_roundw
                case rel => exact ⟨k + 1, by omega, by go_num, by rw [HIn.out HI.out]; exact HV.out.put _ _⟩
                case measure => simp [intOf]; omega
              · have hd : decide (lo ≤ a ∧ a ≤ hi) = false := decide_eq_false hin
                have HI := Lib.hid hin
                clear hin
                go_wp2_with fail
                go_quiet ((go_at_call 83; exact Calls.quiet_of_same ((rwithin_any _ _ _ _).mono fun _ _ ⟨he, hw⟩ => ⟨he, hw.symm⟩)))
                go_wp2_with fail
                go_roundw
                case rel => exact ⟨k + 1, by omega, by go_num, by rw [HOut.out HI.out]; exact HW.out.later (below_drewN (Below.refl _ _) _)⟩
                case measure => simp [intOf]; omega
            · have hkl : k = ks.length := by omega
              have HE2 : Hid (Ending.returned (.tuple #[sp (rV ks lo hi i1 i2 k).1 (rV ks lo hi i1 i2 k).2, .int .i64 0]) = valueE ks lo hi) := Lib.hid (by rw [hkl, HAcc.out]; exact HE.out)
              obtain ⟨vl, hvl⟩ : ∃ x, (rV ks lo hi i1 i2 k).1 = x := ⟨_, rfl⟩
              obtain ⟨vh, hvh⟩ : ∃ x, (rV ks lo hi i1 i2 k).2 = x := ⟨_, rfl⟩
              rw [hvl, hvh] at hvw HE2
              obtain ⟨hbw, _, zz, _, _, u0, u1, uf0, uf1, z0, z1, _, _⟩ := hvw
              have hzz : w.heap.size + 1 < wr.heap.size := by omega
              clear HW hvl hvh hkl y0 y1 s0 s1 sf0 sf1
              go_wp2_with fail
              exact bodyPost_ret (v := .tuple #[sp vl vh, .int .i64 0]) (by simp [results, Try.results34, go_sem, *]) rfl ⟨HE2.out, by go_grown⟩
    · have hv' : validB lo hi = false := by simpa using hv
      rw [hv']
      have HE := Lib.hid (valueE_bad (ks := ks) (lo := lo) (hi := hi) (n := 10) (by unfold bothN; rw [if_pos HT.out, checkN_no hv']) (by omega))
      clear hv hv'
      go_wp2_with fail
      exact bodyPost_ret (v := .tuple #[sp 0 0, .int .i64 10]) (by simp [results, Try.results34, go_sem, *]) rfl ⟨HE.out, by go_grown⟩
  · have ht' : tableB ks = false := by simpa using ht
    rw [ht']
    have HE := Lib.hid (valueE_bad (ks := ks) (lo := lo) (hi := hi) (n := 13) (by unfold bothN; rw [if_neg (by simp [ht'])]) (by omega))
    clear ht ht'
    go_wp2_with fail
    exact bodyPost_ret (v := .tuple #[sp 0 0, .int .i64 13]) (by simp [results, Try.results34, go_sem, *]) rfl ⟨HE.out, by go_grown⟩
end Go.Proofs.Ytflgdckeinappaa
