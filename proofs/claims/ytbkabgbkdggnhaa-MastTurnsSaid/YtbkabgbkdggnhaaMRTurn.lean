/- The reference of package mast: Turn. -/
import Derived.Test.YtbkabgbkdggnhaaMTurn
namespace Go.Proofs.Ytbkabgbkdggnhaa
open Go.RowKit

/-- The loop's head. -/
def RuHead (n p : Nat) (C : Nat → Bool) (a b c d : Int) (w wr : World) (v : Value) : Prop := ∃ s : Nat, s ≤ n ∧ v = .int .i64 s ∧ (∀ t, t < s → NoS n p C t) ∧ Below w.heap.size w wr ∧ Four wr w.heap.size a b c d

set_option linter.unusedSimpArgs false in
set_option maxRecDepth 100000 in
set_option maxHeartbeats 8000000 in
theorem rturn_any (v : Value) (l : List Pr) (p a b c d m : Int) (w : World) (hs : SlPr w v l) :
    Calls Try.prog 19 #[v, .int .i64 p, wd a b c d, .int .i64 m] w fun e w' => TurnE l p a b c d m e ∧ Below w.heap.size w w' := by
  obtain ⟨ad, cap, rfl, hlen, hcap⟩ := hs.form
  have HS := Lib.hid hs
  clear hs
  go_enter Try.func19, Try.ntmps19
  go_wp2_with fail
  refine (raxes_any _ l _ (prLater HS.out (by go_grown))).mono ?_
  rintro e w1 ⟨rfl, hb1⟩
  have hB1 : Below w.heap.size w w1 := (after (w := w) (by go_grown) hb1).1
  have k1 : Four w1 w.heap.size a b c d := Four.later ⟨by go_cell, by go_cell, by go_cell, by go_cell⟩ hb1
  clear hb1
  have F1 := Lib.hid k1
  obtain ⟨a0, a1, a2, a3⟩ := k1
  have hz1 := World.block_lt_of_cell? _ _ a0
  cases hx : axesB l
  · have HX := Lib.hid hx
    clear hx
    go_wp2_with fail
    go_returns
    exact ⟨⟨0, 0, 72, rfl, .inl ⟨HX.out, rfl⟩⟩, hB1⟩
  have HX := Lib.hid hx
  clear hx
  go_wp2_with fail
  refine (rwind_any a b c d _).mono ?_
  rintro e w2 ⟨rfl, hb2⟩
  have hB2 : Below w.heap.size w w2 := hB1.trans (hb2.mono hB1.size)
  have F2 := Lib.hid (F1.out.later hb2)
  clear hb2 hB1 a0 a1 a2 a3 hz1 F1
  cases hw : windB a b c d
  · have HW := Lib.hid hw
    clear hw
    go_wp2_with fail
    go_returns
    exact ⟨⟨0, 0, 71, rfl, .inr (.inl ⟨HX.out, HW.out, rfl⟩)⟩, hB2⟩
  have HW := Lib.hid hw
  clear hw
  have fl1 : IntKind.i64.wrap ((l.length : Int) - 1) = (l.length : Int) - 1 := IntWalk.i64_in _ ⟨by omega, by omega⟩
  go_wp2_with fail
  refine (rwithin_any p 0 (l.length - 1) _).mono ?_
  rintro e w3 ⟨rfl, rfl⟩
  cases hp : inB p 0 (l.length - 1)
  · have HP := Lib.hid hp
    clear hp
    go_wp2_with fail
    go_returns
    exact ⟨⟨0, 0, 2, rfl, .inr (.inr (.inl ⟨HX.out, HW.out, by rw [HP.out]; rfl, rfl⟩))⟩, hB2⟩
  have HP := Lib.hid hp
  clear hp
  go_wp2_with fail
  refine (rwithin_any m 0 2000 _).mono ?_
  rintro e w4 ⟨rfl, rfl⟩
  cases hm : inB m 0 2000
  · have HM := Lib.hid hm
    clear hm
    go_wp2_with fail
    go_returns
    exact ⟨⟨0, 0, 2, rfl, .inr (.inr (.inl ⟨HX.out, HW.out, by rw [HP.out, HM.out]; rfl, rfl⟩))⟩, hB2⟩
  have HM := Lib.hid hm
  have hm0 : 0 ≤ m ∧ m ≤ 2000 := by simp [inB] at hm; omega
  obtain ⟨hm0, hm1⟩ := hm0
  obtain ⟨p, rfl⟩ : ∃ k : Nat, p = k := ⟨p.toNat, by have := HP.out; simp [inB] at this; omega⟩
  have hpn : p < l.length := by have := HP.out; simp [inB] at this; omega
  have hl32 : l.length ≤ 32 := by have := HX.out; simp [axesB, inB] at this; omega
  have hn0 : 0 < l.length := by omega
  obtain ⟨n, hn⟩ : ∃ n, l.length = n := ⟨_, rfl⟩
  have HIn : Hid ((inB (p : Int) 0 (l.length - 1) && inB m 0 2000) = true) := Lib.hid (by rw [HP.out, HM.out]; rfl)
  rw [hn] at hpn hl32 hn0 hlen hcap
  have HN := Lib.hid hn
  clear hm fl1
  rw [hn]
  clear hn
  go_wp2_with fail
  go_loopw [12] (fun v12 wr => RuHead n p (calmI l a b c d m) a b c d w wr v12) (fun v12 _ => n + 1 - (intOf v12).toNat)
  case atStart => exact ⟨0, by omega, rfl, fun t ht => absurd ht (by omega), hB2, F2.out⟩
  case round =>
    obtain ⟨s, hs, rfl, hno, hbr, hF⟩ := hrel
    have HNo := Lib.hid hno
    have HF := Lib.hid hF
    clear hno hF
    by_cases hlt : s < n
    · have hlt' : (s : Int) < (n : Int) := by omega
      have e1 := nx_int (n := n) (p := p) (s := s)
      have e2 := bf_int (n := n) (p := p) (s := s) (by omega)
      have b1 := nx_lt (p := p) (s := s) hn0
      have b2 := bf_lt (p := p) (s := s) hn0
      obtain ⟨X, hX⟩ : ∃ X, nxI n p s = X := ⟨_, rfl⟩
      obtain ⟨Y, hY⟩ : ∃ Y, bfI n p s = Y := ⟨_, rfl⟩
      rw [hX] at e1 b1
      rw [hY] at e2 b2
      have HXY := Lib.hid (And.intro hX hY)
      clear hX hY
      have f1 : IntKind.i64.wrap ((p : Int) + s) = (p : Int) + s := IntWalk.i64_in _ ⟨by omega, by omega⟩
      have f2 : IntKind.i64.wrap ((p : Int) - s) = (p : Int) - s := IntWalk.i64_in _ ⟨by omega, by omega⟩
      have f3 : IntKind.i64.wrap ((p : Int) - s + n) = (p : Int) - s + n := IntWalk.i64_in _ ⟨by omega, by omega⟩
      have f4 : IntKind.i64.wrap (X : Int) = (X : Int) := IntWalk.i64_in _ ⟨by omega, by omega⟩
      have f5 : IntKind.i64.wrap (Y : Int) = (Y : Int) := IntWalk.i64_in _ ⟨by omega, by omega⟩
      have hne : ¬ (n : Int) = 0 := by omega
      go_wp2_with fail
      go_quiet (fail)
      have hbq := below_drewN hbr nq
      have HF6 := Lib.hid (show Four (wr.drewN nq) w.heap.size a b c d from HF.out.later (below_drewN (Below.refl _ _) nq))
      clear e1 e2 f1 f2 f3 f4 f5 hbr HF
      generalize wr.drewN nq = wq at *
      have hX0 : (0 : Int) ≤ (X : Int) := by omega
      have hX1 : (X : Int) < (n : Int) := by omega
      obtain ⟨bb, off, x, rfl, hb, hc, hat⟩ := HS.out.at (i := X) (by rw [HN.out]; exact b1)
      have HAt := Lib.hid (show PrAt wq bb (off + X * 2) x from PrAt.later hat hbq)
      have HC := Lib.hid hc
      clear hat hc
      go_wp2_with fail
      have hA : Below wq.heap.size wq wq.drew := below_drewN (Below.refl _ _) 1
      refine AnyV.start (Two 6 (fun w' => Below wq.heap.size wq w') 6 (fun _ => True)) 7 #[false, false, false, false, false, false, false] (by kernel_rfl) (by kernel_rfl) (by kernel_rfl) (fun _ => ⟨fun _ => hA, fun _ => trivial⟩) (fun _ => ?_)
      generalize World.drew wq = wd at hA ⊢
      refine AnyV.take 6 7 (i := 0) (oi := _) (v := ?_) rfl (by kernel_rfl) (by kernel_rfl) (by kernel_rfl) (by kernel_rfl) (by kernel_rfl) (fun _ _ _ h => h) (Two.other (by decide)) (Or.inl ⟨by kernel_rfl, ?_⟩) (Two.till (fun _ => hA) (fun _ => trivial)) (fun _ => ?_)
      rotate_left 1
      · intro wz hSw'; have hSw := hSw'.1 rfl; clear hSw'; (have h1 := (HF6.out.later hSw).c0; have h2 := (HF6.out.later hSw).c1; have h3 := (HF6.out.later hSw).c2; have h4 := (HF6.out.later hSw).c3); go_simp; try with_reducible rfl
      try simp only [Act.put, List.setIfInBounds_toArray, List.set_cons_zero, List.set_cons_succ]
      refine AnyV.take 6 7 (i := 1) (oi := _) (v := ?_) rfl (by kernel_rfl) (by kernel_rfl) (by kernel_rfl) (by kernel_rfl) (by kernel_rfl) (fun _ _ _ h => h) (Two.other (by decide)) (Or.inl ⟨by kernel_rfl, ?_⟩) (Two.till (fun _ => hA) (fun _ => trivial)) (fun _ => ?_)
      rotate_left 1
      · intro wz hSw'; have hSw := hSw'.1 rfl; clear hSw'; skip; go_simp; try with_reducible rfl
      try simp only [Act.put, List.setIfInBounds_toArray, List.set_cons_zero, List.set_cons_succ]
      refine AnyV.take 6 7 (i := 2) (oi := _) (v := ?_) rfl (by kernel_rfl) (by kernel_rfl) (by kernel_rfl) (by kernel_rfl) (by kernel_rfl) (fun _ _ _ h => h) (Two.other (by decide)) (Or.inl ⟨by kernel_rfl, ?_⟩) (Two.till (fun _ => hA) (fun _ => trivial)) (fun _ => ?_)
      rotate_left 1
      · intro wz hSw'; have hSw := hSw'.1 rfl; clear hSw'; skip; go_simp; try with_reducible rfl
      try simp only [Act.put, List.setIfInBounds_toArray, List.set_cons_zero, List.set_cons_succ]
      refine AnyV.take 6 7 (i := 3) (oi := _) (v := ?_) rfl (by kernel_rfl) (by kernel_rfl) (by kernel_rfl) (by kernel_rfl) (by kernel_rfl) (fun _ _ _ h => h) (Two.other (by decide)) (Or.inl ⟨by kernel_rfl, ?_⟩) (Two.till (fun _ => hA) (fun _ => trivial)) (fun _ => ?_)
      rotate_left 1
      · intro wz hSw'; have hSw := hSw'.1 rfl; clear hSw'; skip; go_simp; try with_reducible rfl
      try simp only [Act.put, List.setIfInBounds_toArray, List.set_cons_zero, List.set_cons_succ]
      refine AnyV.take 6 7 (i := 4) (oi := _) (v := ?_) rfl (by kernel_rfl) (by kernel_rfl) (by kernel_rfl) (by kernel_rfl) (by kernel_rfl) (fun _ _ _ h => h) (Two.other (by decide)) (Or.inl ⟨by kernel_rfl, ?_⟩) (Two.till (fun _ => hA) (fun _ => trivial)) (fun _ => ?_)
      rotate_left 1
      · intro wz hSw'; have hSw := hSw'.1 rfl; clear hSw'; (have h1 := (PrAt.later HAt.out hSw).c0; have h2 := (PrAt.later HAt.out hSw).c1); go_simp; try with_reducible rfl
      try simp only [Act.put, List.setIfInBounds_toArray, List.set_cons_zero, List.set_cons_succ]
      refine AnyV.take 6 7 (i := 5) (oi := _) (v := ?_) rfl (by kernel_rfl) (by kernel_rfl) (by kernel_rfl) (by kernel_rfl) (by kernel_rfl) (fun _ _ _ h => h) (Two.other (by decide)) (Or.inl ⟨by kernel_rfl, ?_⟩) (Two.till (fun _ => hA) (fun _ => trivial)) (fun _ => ?_)
      rotate_left 1
      · intro wz hSw'; have hSw := hSw'.1 rfl; clear hSw'; skip; go_simp; try with_reducible rfl
      try simp only [Act.put, List.setIfInBounds_toArray, List.set_cons_zero, List.set_cons_succ]
      refine AnyV.one (i := 6) (o := _) rfl (by kernel_rfl) (fun K hK => ?_)
      go_simp
      refine (rcalm_any a b c d x.a x.b m _ HW.out (all_ax HX.out HC.out) hm0 hm1).mono ?_
      rintro e w7 ⟨rfl, hb7⟩
      replace hA := two hA hb7
      have hB7 : Below w.heap.size w w7 := hbq.trans (hA.mono hbq.size)
      have F7 := Lib.hid (HF6.out.later hA)
      have HU := Lib.hid (calmI_at (a := a) (b := b) (c := c) (d := d) (m := m) HC.out)
      obtain ⟨u, hu⟩ : ∃ u, calmB a b c d x.a x.b m = u := ⟨_, rfl⟩
      rw [hu]
      have HU2 := Lib.hid hu
      clear hu
      go_wp2_with fail
      refine hK.out _ _ (Two.till (fun h => absurd h (by decide)) (fun _ => trivial)) ?_
      clear hK K hb7
      refine AnyV.done (by kernel_rfl) ?_
      try simp only [Act.put, List.setIfInBounds_toArray, List.set_cons_zero, List.set_cons_succ]
      clear hA
      cases u
      · have HV : Hid (calmI l a b c d m X = false) := Lib.hid (by rw [HU.out, HU2.out])
        clear HU HU2
        go_wp2_with fail
        have HC1 : Hid (calmI l a b c d m (nxI n p s) = false) := Lib.hid (by rw [HXY.out.1]; exact HV.out)
        clear HV HC hX0 hX1 HAt hbq HF6
        have hbq := hB7
        have HF6 := F7
        clear hB7 F7
        generalize w7 = wq at *
        have hX0 : (0 : Int) ≤ (Y : Int) := by omega
        have hX1 : (Y : Int) < (n : Int) := by omega
        obtain ⟨bb2, off2, x, hbo, hb, hc, hat⟩ := HS.out.at (i := Y) (by rw [HN.out]; exact b2)
        injection hbo with hbo
        injection hbo with hbo1 hbo2
        subst hbo1 hbo2
        have HAt := Lib.hid (show PrAt wq bb (off + Y * 2) x from PrAt.later hat hbq)
        have HC := Lib.hid hc
        clear hat hc
        go_wp2_with fail
        have hA : Below wq.heap.size wq wq.drew := below_drewN (Below.refl _ _) 1
        refine AnyV.start (Two 6 (fun w' => Below wq.heap.size wq w') 6 (fun _ => True)) 7 #[false, false, false, false, false, false, false] (by kernel_rfl) (by kernel_rfl) (by kernel_rfl) (fun _ => ⟨fun _ => hA, fun _ => trivial⟩) (fun _ => ?_)
        generalize World.drew wq = wd at hA ⊢
        refine AnyV.take 6 7 (i := 0) (oi := _) (v := ?_) rfl (by kernel_rfl) (by kernel_rfl) (by kernel_rfl) (by kernel_rfl) (by kernel_rfl) (fun _ _ _ h => h) (Two.other (by decide)) (Or.inl ⟨by kernel_rfl, ?_⟩) (Two.till (fun _ => hA) (fun _ => trivial)) (fun _ => ?_)
        rotate_left 1
        · intro wz hSw'; have hSw := hSw'.1 rfl; clear hSw'; (have h1 := (HF6.out.later hSw).c0; have h2 := (HF6.out.later hSw).c1; have h3 := (HF6.out.later hSw).c2; have h4 := (HF6.out.later hSw).c3); go_simp; try with_reducible rfl
        try simp only [Act.put, List.setIfInBounds_toArray, List.set_cons_zero, List.set_cons_succ]
        refine AnyV.take 6 7 (i := 1) (oi := _) (v := ?_) rfl (by kernel_rfl) (by kernel_rfl) (by kernel_rfl) (by kernel_rfl) (by kernel_rfl) (fun _ _ _ h => h) (Two.other (by decide)) (Or.inl ⟨by kernel_rfl, ?_⟩) (Two.till (fun _ => hA) (fun _ => trivial)) (fun _ => ?_)
        rotate_left 1
        · intro wz hSw'; have hSw := hSw'.1 rfl; clear hSw'; skip; go_simp; try with_reducible rfl
        try simp only [Act.put, List.setIfInBounds_toArray, List.set_cons_zero, List.set_cons_succ]
        refine AnyV.take 6 7 (i := 2) (oi := _) (v := ?_) rfl (by kernel_rfl) (by kernel_rfl) (by kernel_rfl) (by kernel_rfl) (by kernel_rfl) (fun _ _ _ h => h) (Two.other (by decide)) (Or.inl ⟨by kernel_rfl, ?_⟩) (Two.till (fun _ => hA) (fun _ => trivial)) (fun _ => ?_)
        rotate_left 1
        · intro wz hSw'; have hSw := hSw'.1 rfl; clear hSw'; skip; go_simp; try with_reducible rfl
        try simp only [Act.put, List.setIfInBounds_toArray, List.set_cons_zero, List.set_cons_succ]
        refine AnyV.take 6 7 (i := 3) (oi := _) (v := ?_) rfl (by kernel_rfl) (by kernel_rfl) (by kernel_rfl) (by kernel_rfl) (by kernel_rfl) (fun _ _ _ h => h) (Two.other (by decide)) (Or.inl ⟨by kernel_rfl, ?_⟩) (Two.till (fun _ => hA) (fun _ => trivial)) (fun _ => ?_)
        rotate_left 1
        · intro wz hSw'; have hSw := hSw'.1 rfl; clear hSw'; skip; go_simp; try with_reducible rfl
        try simp only [Act.put, List.setIfInBounds_toArray, List.set_cons_zero, List.set_cons_succ]
        refine AnyV.take 6 7 (i := 4) (oi := _) (v := ?_) rfl (by kernel_rfl) (by kernel_rfl) (by kernel_rfl) (by kernel_rfl) (by kernel_rfl) (fun _ _ _ h => h) (Two.other (by decide)) (Or.inl ⟨by kernel_rfl, ?_⟩) (Two.till (fun _ => hA) (fun _ => trivial)) (fun _ => ?_)
        rotate_left 1
        · intro wz hSw'; have hSw := hSw'.1 rfl; clear hSw'; (have h1 := (PrAt.later HAt.out hSw).c0; have h2 := (PrAt.later HAt.out hSw).c1); go_simp; try with_reducible rfl
        try simp only [Act.put, List.setIfInBounds_toArray, List.set_cons_zero, List.set_cons_succ]
        refine AnyV.take 6 7 (i := 5) (oi := _) (v := ?_) rfl (by kernel_rfl) (by kernel_rfl) (by kernel_rfl) (by kernel_rfl) (by kernel_rfl) (fun _ _ _ h => h) (Two.other (by decide)) (Or.inl ⟨by kernel_rfl, ?_⟩) (Two.till (fun _ => hA) (fun _ => trivial)) (fun _ => ?_)
        rotate_left 1
        · intro wz hSw'; have hSw := hSw'.1 rfl; clear hSw'; skip; go_simp; try with_reducible rfl
        try simp only [Act.put, List.setIfInBounds_toArray, List.set_cons_zero, List.set_cons_succ]
        refine AnyV.one (i := 6) (o := _) rfl (by kernel_rfl) (fun K hK => ?_)
        go_simp
        refine (rcalm_any a b c d x.a x.b m _ HW.out (all_ax HX.out HC.out) hm0 hm1).mono ?_
        rintro e w7 ⟨rfl, hb7⟩
        replace hA := two hA hb7
        have hB7 : Below w.heap.size w w7 := hbq.trans (hA.mono hbq.size)
        have F7 := Lib.hid (HF6.out.later hA)
        have HU := Lib.hid (calmI_at (a := a) (b := b) (c := c) (d := d) (m := m) HC.out)
        obtain ⟨u, hu⟩ : ∃ u, calmB a b c d x.a x.b m = u := ⟨_, rfl⟩
        rw [hu]
        have HU2 := Lib.hid hu
        clear hu
        go_wp2_with fail
        refine hK.out _ _ (Two.till (fun h => absurd h (by decide)) (fun _ => trivial)) ?_
        clear hK K hb7
        refine AnyV.done (by kernel_rfl) ?_
        try simp only [Act.put, List.setIfInBounds_toArray, List.set_cons_zero, List.set_cons_succ]
        clear hA
        cases u
        · have HV : Hid (calmI l a b c d m Y = false) := Lib.hid (by rw [HU.out, HU2.out])
          clear HU HU2
          go_wp2_with fail
          (go_roundw; (case rel => exact ⟨s + 1, by omega, by go_num, (fun t ht => by rcases Nat.lt_succ_iff_lt_or_eq.1 ht with h | h; exact HNo.out t h; (subst h; exact ⟨HC1.out, by rw [HXY.out.2]; exact HV.out⟩)), hB7, F7.out⟩); (case measure => simp [intOf]; omega))
        · have HV : Hid (calmI l a b c d m Y = true) := Lib.hid (by rw [HU.out, HU2.out])
          clear HU HU2
          go_wp2_with fail
          (go_returns; exact ⟨⟨Y, s, 0, rfl, .inr (.inr (.inr ⟨HX.out, HW.out, HIn.out, by rw [HN.out]; show TurnOut n p _ _; exact TurnOut.found hlt HNo.out (.inr ⟨HC1.out, by rw [HXY.out.2]; exact HV.out, by rw [HXY.out.2]⟩)⟩))⟩, hB7⟩)
      · have HV : Hid (calmI l a b c d m X = true) := Lib.hid (by rw [HU.out, HU2.out])
        clear HU HU2
        go_wp2_with fail
        (go_returns; exact ⟨⟨X, s, 0, rfl, .inr (.inr (.inr ⟨HX.out, HW.out, HIn.out, by rw [HN.out]; show TurnOut n p _ _; exact TurnOut.found hlt HNo.out (.inl ⟨by rw [HXY.out.1]; exact HV.out, by rw [HXY.out.1]⟩)⟩))⟩, hB7⟩)
    · have hlt' : ¬ (s : Int) < (n : Int) := by omega
      have hall : ∀ t, t ≤ n / 2 → NoS n p (calmI l a b c d m) t := fun t ht => HNo.out t (by omega)
      have HAll := Lib.hid hall
      clear hall
      go_wp2_with fail
      go_returns
      exact ⟨⟨0, 0, 6, rfl, .inr (.inr (.inr ⟨HX.out, HW.out, HIn.out, by rw [HN.out]; show TurnOut n p _ _; exact .inr ⟨HAll.out, rfl⟩⟩))⟩, hbr⟩
end Go.Proofs.Ytbkabgbkdggnhaa
