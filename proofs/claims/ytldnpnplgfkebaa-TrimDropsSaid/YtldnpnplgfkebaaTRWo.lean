/- The reference of layer 4: worst. -/
import Derived.Test.YtldnpnplgfkebaaTCorn
import Derived.Test.YtldnpnplgfkebaaTOwn
import Derived.Test.YtldnpnplgfkebaaTail4
namespace Go.Proofs.Ytldnpnplgfkebaa
open Go.RowKit

/-- The head of worst's loop. -/
def RwHead (x : Li) (ls : List Ld) (w wr : World) (v5 v6 : Value) : Prop := ∃ k : Nat, k ≤ ls.length ∧ v6 = .int .i64 k ∧ wr.ownsRow (w.heap.size + 1) 89 2 v5 k (spP ((ls.take k).map (worstP x.a x.b))) ∧ Below w.heap.size w wr ∧ Three wr w.heap.size x.a x.b x.c
/-- The head of the loop over corners: what is the best so far, and what is left. -/
def RcHead (x : Li) (l : Ld) (g B : Nat) (W wr : World) (v9 : Value) : Prop := ∃ (j : Nat) (m : Pu), (j = 1 ∨ j = 2 ∨ j = 3 ∨ j = 4) ∧ v9 = .int .i64 j ∧ ((cornersP l).drop j).foldl (betterP x.a x.b) m = worstP x.a x.b l ∧ PuB m ∧ Below W.heap.size W wr ∧ Box2 wr B m.p m.w ∧ Corns wr g l

/-- What stands while two values are asked for. -/
structure RwS (W : World) (g B X o : Nat) (p m : Pu) (x : Li) : Prop where
  c : PuAt W g o p
  m : Two2 W B m.p m.w
  x : Three W X x.a x.b x.c
theorem RwS.later {w w1 : World} {g B X o : Nat} {p m : Pu} {x : Li} (h : RwS w g B X o p m x) (hb : Below w.heap.size w w1) : RwS w1 g B X o p m x := ⟨PuAt.later h.c hb, h.m.later hb, h.x.later hb⟩

theorem sum_one {α : Type} (f : α → Int) (x : α) : sumE f [x] = f x := by simp [sumE]
/-- A put of its own, made in a region of W. -/
theorem put_new {W cur : World} {t : TypeId} (m : Pu) (hA : Below W.heap.size W cur) :
    ∃ w9 B, cur.alloc (.cells #[.int .i64 m.p, .int .i64 m.w] t) = w9 ∧ cur.heap.size = B ∧ Below W.heap.size W w9 ∧ PuAt w9 B 0 m :=
  ⟨_, _, rfl, rfl, hA.alloc hA.size _, ⟨by go_cell, by go_cell⟩⟩
set_option linter.unusedSimpArgs false in
set_option maxRecDepth 100000 in
set_option maxHeartbeats 16000000 in
theorem rworst_new (v : Value) (ls : List Ld) (x : Li) (w : World) (hv : SlLd w v ls) (h50 : ls.length ≤ 50) (hs : ScB x.a x.b) (hl : ∀ l, l ∈ ls → LdB l) :
    Calls Try.prog 70 #[v, liV x] w fun e w' => ∃ u, e = .returned u ∧ SlPu w' u (ls.map (worstP x.a x.b)) ∧ Below w.heap.size w w' ∧ ∀ g, u.ownBlock = some g → w.heap.size < g := by
  obtain ⟨ad, cap, rfl, hlen, hcap⟩ := hv.form
  have HV := Lib.hid hv
  have HS := Lib.hid hs
  have HL := Lib.hid hl
  clear hv hs hl
  obtain ⟨i0, hi, hz0, hz1, hz2⟩ := info_parts (P := Try.prog) (e := 89) (z := .agg #[.int .i64 0, .int .i64 0]) (size := 2) (bytes := 16) (by kernel_rfl)
  have HI := Lib.hid hi
  have HZ0 := Lib.hid hz0
  have HZ1 := Lib.hid hz1
  have HZ2 := Lib.hid hz2
  clear hi hz0 hz1 hz2
  go_enter Try.func70, Try.ntmps70
  go_wp2_with fail
  go_loopw [5, 6] (fun v5 v6 wr => RwHead x ls w wr v5 v6) (fun _ v6 _ => ls.length - (intOf v6).toNat)
  case atStart => exact ⟨0, by omega, rfl, own_no _ _ _ _, by go_grown, ⟨by go_cell, by go_cell, by go_cell⟩⟩
  case round =>
    obtain ⟨k, hk, rfl, hown, hbr, h3⟩ := hrel
    generalize wr = wo at *
    have H3 := Lib.hid h3
    have HO := Lib.hid hown
    clear h3 hown
    by_cases hlt : k < ls.length
    rotate_left 1
    · have hkk : ls.take k = ls := List.take_of_length_le (by omega)
      have hkl : k = ls.length := by omega
      have HK := Lib.hid (And.intro hkk hkl)
      clear hkk hkl
      go_wp2_with fail
      go_returns
      exact ⟨_, rfl, SlPu.of (by have := HO.out; rw [HK.out.1, HK.out.2] at this; rw [List.length_map]; exact this) (by rw [List.length_map]; omega), hbr, fun g hg => (HO.out.lt g hg).1⟩
    obtain ⟨bk, off, c, rfl, hb, hc, hat⟩ := HV.out.at hlt
    obtain ⟨c0, c1, c2, c3⟩ := LdAt.later hat (show Below w.heap.size w wo from hbr)
    obtain ⟨x0, x1, x2⟩ := H3.out
    have hlt' : (k : Int) < (ls.length : Int) := by omega
    have hk0 : (0 : Int) ≤ (k : Int) := by omega
    have HC := Lib.hid hc
    have HLc := Lib.hid (HL.out c (List.mem_of_getElem? hc))
    have hsz := hbr.size
    clear hc hat
    go_wp2_with fail
    refine (rcorners_any c _).mono ?_
    rintro e w1 ⟨g, rfl, hg, hb1⟩
    have hb11 : Below wo.heap.size wo w1 := two (W := wo) (by go_grown) hb1
    have HG := Lib.hid hg
    clear hb1 hg c0 c1 c2 c3 x0 x1 x2
    have HCo := Lib.hid (corns HG.out)
    have hgz : g < w1.heap.size := World.block_lt_of_cell? _ _ HCo.out.k0.c0
    obtain ⟨d0, d1⟩ := HCo.out.k0
    have HB1 := Lib.hid hb11
    clear hb11
    go_wp2_with fail
    go_loopw [9] (fun v9 wi => RcHead x c g w1.heap.size wo wi v9) (fun v9 _ => 4 - (intOf v9).toNat)
    case atStart =>
      have hb11 := HB1.out
      have hs11 := hb11.size
      exact ⟨1, ⟨c.a0, c.w0⟩, .inl rfl, rfl, rfl, corner_bound HLc.out _ (by simp [cornersP]), by go_grown, ⟨by go_cell, by go_cell, by go_cell, by go_cell⟩, HCo.out.later (by go_grown)⟩
    case round =>
      obtain ⟨j, m, hj, rfl, hf, hm, hbi, hbx, hsl⟩ := hrel
      have hs11 := HB1.out.size
      have HF := Lib.hid hf
      have HM := Lib.hid hm
      have HBi := Lib.hid hbi
      have HBx := Lib.hid hbx
      replace HCo := Lib.hid hsl
      have H3i := Lib.hid (H3.out.later hbi)
      clear hf hm hbi hbx hsl
      rcases hj with rfl | rfl | rfl | rfl
      · skip
        have wrapN := Lib.hid (show IntKind.i64.wrap 2 = 2 from rfl)
        have HPb := Lib.hid (corner_bound HLc.out (⟨c.a1, c.w0⟩ : Pu) (by simp [cornersP]))
        have HX := Lib.hid (show RwS wr g w1.heap.size w.heap.size 2 (⟨c.a1, c.w0⟩ : Pu) m x from ⟨HCo.out.k1, ⟨HBx.out.c0, HBx.out.c1⟩, H3i.out⟩)
        obtain ⟨Yp, hYp⟩ : ∃ Y, valE x.a x.b (⟨c.a1, c.w0⟩ : Pu) = Y := ⟨_, rfl⟩
        obtain ⟨Ym, hYm⟩ : ∃ Y, valE x.a x.b m = Y := ⟨_, rfl⟩
        have HYp := Lib.hid hYp
        have HYm := Lib.hid hYm
        by_cases hgt : Ym < Yp
        · have HGt := Lib.hid (show valE x.a x.b m < valE x.a x.b (⟨c.a1, c.w0⟩ : Pu) by rw [hYp, hYm]; exact hgt)
          clear hYp hYm
          obtain ⟨p0, p1⟩ := HCo.out.k1
          obtain ⟨m0, m1, mf0, mf1⟩ := HBx.out
          obtain ⟨x0, x1, x2⟩ := H3i.out
          have z0 := HBx.out.lt
          go_wp2_with fail
          clear p0 p1 m0 m1 mf0 mf1 x0 x1 x2 z0
          have hA : Below wr.heap.size wr wr.drew := below_drewN (Below.refl _ _) 1
          refine AnyV.start (Two 11 (fun w' => Below wr.heap.size wr w') 11 (fun _ => True)) 12 #[false, false, false, false, false, false, false, false, false, false, false, false] (by kernel_rfl) (by kernel_rfl) (by kernel_rfl) (fun _ => ⟨fun _ => hA, fun _ => trivial⟩) (fun hHeld => ?_)
          generalize World.drew wr = wd at hA hHeld ⊢
          refine AnyV.take 11 13 (i := 0) (oi := _) (v := ?_) rfl (by kernel_rfl) (by kernel_rfl) (by kernel_rfl) (by kernel_rfl) (by kernel_rfl) (fun _ _ _ h => h) (Two.other (by decide)) (Or.inl ⟨by kernel_rfl, ?_⟩) (by assumption) (fun hHeld => ?_)
          rotate_left 1
          · intro wz hSw'; have hSw := HX.out.later (hSw'.1 rfl); clear hSw'; skip; go_simp; try with_reducible rfl
          try simp only [Act.put, List.setIfInBounds_toArray, List.set_cons_zero, List.set_cons_succ] at hHeld ⊢
          refine AnyV.take 11 13 (i := 1) (oi := _) (v := ?_) rfl (by kernel_rfl) (by kernel_rfl) (by kernel_rfl) (by kernel_rfl) (by kernel_rfl) (fun _ _ _ h => h) (Two.other (by decide)) (Or.inl ⟨by kernel_rfl, ?_⟩) (by assumption) (fun hHeld => ?_)
          rotate_left 1
          · intro wz hSw'; have hSw := HX.out.later (hSw'.1 rfl); clear hSw'; skip; go_simp; try with_reducible rfl
          try simp only [Act.put, List.setIfInBounds_toArray, List.set_cons_zero, List.set_cons_succ] at hHeld ⊢
          refine AnyV.take 11 13 (i := 2) (oi := _) (v := ?_) rfl (by kernel_rfl) (by kernel_rfl) (by kernel_rfl) (by kernel_rfl) (by kernel_rfl) (fun _ _ _ h => h) (Two.other (by decide)) (Or.inl ⟨by kernel_rfl, ?_⟩) (by assumption) (fun hHeld => ?_)
          rotate_left 1
          · intro wz hSw'; have hSw := HX.out.later (hSw'.1 rfl); clear hSw'; skip; go_simp; try with_reducible rfl
          try simp only [Act.put, List.setIfInBounds_toArray, List.set_cons_zero, List.set_cons_succ] at hHeld ⊢
          refine AnyV.take 11 13 (i := 3) (oi := _) (v := ?_) rfl (by kernel_rfl) (by kernel_rfl) (by kernel_rfl) (by kernel_rfl) (by kernel_rfl) (fun _ _ _ h => h) (Two.other (by decide)) (Or.inl ⟨by kernel_rfl, ?_⟩) (by assumption) (fun hHeld => ?_)
          rotate_left 1
          · intro wz hSw'; have hSw := HX.out.later (hSw'.1 rfl); clear hSw'; skip; go_simp; try with_reducible rfl
          try simp only [Act.put, List.setIfInBounds_toArray, List.set_cons_zero, List.set_cons_succ] at hHeld ⊢
          refine AnyV.take 11 13 (i := 4) (oi := _) (v := ?_) rfl (by kernel_rfl) (by kernel_rfl) (by kernel_rfl) (by kernel_rfl) (by kernel_rfl) (fun _ _ _ h => h) (Two.other (by decide)) (Or.inl ⟨by kernel_rfl, ?_⟩) (by assumption) (fun hHeld => ?_)
          rotate_left 1
          · intro wz hSw'; have hSw := HX.out.later (hSw'.1 rfl); clear hSw'; have q0 := wrapN.out; go_simp; try with_reducible rfl
          try simp only [Act.put, List.setIfInBounds_toArray, List.set_cons_zero, List.set_cons_succ] at hHeld ⊢
          refine AnyV.take 11 13 (i := 5) (oi := _) (v := ?_) rfl (by kernel_rfl) (by kernel_rfl) (by kernel_rfl) (by kernel_rfl) (by kernel_rfl) (fun _ _ _ h => h) (Two.other (by decide)) (Or.inl ⟨by kernel_rfl, ?_⟩) (by assumption) (fun hHeld => ?_)
          rotate_left 1
          · intro wz hSw'; have hSw := HX.out.later (hSw'.1 rfl); clear hSw'; (have q0 := hSw.x.c0; have q1 := hSw.x.c1; have q2 := hSw.x.c2); go_simp; try with_reducible rfl
          try simp only [Act.put, List.setIfInBounds_toArray, List.set_cons_zero, List.set_cons_succ] at hHeld ⊢
          refine AnyV.take 11 13 (i := 7) (oi := _) (v := ?_) rfl (by kernel_rfl) (by kernel_rfl) (by kernel_rfl) (by kernel_rfl) (by kernel_rfl) (fun _ _ _ h => h) (Two.other (by decide)) (Or.inl ⟨by kernel_rfl, ?_⟩) (by assumption) (fun hHeld => ?_)
          rotate_left 1
          · intro wz hSw'; have hSw := HX.out.later (hSw'.1 rfl); clear hSw'; (have q0 := hSw.m.c0; have q1 := hSw.m.c1); go_simp; try with_reducible rfl
          try simp only [Act.put, List.setIfInBounds_toArray, List.set_cons_zero, List.set_cons_succ] at hHeld ⊢
          refine AnyV.take 11 13 (i := 9) (oi := _) (v := ?_) rfl (by kernel_rfl) (by kernel_rfl) (by kernel_rfl) (by kernel_rfl) (by kernel_rfl) (fun _ _ _ h => h) (Two.other (by decide)) (Or.inl ⟨by kernel_rfl, ?_⟩) (by assumption) (fun hHeld => ?_)
          rotate_left 1
          · intro wz hSw'; have hSw := HX.out.later (hSw'.1 rfl); clear hSw'; (have q0 := hSw.x.c0; have q1 := hSw.x.c1; have q2 := hSw.x.c2); go_simp; try with_reducible rfl
          try simp only [Act.put, List.setIfInBounds_toArray, List.set_cons_zero, List.set_cons_succ] at hHeld ⊢
          clear hHeld
          refine AnyV.some [6, 8] (by kernel_rfl) (by simp) (fun i hi => ?_)
          simp only [List.mem_cons, List.not_mem_nil, or_false] at hi
          rcases hi with rfl | rfl
          · skip
            refine AnyV.step (o := _) rfl (fun K hK => ?_)
            go_simp
            refine (rvalue_any _ [(⟨c.a1, c.w0⟩ : Pu)] x _ (one_put (HX.out.later hA).c (by omega)) (by simp) HS.out (fun q hq => by simp at hq; subst hq; exact HPb.out)).mono ?_
            rintro e w6 ⟨rfl, hb6⟩
            rw [sum_one, HYp.out]
            try replace hnew := PuAt.later hnew hb6
            replace hA := two hA hb6
            clear hb6
            go_wp2_with fail
            refine hK.out _ _ (Two.till (fun _ => hA) (fun _ => trivial)) ?_
            clear hK K
            try simp only [Act.put, List.setIfInBounds_toArray, List.set_cons_zero, List.set_cons_succ]
            refine AnyV.one (i := 8) (o := _) rfl (by kernel_rfl) (fun K hK => ?_)
            go_simp
            obtain ⟨w9, B9, e9, f9, hA9, hnew⟩ := put_new (t := 89) m hA
            rw [e9, f9]
            clear e9 f9 hA
            have hA := hA9
            clear hA9
            refine hK.out _ _ (Two.till (fun _ => hA) (fun _ => trivial)) ?_
            clear hK K
            try simp only [Act.put, List.setIfInBounds_toArray, List.set_cons_zero, List.set_cons_succ]
            refine AnyV.one (i := 10) (o := _) rfl (by kernel_rfl) (fun K hK => ?_)
            go_simp
            refine (rvalue_any _ [m] x _ (one_put hnew (by omega)) (by simp) HS.out (fun q hq => by simp at hq; subst hq; exact HM.out)).mono ?_
            rintro e w7 ⟨rfl, hb7⟩
            rw [sum_one, HYm.out]
            clear hnew
            replace hA := two hA hb7
            clear hb7
            go_wp2_with fail
            refine hK.out _ _ (Two.till (fun _ => hA) (fun _ => trivial)) ?_
            clear hK K
            try simp only [Act.put, List.setIfInBounds_toArray, List.set_cons_zero, List.set_cons_succ]
            refine AnyV.one (i := 11) (o := _) rfl (by kernel_rfl) (fun K hK => ?_)
            go_simp
            refine hK.out _ _ (Two.till (fun h => absurd h (by decide)) (fun _ => trivial)) ?_
            clear hK K
            refine AnyV.done (by kernel_rfl) ?_
            try simp only [Act.put, List.setIfInBounds_toArray, List.set_cons_zero, List.set_cons_succ]
            have hc9 := HCo.out.later hA
            have hb9 := HBx.out.later hA
            have hx9 := H3i.out.later hA
            have hw9 := HBi.out.trans (hA.mono HBi.out.size)
            have z9 := hb9.lt
            obtain ⟨m0, m1, mf0, mf1⟩ := hb9
            obtain ⟨p0, p1⟩ := hc9.k1
            go_wp2_with fail
            go_roundw
            case rel => exact ⟨2, (⟨c.a1, c.w0⟩ : Pu), .inr (.inl rfl), by go_num, by have := HF.out; rw [show (cornersP c).drop (2 - 1) = (⟨c.a1, c.w0⟩ : Pu) :: (cornersP c).drop 2 from rfl, List.foldl_cons, better_yes HGt.out] at this; exact this, HPb.out, by go_grown, ⟨by go_cell, by go_cell, by go_cell, by go_cell⟩, hc9.store (by omega) _ _⟩
            case measure => simp [intOf]
          · skip
            refine AnyV.step (o := _) rfl (fun K hK => ?_)
            go_simp
            obtain ⟨w9, B9, e9, f9, hA9, hnew⟩ := put_new (t := 89) m hA
            rw [e9, f9]
            clear e9 f9 hA
            have hA := hA9
            clear hA9
            refine hK.out _ _ (Two.till (fun _ => hA) (fun _ => trivial)) ?_
            clear hK K
            try simp only [Act.put, List.setIfInBounds_toArray, List.set_cons_zero, List.set_cons_succ]
            refine AnyV.one (i := 6) (o := _) rfl (by kernel_rfl) (fun K hK => ?_)
            go_simp
            refine (rvalue_any _ [(⟨c.a1, c.w0⟩ : Pu)] x _ (one_put (HX.out.later hA).c (by omega)) (by simp) HS.out (fun q hq => by simp at hq; subst hq; exact HPb.out)).mono ?_
            rintro e w6 ⟨rfl, hb6⟩
            rw [sum_one, HYp.out]
            try replace hnew := PuAt.later hnew hb6
            replace hA := two hA hb6
            clear hb6
            go_wp2_with fail
            refine hK.out _ _ (Two.till (fun _ => hA) (fun _ => trivial)) ?_
            clear hK K
            try simp only [Act.put, List.setIfInBounds_toArray, List.set_cons_zero, List.set_cons_succ]
            refine AnyV.one (i := 10) (o := _) rfl (by kernel_rfl) (fun K hK => ?_)
            go_simp
            refine (rvalue_any _ [m] x _ (one_put hnew (by omega)) (by simp) HS.out (fun q hq => by simp at hq; subst hq; exact HM.out)).mono ?_
            rintro e w7 ⟨rfl, hb7⟩
            rw [sum_one, HYm.out]
            clear hnew
            replace hA := two hA hb7
            clear hb7
            go_wp2_with fail
            refine hK.out _ _ (Two.till (fun _ => hA) (fun _ => trivial)) ?_
            clear hK K
            try simp only [Act.put, List.setIfInBounds_toArray, List.set_cons_zero, List.set_cons_succ]
            refine AnyV.one (i := 11) (o := _) rfl (by kernel_rfl) (fun K hK => ?_)
            go_simp
            refine hK.out _ _ (Two.till (fun h => absurd h (by decide)) (fun _ => trivial)) ?_
            clear hK K
            refine AnyV.done (by kernel_rfl) ?_
            try simp only [Act.put, List.setIfInBounds_toArray, List.set_cons_zero, List.set_cons_succ]
            have hc9 := HCo.out.later hA
            have hb9 := HBx.out.later hA
            have hx9 := H3i.out.later hA
            have hw9 := HBi.out.trans (hA.mono HBi.out.size)
            have z9 := hb9.lt
            obtain ⟨m0, m1, mf0, mf1⟩ := hb9
            obtain ⟨p0, p1⟩ := hc9.k1
            go_wp2_with fail
            go_roundw
            case rel => exact ⟨2, (⟨c.a1, c.w0⟩ : Pu), .inr (.inl rfl), by go_num, by have := HF.out; rw [show (cornersP c).drop (2 - 1) = (⟨c.a1, c.w0⟩ : Pu) :: (cornersP c).drop 2 from rfl, List.foldl_cons, better_yes HGt.out] at this; exact this, HPb.out, by go_grown, ⟨by go_cell, by go_cell, by go_cell, by go_cell⟩, hc9.store (by omega) _ _⟩
            case measure => simp [intOf]
        · have HGt := Lib.hid (show ¬ valE x.a x.b m < valE x.a x.b (⟨c.a1, c.w0⟩ : Pu) by rw [hYp, hYm]; exact hgt)
          clear hYp hYm
          obtain ⟨p0, p1⟩ := HCo.out.k1
          obtain ⟨m0, m1, mf0, mf1⟩ := HBx.out
          obtain ⟨x0, x1, x2⟩ := H3i.out
          have z0 := HBx.out.lt
          go_wp2_with fail
          clear p0 p1 m0 m1 mf0 mf1 x0 x1 x2 z0
          have hA : Below wr.heap.size wr wr.drew := below_drewN (Below.refl _ _) 1
          refine AnyV.start (Two 11 (fun w' => Below wr.heap.size wr w') 11 (fun _ => True)) 12 #[false, false, false, false, false, false, false, false, false, false, false, false] (by kernel_rfl) (by kernel_rfl) (by kernel_rfl) (fun _ => ⟨fun _ => hA, fun _ => trivial⟩) (fun hHeld => ?_)
          generalize World.drew wr = wd at hA hHeld ⊢
          refine AnyV.take 11 13 (i := 0) (oi := _) (v := ?_) rfl (by kernel_rfl) (by kernel_rfl) (by kernel_rfl) (by kernel_rfl) (by kernel_rfl) (fun _ _ _ h => h) (Two.other (by decide)) (Or.inl ⟨by kernel_rfl, ?_⟩) (by assumption) (fun hHeld => ?_)
          rotate_left 1
          · intro wz hSw'; have hSw := HX.out.later (hSw'.1 rfl); clear hSw'; skip; go_simp; try with_reducible rfl
          try simp only [Act.put, List.setIfInBounds_toArray, List.set_cons_zero, List.set_cons_succ] at hHeld ⊢
          refine AnyV.take 11 13 (i := 1) (oi := _) (v := ?_) rfl (by kernel_rfl) (by kernel_rfl) (by kernel_rfl) (by kernel_rfl) (by kernel_rfl) (fun _ _ _ h => h) (Two.other (by decide)) (Or.inl ⟨by kernel_rfl, ?_⟩) (by assumption) (fun hHeld => ?_)
          rotate_left 1
          · intro wz hSw'; have hSw := HX.out.later (hSw'.1 rfl); clear hSw'; skip; go_simp; try with_reducible rfl
          try simp only [Act.put, List.setIfInBounds_toArray, List.set_cons_zero, List.set_cons_succ] at hHeld ⊢
          refine AnyV.take 11 13 (i := 2) (oi := _) (v := ?_) rfl (by kernel_rfl) (by kernel_rfl) (by kernel_rfl) (by kernel_rfl) (by kernel_rfl) (fun _ _ _ h => h) (Two.other (by decide)) (Or.inl ⟨by kernel_rfl, ?_⟩) (by assumption) (fun hHeld => ?_)
          rotate_left 1
          · intro wz hSw'; have hSw := HX.out.later (hSw'.1 rfl); clear hSw'; skip; go_simp; try with_reducible rfl
          try simp only [Act.put, List.setIfInBounds_toArray, List.set_cons_zero, List.set_cons_succ] at hHeld ⊢
          refine AnyV.take 11 13 (i := 3) (oi := _) (v := ?_) rfl (by kernel_rfl) (by kernel_rfl) (by kernel_rfl) (by kernel_rfl) (by kernel_rfl) (fun _ _ _ h => h) (Two.other (by decide)) (Or.inl ⟨by kernel_rfl, ?_⟩) (by assumption) (fun hHeld => ?_)
          rotate_left 1
          · intro wz hSw'; have hSw := HX.out.later (hSw'.1 rfl); clear hSw'; skip; go_simp; try with_reducible rfl
          try simp only [Act.put, List.setIfInBounds_toArray, List.set_cons_zero, List.set_cons_succ] at hHeld ⊢
          refine AnyV.take 11 13 (i := 4) (oi := _) (v := ?_) rfl (by kernel_rfl) (by kernel_rfl) (by kernel_rfl) (by kernel_rfl) (by kernel_rfl) (fun _ _ _ h => h) (Two.other (by decide)) (Or.inl ⟨by kernel_rfl, ?_⟩) (by assumption) (fun hHeld => ?_)
          rotate_left 1
          · intro wz hSw'; have hSw := HX.out.later (hSw'.1 rfl); clear hSw'; have q0 := wrapN.out; go_simp; try with_reducible rfl
          try simp only [Act.put, List.setIfInBounds_toArray, List.set_cons_zero, List.set_cons_succ] at hHeld ⊢
          refine AnyV.take 11 13 (i := 5) (oi := _) (v := ?_) rfl (by kernel_rfl) (by kernel_rfl) (by kernel_rfl) (by kernel_rfl) (by kernel_rfl) (fun _ _ _ h => h) (Two.other (by decide)) (Or.inl ⟨by kernel_rfl, ?_⟩) (by assumption) (fun hHeld => ?_)
          rotate_left 1
          · intro wz hSw'; have hSw := HX.out.later (hSw'.1 rfl); clear hSw'; (have q0 := hSw.x.c0; have q1 := hSw.x.c1; have q2 := hSw.x.c2); go_simp; try with_reducible rfl
          try simp only [Act.put, List.setIfInBounds_toArray, List.set_cons_zero, List.set_cons_succ] at hHeld ⊢
          refine AnyV.take 11 13 (i := 7) (oi := _) (v := ?_) rfl (by kernel_rfl) (by kernel_rfl) (by kernel_rfl) (by kernel_rfl) (by kernel_rfl) (fun _ _ _ h => h) (Two.other (by decide)) (Or.inl ⟨by kernel_rfl, ?_⟩) (by assumption) (fun hHeld => ?_)
          rotate_left 1
          · intro wz hSw'; have hSw := HX.out.later (hSw'.1 rfl); clear hSw'; (have q0 := hSw.m.c0; have q1 := hSw.m.c1); go_simp; try with_reducible rfl
          try simp only [Act.put, List.setIfInBounds_toArray, List.set_cons_zero, List.set_cons_succ] at hHeld ⊢
          refine AnyV.take 11 13 (i := 9) (oi := _) (v := ?_) rfl (by kernel_rfl) (by kernel_rfl) (by kernel_rfl) (by kernel_rfl) (by kernel_rfl) (fun _ _ _ h => h) (Two.other (by decide)) (Or.inl ⟨by kernel_rfl, ?_⟩) (by assumption) (fun hHeld => ?_)
          rotate_left 1
          · intro wz hSw'; have hSw := HX.out.later (hSw'.1 rfl); clear hSw'; (have q0 := hSw.x.c0; have q1 := hSw.x.c1; have q2 := hSw.x.c2); go_simp; try with_reducible rfl
          try simp only [Act.put, List.setIfInBounds_toArray, List.set_cons_zero, List.set_cons_succ] at hHeld ⊢
          clear hHeld
          refine AnyV.some [6, 8] (by kernel_rfl) (by simp) (fun i hi => ?_)
          simp only [List.mem_cons, List.not_mem_nil, or_false] at hi
          rcases hi with rfl | rfl
          · skip
            refine AnyV.step (o := _) rfl (fun K hK => ?_)
            go_simp
            refine (rvalue_any _ [(⟨c.a1, c.w0⟩ : Pu)] x _ (one_put (HX.out.later hA).c (by omega)) (by simp) HS.out (fun q hq => by simp at hq; subst hq; exact HPb.out)).mono ?_
            rintro e w6 ⟨rfl, hb6⟩
            rw [sum_one, HYp.out]
            try replace hnew := PuAt.later hnew hb6
            replace hA := two hA hb6
            clear hb6
            go_wp2_with fail
            refine hK.out _ _ (Two.till (fun _ => hA) (fun _ => trivial)) ?_
            clear hK K
            try simp only [Act.put, List.setIfInBounds_toArray, List.set_cons_zero, List.set_cons_succ]
            refine AnyV.one (i := 8) (o := _) rfl (by kernel_rfl) (fun K hK => ?_)
            go_simp
            obtain ⟨w9, B9, e9, f9, hA9, hnew⟩ := put_new (t := 89) m hA
            rw [e9, f9]
            clear e9 f9 hA
            have hA := hA9
            clear hA9
            refine hK.out _ _ (Two.till (fun _ => hA) (fun _ => trivial)) ?_
            clear hK K
            try simp only [Act.put, List.setIfInBounds_toArray, List.set_cons_zero, List.set_cons_succ]
            refine AnyV.one (i := 10) (o := _) rfl (by kernel_rfl) (fun K hK => ?_)
            go_simp
            refine (rvalue_any _ [m] x _ (one_put hnew (by omega)) (by simp) HS.out (fun q hq => by simp at hq; subst hq; exact HM.out)).mono ?_
            rintro e w7 ⟨rfl, hb7⟩
            rw [sum_one, HYm.out]
            clear hnew
            replace hA := two hA hb7
            clear hb7
            go_wp2_with fail
            refine hK.out _ _ (Two.till (fun _ => hA) (fun _ => trivial)) ?_
            clear hK K
            try simp only [Act.put, List.setIfInBounds_toArray, List.set_cons_zero, List.set_cons_succ]
            refine AnyV.one (i := 11) (o := _) rfl (by kernel_rfl) (fun K hK => ?_)
            go_simp
            refine hK.out _ _ (Two.till (fun h => absurd h (by decide)) (fun _ => trivial)) ?_
            clear hK K
            refine AnyV.done (by kernel_rfl) ?_
            try simp only [Act.put, List.setIfInBounds_toArray, List.set_cons_zero, List.set_cons_succ]
            have hc9 := HCo.out.later hA
            have hb9 := HBx.out.later hA
            have hx9 := H3i.out.later hA
            have hw9 := HBi.out.trans (hA.mono HBi.out.size)
            have z9 := hb9.lt
            obtain ⟨m0, m1, mf0, mf1⟩ := hb9
            go_wp2_with fail
            go_roundw
            case rel => exact ⟨2, m, .inr (.inl rfl), by go_num, by have := HF.out; rw [show (cornersP c).drop (2 - 1) = (⟨c.a1, c.w0⟩ : Pu) :: (cornersP c).drop 2 from rfl, List.foldl_cons, better_no (by have := HGt.out; omega)] at this; exact this, HM.out, by go_grown, ⟨by go_cell, by go_cell, by go_cell, by go_cell⟩, hc9⟩
            case measure => simp [intOf]
          · skip
            refine AnyV.step (o := _) rfl (fun K hK => ?_)
            go_simp
            obtain ⟨w9, B9, e9, f9, hA9, hnew⟩ := put_new (t := 89) m hA
            rw [e9, f9]
            clear e9 f9 hA
            have hA := hA9
            clear hA9
            refine hK.out _ _ (Two.till (fun _ => hA) (fun _ => trivial)) ?_
            clear hK K
            try simp only [Act.put, List.setIfInBounds_toArray, List.set_cons_zero, List.set_cons_succ]
            refine AnyV.one (i := 6) (o := _) rfl (by kernel_rfl) (fun K hK => ?_)
            go_simp
            refine (rvalue_any _ [(⟨c.a1, c.w0⟩ : Pu)] x _ (one_put (HX.out.later hA).c (by omega)) (by simp) HS.out (fun q hq => by simp at hq; subst hq; exact HPb.out)).mono ?_
            rintro e w6 ⟨rfl, hb6⟩
            rw [sum_one, HYp.out]
            try replace hnew := PuAt.later hnew hb6
            replace hA := two hA hb6
            clear hb6
            go_wp2_with fail
            refine hK.out _ _ (Two.till (fun _ => hA) (fun _ => trivial)) ?_
            clear hK K
            try simp only [Act.put, List.setIfInBounds_toArray, List.set_cons_zero, List.set_cons_succ]
            refine AnyV.one (i := 10) (o := _) rfl (by kernel_rfl) (fun K hK => ?_)
            go_simp
            refine (rvalue_any _ [m] x _ (one_put hnew (by omega)) (by simp) HS.out (fun q hq => by simp at hq; subst hq; exact HM.out)).mono ?_
            rintro e w7 ⟨rfl, hb7⟩
            rw [sum_one, HYm.out]
            clear hnew
            replace hA := two hA hb7
            clear hb7
            go_wp2_with fail
            refine hK.out _ _ (Two.till (fun _ => hA) (fun _ => trivial)) ?_
            clear hK K
            try simp only [Act.put, List.setIfInBounds_toArray, List.set_cons_zero, List.set_cons_succ]
            refine AnyV.one (i := 11) (o := _) rfl (by kernel_rfl) (fun K hK => ?_)
            go_simp
            refine hK.out _ _ (Two.till (fun h => absurd h (by decide)) (fun _ => trivial)) ?_
            clear hK K
            refine AnyV.done (by kernel_rfl) ?_
            try simp only [Act.put, List.setIfInBounds_toArray, List.set_cons_zero, List.set_cons_succ]
            have hc9 := HCo.out.later hA
            have hb9 := HBx.out.later hA
            have hx9 := H3i.out.later hA
            have hw9 := HBi.out.trans (hA.mono HBi.out.size)
            have z9 := hb9.lt
            obtain ⟨m0, m1, mf0, mf1⟩ := hb9
            go_wp2_with fail
            go_roundw
            case rel => exact ⟨2, m, .inr (.inl rfl), by go_num, by have := HF.out; rw [show (cornersP c).drop (2 - 1) = (⟨c.a1, c.w0⟩ : Pu) :: (cornersP c).drop 2 from rfl, List.foldl_cons, better_no (by have := HGt.out; omega)] at this; exact this, HM.out, by go_grown, ⟨by go_cell, by go_cell, by go_cell, by go_cell⟩, hc9⟩
            case measure => simp [intOf]
      · skip
        have wrapN := Lib.hid (show IntKind.i64.wrap 3 = 3 from rfl)
        have HPb := Lib.hid (corner_bound HLc.out (⟨c.a0, c.w1⟩ : Pu) (by simp [cornersP]))
        have HX := Lib.hid (show RwS wr g w1.heap.size w.heap.size 4 (⟨c.a0, c.w1⟩ : Pu) m x from ⟨HCo.out.k2, ⟨HBx.out.c0, HBx.out.c1⟩, H3i.out⟩)
        obtain ⟨Yp, hYp⟩ : ∃ Y, valE x.a x.b (⟨c.a0, c.w1⟩ : Pu) = Y := ⟨_, rfl⟩
        obtain ⟨Ym, hYm⟩ : ∃ Y, valE x.a x.b m = Y := ⟨_, rfl⟩
        have HYp := Lib.hid hYp
        have HYm := Lib.hid hYm
        by_cases hgt : Ym < Yp
        · have HGt := Lib.hid (show valE x.a x.b m < valE x.a x.b (⟨c.a0, c.w1⟩ : Pu) by rw [hYp, hYm]; exact hgt)
          clear hYp hYm
          obtain ⟨p0, p1⟩ := HCo.out.k2
          obtain ⟨m0, m1, mf0, mf1⟩ := HBx.out
          obtain ⟨x0, x1, x2⟩ := H3i.out
          have z0 := HBx.out.lt
          go_wp2_with fail
          clear p0 p1 m0 m1 mf0 mf1 x0 x1 x2 z0
          have hA : Below wr.heap.size wr wr.drew := below_drewN (Below.refl _ _) 1
          refine AnyV.start (Two 11 (fun w' => Below wr.heap.size wr w') 11 (fun _ => True)) 12 #[false, false, false, false, false, false, false, false, false, false, false, false] (by kernel_rfl) (by kernel_rfl) (by kernel_rfl) (fun _ => ⟨fun _ => hA, fun _ => trivial⟩) (fun hHeld => ?_)
          generalize World.drew wr = wd at hA hHeld ⊢
          refine AnyV.take 11 13 (i := 0) (oi := _) (v := ?_) rfl (by kernel_rfl) (by kernel_rfl) (by kernel_rfl) (by kernel_rfl) (by kernel_rfl) (fun _ _ _ h => h) (Two.other (by decide)) (Or.inl ⟨by kernel_rfl, ?_⟩) (by assumption) (fun hHeld => ?_)
          rotate_left 1
          · intro wz hSw'; have hSw := HX.out.later (hSw'.1 rfl); clear hSw'; skip; go_simp; try with_reducible rfl
          try simp only [Act.put, List.setIfInBounds_toArray, List.set_cons_zero, List.set_cons_succ] at hHeld ⊢
          refine AnyV.take 11 13 (i := 1) (oi := _) (v := ?_) rfl (by kernel_rfl) (by kernel_rfl) (by kernel_rfl) (by kernel_rfl) (by kernel_rfl) (fun _ _ _ h => h) (Two.other (by decide)) (Or.inl ⟨by kernel_rfl, ?_⟩) (by assumption) (fun hHeld => ?_)
          rotate_left 1
          · intro wz hSw'; have hSw := HX.out.later (hSw'.1 rfl); clear hSw'; skip; go_simp; try with_reducible rfl
          try simp only [Act.put, List.setIfInBounds_toArray, List.set_cons_zero, List.set_cons_succ] at hHeld ⊢
          refine AnyV.take 11 13 (i := 2) (oi := _) (v := ?_) rfl (by kernel_rfl) (by kernel_rfl) (by kernel_rfl) (by kernel_rfl) (by kernel_rfl) (fun _ _ _ h => h) (Two.other (by decide)) (Or.inl ⟨by kernel_rfl, ?_⟩) (by assumption) (fun hHeld => ?_)
          rotate_left 1
          · intro wz hSw'; have hSw := HX.out.later (hSw'.1 rfl); clear hSw'; skip; go_simp; try with_reducible rfl
          try simp only [Act.put, List.setIfInBounds_toArray, List.set_cons_zero, List.set_cons_succ] at hHeld ⊢
          refine AnyV.take 11 13 (i := 3) (oi := _) (v := ?_) rfl (by kernel_rfl) (by kernel_rfl) (by kernel_rfl) (by kernel_rfl) (by kernel_rfl) (fun _ _ _ h => h) (Two.other (by decide)) (Or.inl ⟨by kernel_rfl, ?_⟩) (by assumption) (fun hHeld => ?_)
          rotate_left 1
          · intro wz hSw'; have hSw := HX.out.later (hSw'.1 rfl); clear hSw'; skip; go_simp; try with_reducible rfl
          try simp only [Act.put, List.setIfInBounds_toArray, List.set_cons_zero, List.set_cons_succ] at hHeld ⊢
          refine AnyV.take 11 13 (i := 4) (oi := _) (v := ?_) rfl (by kernel_rfl) (by kernel_rfl) (by kernel_rfl) (by kernel_rfl) (by kernel_rfl) (fun _ _ _ h => h) (Two.other (by decide)) (Or.inl ⟨by kernel_rfl, ?_⟩) (by assumption) (fun hHeld => ?_)
          rotate_left 1
          · intro wz hSw'; have hSw := HX.out.later (hSw'.1 rfl); clear hSw'; have q0 := wrapN.out; go_simp; try with_reducible rfl
          try simp only [Act.put, List.setIfInBounds_toArray, List.set_cons_zero, List.set_cons_succ] at hHeld ⊢
          refine AnyV.take 11 13 (i := 5) (oi := _) (v := ?_) rfl (by kernel_rfl) (by kernel_rfl) (by kernel_rfl) (by kernel_rfl) (by kernel_rfl) (fun _ _ _ h => h) (Two.other (by decide)) (Or.inl ⟨by kernel_rfl, ?_⟩) (by assumption) (fun hHeld => ?_)
          rotate_left 1
          · intro wz hSw'; have hSw := HX.out.later (hSw'.1 rfl); clear hSw'; (have q0 := hSw.x.c0; have q1 := hSw.x.c1; have q2 := hSw.x.c2); go_simp; try with_reducible rfl
          try simp only [Act.put, List.setIfInBounds_toArray, List.set_cons_zero, List.set_cons_succ] at hHeld ⊢
          refine AnyV.take 11 13 (i := 7) (oi := _) (v := ?_) rfl (by kernel_rfl) (by kernel_rfl) (by kernel_rfl) (by kernel_rfl) (by kernel_rfl) (fun _ _ _ h => h) (Two.other (by decide)) (Or.inl ⟨by kernel_rfl, ?_⟩) (by assumption) (fun hHeld => ?_)
          rotate_left 1
          · intro wz hSw'; have hSw := HX.out.later (hSw'.1 rfl); clear hSw'; (have q0 := hSw.m.c0; have q1 := hSw.m.c1); go_simp; try with_reducible rfl
          try simp only [Act.put, List.setIfInBounds_toArray, List.set_cons_zero, List.set_cons_succ] at hHeld ⊢
          refine AnyV.take 11 13 (i := 9) (oi := _) (v := ?_) rfl (by kernel_rfl) (by kernel_rfl) (by kernel_rfl) (by kernel_rfl) (by kernel_rfl) (fun _ _ _ h => h) (Two.other (by decide)) (Or.inl ⟨by kernel_rfl, ?_⟩) (by assumption) (fun hHeld => ?_)
          rotate_left 1
          · intro wz hSw'; have hSw := HX.out.later (hSw'.1 rfl); clear hSw'; (have q0 := hSw.x.c0; have q1 := hSw.x.c1; have q2 := hSw.x.c2); go_simp; try with_reducible rfl
          try simp only [Act.put, List.setIfInBounds_toArray, List.set_cons_zero, List.set_cons_succ] at hHeld ⊢
          clear hHeld
          refine AnyV.some [6, 8] (by kernel_rfl) (by simp) (fun i hi => ?_)
          simp only [List.mem_cons, List.not_mem_nil, or_false] at hi
          rcases hi with rfl | rfl
          · skip
            refine AnyV.step (o := _) rfl (fun K hK => ?_)
            go_simp
            refine (rvalue_any _ [(⟨c.a0, c.w1⟩ : Pu)] x _ (one_put (HX.out.later hA).c (by omega)) (by simp) HS.out (fun q hq => by simp at hq; subst hq; exact HPb.out)).mono ?_
            rintro e w6 ⟨rfl, hb6⟩
            rw [sum_one, HYp.out]
            try replace hnew := PuAt.later hnew hb6
            replace hA := two hA hb6
            clear hb6
            go_wp2_with fail
            refine hK.out _ _ (Two.till (fun _ => hA) (fun _ => trivial)) ?_
            clear hK K
            try simp only [Act.put, List.setIfInBounds_toArray, List.set_cons_zero, List.set_cons_succ]
            refine AnyV.one (i := 8) (o := _) rfl (by kernel_rfl) (fun K hK => ?_)
            go_simp
            obtain ⟨w9, B9, e9, f9, hA9, hnew⟩ := put_new (t := 89) m hA
            rw [e9, f9]
            clear e9 f9 hA
            have hA := hA9
            clear hA9
            refine hK.out _ _ (Two.till (fun _ => hA) (fun _ => trivial)) ?_
            clear hK K
            try simp only [Act.put, List.setIfInBounds_toArray, List.set_cons_zero, List.set_cons_succ]
            refine AnyV.one (i := 10) (o := _) rfl (by kernel_rfl) (fun K hK => ?_)
            go_simp
            refine (rvalue_any _ [m] x _ (one_put hnew (by omega)) (by simp) HS.out (fun q hq => by simp at hq; subst hq; exact HM.out)).mono ?_
            rintro e w7 ⟨rfl, hb7⟩
            rw [sum_one, HYm.out]
            clear hnew
            replace hA := two hA hb7
            clear hb7
            go_wp2_with fail
            refine hK.out _ _ (Two.till (fun _ => hA) (fun _ => trivial)) ?_
            clear hK K
            try simp only [Act.put, List.setIfInBounds_toArray, List.set_cons_zero, List.set_cons_succ]
            refine AnyV.one (i := 11) (o := _) rfl (by kernel_rfl) (fun K hK => ?_)
            go_simp
            refine hK.out _ _ (Two.till (fun h => absurd h (by decide)) (fun _ => trivial)) ?_
            clear hK K
            refine AnyV.done (by kernel_rfl) ?_
            try simp only [Act.put, List.setIfInBounds_toArray, List.set_cons_zero, List.set_cons_succ]
            have hc9 := HCo.out.later hA
            have hb9 := HBx.out.later hA
            have hx9 := H3i.out.later hA
            have hw9 := HBi.out.trans (hA.mono HBi.out.size)
            have z9 := hb9.lt
            obtain ⟨m0, m1, mf0, mf1⟩ := hb9
            obtain ⟨p0, p1⟩ := hc9.k2
            go_wp2_with fail
            go_roundw
            case rel => exact ⟨3, (⟨c.a0, c.w1⟩ : Pu), .inr (.inr (.inl rfl)), by go_num, by have := HF.out; rw [show (cornersP c).drop (3 - 1) = (⟨c.a0, c.w1⟩ : Pu) :: (cornersP c).drop 3 from rfl, List.foldl_cons, better_yes HGt.out] at this; exact this, HPb.out, by go_grown, ⟨by go_cell, by go_cell, by go_cell, by go_cell⟩, hc9.store (by omega) _ _⟩
            case measure => simp [intOf]
          · skip
            refine AnyV.step (o := _) rfl (fun K hK => ?_)
            go_simp
            obtain ⟨w9, B9, e9, f9, hA9, hnew⟩ := put_new (t := 89) m hA
            rw [e9, f9]
            clear e9 f9 hA
            have hA := hA9
            clear hA9
            refine hK.out _ _ (Two.till (fun _ => hA) (fun _ => trivial)) ?_
            clear hK K
            try simp only [Act.put, List.setIfInBounds_toArray, List.set_cons_zero, List.set_cons_succ]
            refine AnyV.one (i := 6) (o := _) rfl (by kernel_rfl) (fun K hK => ?_)
            go_simp
            refine (rvalue_any _ [(⟨c.a0, c.w1⟩ : Pu)] x _ (one_put (HX.out.later hA).c (by omega)) (by simp) HS.out (fun q hq => by simp at hq; subst hq; exact HPb.out)).mono ?_
            rintro e w6 ⟨rfl, hb6⟩
            rw [sum_one, HYp.out]
            try replace hnew := PuAt.later hnew hb6
            replace hA := two hA hb6
            clear hb6
            go_wp2_with fail
            refine hK.out _ _ (Two.till (fun _ => hA) (fun _ => trivial)) ?_
            clear hK K
            try simp only [Act.put, List.setIfInBounds_toArray, List.set_cons_zero, List.set_cons_succ]
            refine AnyV.one (i := 10) (o := _) rfl (by kernel_rfl) (fun K hK => ?_)
            go_simp
            refine (rvalue_any _ [m] x _ (one_put hnew (by omega)) (by simp) HS.out (fun q hq => by simp at hq; subst hq; exact HM.out)).mono ?_
            rintro e w7 ⟨rfl, hb7⟩
            rw [sum_one, HYm.out]
            clear hnew
            replace hA := two hA hb7
            clear hb7
            go_wp2_with fail
            refine hK.out _ _ (Two.till (fun _ => hA) (fun _ => trivial)) ?_
            clear hK K
            try simp only [Act.put, List.setIfInBounds_toArray, List.set_cons_zero, List.set_cons_succ]
            refine AnyV.one (i := 11) (o := _) rfl (by kernel_rfl) (fun K hK => ?_)
            go_simp
            refine hK.out _ _ (Two.till (fun h => absurd h (by decide)) (fun _ => trivial)) ?_
            clear hK K
            refine AnyV.done (by kernel_rfl) ?_
            try simp only [Act.put, List.setIfInBounds_toArray, List.set_cons_zero, List.set_cons_succ]
            have hc9 := HCo.out.later hA
            have hb9 := HBx.out.later hA
            have hx9 := H3i.out.later hA
            have hw9 := HBi.out.trans (hA.mono HBi.out.size)
            have z9 := hb9.lt
            obtain ⟨m0, m1, mf0, mf1⟩ := hb9
            obtain ⟨p0, p1⟩ := hc9.k2
            go_wp2_with fail
            go_roundw
            case rel => exact ⟨3, (⟨c.a0, c.w1⟩ : Pu), .inr (.inr (.inl rfl)), by go_num, by have := HF.out; rw [show (cornersP c).drop (3 - 1) = (⟨c.a0, c.w1⟩ : Pu) :: (cornersP c).drop 3 from rfl, List.foldl_cons, better_yes HGt.out] at this; exact this, HPb.out, by go_grown, ⟨by go_cell, by go_cell, by go_cell, by go_cell⟩, hc9.store (by omega) _ _⟩
            case measure => simp [intOf]
        · have HGt := Lib.hid (show ¬ valE x.a x.b m < valE x.a x.b (⟨c.a0, c.w1⟩ : Pu) by rw [hYp, hYm]; exact hgt)
          clear hYp hYm
          obtain ⟨p0, p1⟩ := HCo.out.k2
          obtain ⟨m0, m1, mf0, mf1⟩ := HBx.out
          obtain ⟨x0, x1, x2⟩ := H3i.out
          have z0 := HBx.out.lt
          go_wp2_with fail
          clear p0 p1 m0 m1 mf0 mf1 x0 x1 x2 z0
          have hA : Below wr.heap.size wr wr.drew := below_drewN (Below.refl _ _) 1
          refine AnyV.start (Two 11 (fun w' => Below wr.heap.size wr w') 11 (fun _ => True)) 12 #[false, false, false, false, false, false, false, false, false, false, false, false] (by kernel_rfl) (by kernel_rfl) (by kernel_rfl) (fun _ => ⟨fun _ => hA, fun _ => trivial⟩) (fun hHeld => ?_)
          generalize World.drew wr = wd at hA hHeld ⊢
          refine AnyV.take 11 13 (i := 0) (oi := _) (v := ?_) rfl (by kernel_rfl) (by kernel_rfl) (by kernel_rfl) (by kernel_rfl) (by kernel_rfl) (fun _ _ _ h => h) (Two.other (by decide)) (Or.inl ⟨by kernel_rfl, ?_⟩) (by assumption) (fun hHeld => ?_)
          rotate_left 1
          · intro wz hSw'; have hSw := HX.out.later (hSw'.1 rfl); clear hSw'; skip; go_simp; try with_reducible rfl
          try simp only [Act.put, List.setIfInBounds_toArray, List.set_cons_zero, List.set_cons_succ] at hHeld ⊢
          refine AnyV.take 11 13 (i := 1) (oi := _) (v := ?_) rfl (by kernel_rfl) (by kernel_rfl) (by kernel_rfl) (by kernel_rfl) (by kernel_rfl) (fun _ _ _ h => h) (Two.other (by decide)) (Or.inl ⟨by kernel_rfl, ?_⟩) (by assumption) (fun hHeld => ?_)
          rotate_left 1
          · intro wz hSw'; have hSw := HX.out.later (hSw'.1 rfl); clear hSw'; skip; go_simp; try with_reducible rfl
          try simp only [Act.put, List.setIfInBounds_toArray, List.set_cons_zero, List.set_cons_succ] at hHeld ⊢
          refine AnyV.take 11 13 (i := 2) (oi := _) (v := ?_) rfl (by kernel_rfl) (by kernel_rfl) (by kernel_rfl) (by kernel_rfl) (by kernel_rfl) (fun _ _ _ h => h) (Two.other (by decide)) (Or.inl ⟨by kernel_rfl, ?_⟩) (by assumption) (fun hHeld => ?_)
          rotate_left 1
          · intro wz hSw'; have hSw := HX.out.later (hSw'.1 rfl); clear hSw'; skip; go_simp; try with_reducible rfl
          try simp only [Act.put, List.setIfInBounds_toArray, List.set_cons_zero, List.set_cons_succ] at hHeld ⊢
          refine AnyV.take 11 13 (i := 3) (oi := _) (v := ?_) rfl (by kernel_rfl) (by kernel_rfl) (by kernel_rfl) (by kernel_rfl) (by kernel_rfl) (fun _ _ _ h => h) (Two.other (by decide)) (Or.inl ⟨by kernel_rfl, ?_⟩) (by assumption) (fun hHeld => ?_)
          rotate_left 1
          · intro wz hSw'; have hSw := HX.out.later (hSw'.1 rfl); clear hSw'; skip; go_simp; try with_reducible rfl
          try simp only [Act.put, List.setIfInBounds_toArray, List.set_cons_zero, List.set_cons_succ] at hHeld ⊢
          refine AnyV.take 11 13 (i := 4) (oi := _) (v := ?_) rfl (by kernel_rfl) (by kernel_rfl) (by kernel_rfl) (by kernel_rfl) (by kernel_rfl) (fun _ _ _ h => h) (Two.other (by decide)) (Or.inl ⟨by kernel_rfl, ?_⟩) (by assumption) (fun hHeld => ?_)
          rotate_left 1
          · intro wz hSw'; have hSw := HX.out.later (hSw'.1 rfl); clear hSw'; have q0 := wrapN.out; go_simp; try with_reducible rfl
          try simp only [Act.put, List.setIfInBounds_toArray, List.set_cons_zero, List.set_cons_succ] at hHeld ⊢
          refine AnyV.take 11 13 (i := 5) (oi := _) (v := ?_) rfl (by kernel_rfl) (by kernel_rfl) (by kernel_rfl) (by kernel_rfl) (by kernel_rfl) (fun _ _ _ h => h) (Two.other (by decide)) (Or.inl ⟨by kernel_rfl, ?_⟩) (by assumption) (fun hHeld => ?_)
          rotate_left 1
          · intro wz hSw'; have hSw := HX.out.later (hSw'.1 rfl); clear hSw'; (have q0 := hSw.x.c0; have q1 := hSw.x.c1; have q2 := hSw.x.c2); go_simp; try with_reducible rfl
          try simp only [Act.put, List.setIfInBounds_toArray, List.set_cons_zero, List.set_cons_succ] at hHeld ⊢
          refine AnyV.take 11 13 (i := 7) (oi := _) (v := ?_) rfl (by kernel_rfl) (by kernel_rfl) (by kernel_rfl) (by kernel_rfl) (by kernel_rfl) (fun _ _ _ h => h) (Two.other (by decide)) (Or.inl ⟨by kernel_rfl, ?_⟩) (by assumption) (fun hHeld => ?_)
          rotate_left 1
          · intro wz hSw'; have hSw := HX.out.later (hSw'.1 rfl); clear hSw'; (have q0 := hSw.m.c0; have q1 := hSw.m.c1); go_simp; try with_reducible rfl
          try simp only [Act.put, List.setIfInBounds_toArray, List.set_cons_zero, List.set_cons_succ] at hHeld ⊢
          refine AnyV.take 11 13 (i := 9) (oi := _) (v := ?_) rfl (by kernel_rfl) (by kernel_rfl) (by kernel_rfl) (by kernel_rfl) (by kernel_rfl) (fun _ _ _ h => h) (Two.other (by decide)) (Or.inl ⟨by kernel_rfl, ?_⟩) (by assumption) (fun hHeld => ?_)
          rotate_left 1
          · intro wz hSw'; have hSw := HX.out.later (hSw'.1 rfl); clear hSw'; (have q0 := hSw.x.c0; have q1 := hSw.x.c1; have q2 := hSw.x.c2); go_simp; try with_reducible rfl
          try simp only [Act.put, List.setIfInBounds_toArray, List.set_cons_zero, List.set_cons_succ] at hHeld ⊢
          clear hHeld
          refine AnyV.some [6, 8] (by kernel_rfl) (by simp) (fun i hi => ?_)
          simp only [List.mem_cons, List.not_mem_nil, or_false] at hi
          rcases hi with rfl | rfl
          · skip
            refine AnyV.step (o := _) rfl (fun K hK => ?_)
            go_simp
            refine (rvalue_any _ [(⟨c.a0, c.w1⟩ : Pu)] x _ (one_put (HX.out.later hA).c (by omega)) (by simp) HS.out (fun q hq => by simp at hq; subst hq; exact HPb.out)).mono ?_
            rintro e w6 ⟨rfl, hb6⟩
            rw [sum_one, HYp.out]
            try replace hnew := PuAt.later hnew hb6
            replace hA := two hA hb6
            clear hb6
            go_wp2_with fail
            refine hK.out _ _ (Two.till (fun _ => hA) (fun _ => trivial)) ?_
            clear hK K
            try simp only [Act.put, List.setIfInBounds_toArray, List.set_cons_zero, List.set_cons_succ]
            refine AnyV.one (i := 8) (o := _) rfl (by kernel_rfl) (fun K hK => ?_)
            go_simp
            obtain ⟨w9, B9, e9, f9, hA9, hnew⟩ := put_new (t := 89) m hA
            rw [e9, f9]
            clear e9 f9 hA
            have hA := hA9
            clear hA9
            refine hK.out _ _ (Two.till (fun _ => hA) (fun _ => trivial)) ?_
            clear hK K
            try simp only [Act.put, List.setIfInBounds_toArray, List.set_cons_zero, List.set_cons_succ]
            refine AnyV.one (i := 10) (o := _) rfl (by kernel_rfl) (fun K hK => ?_)
            go_simp
            refine (rvalue_any _ [m] x _ (one_put hnew (by omega)) (by simp) HS.out (fun q hq => by simp at hq; subst hq; exact HM.out)).mono ?_
            rintro e w7 ⟨rfl, hb7⟩
            rw [sum_one, HYm.out]
            clear hnew
            replace hA := two hA hb7
            clear hb7
            go_wp2_with fail
            refine hK.out _ _ (Two.till (fun _ => hA) (fun _ => trivial)) ?_
            clear hK K
            try simp only [Act.put, List.setIfInBounds_toArray, List.set_cons_zero, List.set_cons_succ]
            refine AnyV.one (i := 11) (o := _) rfl (by kernel_rfl) (fun K hK => ?_)
            go_simp
            refine hK.out _ _ (Two.till (fun h => absurd h (by decide)) (fun _ => trivial)) ?_
            clear hK K
            refine AnyV.done (by kernel_rfl) ?_
            try simp only [Act.put, List.setIfInBounds_toArray, List.set_cons_zero, List.set_cons_succ]
            have hc9 := HCo.out.later hA
            have hb9 := HBx.out.later hA
            have hx9 := H3i.out.later hA
            have hw9 := HBi.out.trans (hA.mono HBi.out.size)
            have z9 := hb9.lt
            obtain ⟨m0, m1, mf0, mf1⟩ := hb9
            go_wp2_with fail
            go_roundw
            case rel => exact ⟨3, m, .inr (.inr (.inl rfl)), by go_num, by have := HF.out; rw [show (cornersP c).drop (3 - 1) = (⟨c.a0, c.w1⟩ : Pu) :: (cornersP c).drop 3 from rfl, List.foldl_cons, better_no (by have := HGt.out; omega)] at this; exact this, HM.out, by go_grown, ⟨by go_cell, by go_cell, by go_cell, by go_cell⟩, hc9⟩
            case measure => simp [intOf]
          · skip
            refine AnyV.step (o := _) rfl (fun K hK => ?_)
            go_simp
            obtain ⟨w9, B9, e9, f9, hA9, hnew⟩ := put_new (t := 89) m hA
            rw [e9, f9]
            clear e9 f9 hA
            have hA := hA9
            clear hA9
            refine hK.out _ _ (Two.till (fun _ => hA) (fun _ => trivial)) ?_
            clear hK K
            try simp only [Act.put, List.setIfInBounds_toArray, List.set_cons_zero, List.set_cons_succ]
            refine AnyV.one (i := 6) (o := _) rfl (by kernel_rfl) (fun K hK => ?_)
            go_simp
            refine (rvalue_any _ [(⟨c.a0, c.w1⟩ : Pu)] x _ (one_put (HX.out.later hA).c (by omega)) (by simp) HS.out (fun q hq => by simp at hq; subst hq; exact HPb.out)).mono ?_
            rintro e w6 ⟨rfl, hb6⟩
            rw [sum_one, HYp.out]
            try replace hnew := PuAt.later hnew hb6
            replace hA := two hA hb6
            clear hb6
            go_wp2_with fail
            refine hK.out _ _ (Two.till (fun _ => hA) (fun _ => trivial)) ?_
            clear hK K
            try simp only [Act.put, List.setIfInBounds_toArray, List.set_cons_zero, List.set_cons_succ]
            refine AnyV.one (i := 10) (o := _) rfl (by kernel_rfl) (fun K hK => ?_)
            go_simp
            refine (rvalue_any _ [m] x _ (one_put hnew (by omega)) (by simp) HS.out (fun q hq => by simp at hq; subst hq; exact HM.out)).mono ?_
            rintro e w7 ⟨rfl, hb7⟩
            rw [sum_one, HYm.out]
            clear hnew
            replace hA := two hA hb7
            clear hb7
            go_wp2_with fail
            refine hK.out _ _ (Two.till (fun _ => hA) (fun _ => trivial)) ?_
            clear hK K
            try simp only [Act.put, List.setIfInBounds_toArray, List.set_cons_zero, List.set_cons_succ]
            refine AnyV.one (i := 11) (o := _) rfl (by kernel_rfl) (fun K hK => ?_)
            go_simp
            refine hK.out _ _ (Two.till (fun h => absurd h (by decide)) (fun _ => trivial)) ?_
            clear hK K
            refine AnyV.done (by kernel_rfl) ?_
            try simp only [Act.put, List.setIfInBounds_toArray, List.set_cons_zero, List.set_cons_succ]
            have hc9 := HCo.out.later hA
            have hb9 := HBx.out.later hA
            have hx9 := H3i.out.later hA
            have hw9 := HBi.out.trans (hA.mono HBi.out.size)
            have z9 := hb9.lt
            obtain ⟨m0, m1, mf0, mf1⟩ := hb9
            go_wp2_with fail
            go_roundw
            case rel => exact ⟨3, m, .inr (.inr (.inl rfl)), by go_num, by have := HF.out; rw [show (cornersP c).drop (3 - 1) = (⟨c.a0, c.w1⟩ : Pu) :: (cornersP c).drop 3 from rfl, List.foldl_cons, better_no (by have := HGt.out; omega)] at this; exact this, HM.out, by go_grown, ⟨by go_cell, by go_cell, by go_cell, by go_cell⟩, hc9⟩
            case measure => simp [intOf]
      · skip
        have wrapN := Lib.hid (show IntKind.i64.wrap 4 = 4 from rfl)
        have HPb := Lib.hid (corner_bound HLc.out (⟨c.a1, c.w1⟩ : Pu) (by simp [cornersP]))
        have HX := Lib.hid (show RwS wr g w1.heap.size w.heap.size 6 (⟨c.a1, c.w1⟩ : Pu) m x from ⟨HCo.out.k3, ⟨HBx.out.c0, HBx.out.c1⟩, H3i.out⟩)
        obtain ⟨Yp, hYp⟩ : ∃ Y, valE x.a x.b (⟨c.a1, c.w1⟩ : Pu) = Y := ⟨_, rfl⟩
        obtain ⟨Ym, hYm⟩ : ∃ Y, valE x.a x.b m = Y := ⟨_, rfl⟩
        have HYp := Lib.hid hYp
        have HYm := Lib.hid hYm
        by_cases hgt : Ym < Yp
        · have HGt := Lib.hid (show valE x.a x.b m < valE x.a x.b (⟨c.a1, c.w1⟩ : Pu) by rw [hYp, hYm]; exact hgt)
          clear hYp hYm
          obtain ⟨p0, p1⟩ := HCo.out.k3
          obtain ⟨m0, m1, mf0, mf1⟩ := HBx.out
          obtain ⟨x0, x1, x2⟩ := H3i.out
          have z0 := HBx.out.lt
          go_wp2_with fail
          clear p0 p1 m0 m1 mf0 mf1 x0 x1 x2 z0
          have hA : Below wr.heap.size wr wr.drew := below_drewN (Below.refl _ _) 1
          refine AnyV.start (Two 11 (fun w' => Below wr.heap.size wr w') 11 (fun _ => True)) 12 #[false, false, false, false, false, false, false, false, false, false, false, false] (by kernel_rfl) (by kernel_rfl) (by kernel_rfl) (fun _ => ⟨fun _ => hA, fun _ => trivial⟩) (fun hHeld => ?_)
          generalize World.drew wr = wd at hA hHeld ⊢
          refine AnyV.take 11 13 (i := 0) (oi := _) (v := ?_) rfl (by kernel_rfl) (by kernel_rfl) (by kernel_rfl) (by kernel_rfl) (by kernel_rfl) (fun _ _ _ h => h) (Two.other (by decide)) (Or.inl ⟨by kernel_rfl, ?_⟩) (by assumption) (fun hHeld => ?_)
          rotate_left 1
          · intro wz hSw'; have hSw := HX.out.later (hSw'.1 rfl); clear hSw'; skip; go_simp; try with_reducible rfl
          try simp only [Act.put, List.setIfInBounds_toArray, List.set_cons_zero, List.set_cons_succ] at hHeld ⊢
          refine AnyV.take 11 13 (i := 1) (oi := _) (v := ?_) rfl (by kernel_rfl) (by kernel_rfl) (by kernel_rfl) (by kernel_rfl) (by kernel_rfl) (fun _ _ _ h => h) (Two.other (by decide)) (Or.inl ⟨by kernel_rfl, ?_⟩) (by assumption) (fun hHeld => ?_)
          rotate_left 1
          · intro wz hSw'; have hSw := HX.out.later (hSw'.1 rfl); clear hSw'; skip; go_simp; try with_reducible rfl
          try simp only [Act.put, List.setIfInBounds_toArray, List.set_cons_zero, List.set_cons_succ] at hHeld ⊢
          refine AnyV.take 11 13 (i := 2) (oi := _) (v := ?_) rfl (by kernel_rfl) (by kernel_rfl) (by kernel_rfl) (by kernel_rfl) (by kernel_rfl) (fun _ _ _ h => h) (Two.other (by decide)) (Or.inl ⟨by kernel_rfl, ?_⟩) (by assumption) (fun hHeld => ?_)
          rotate_left 1
          · intro wz hSw'; have hSw := HX.out.later (hSw'.1 rfl); clear hSw'; skip; go_simp; try with_reducible rfl
          try simp only [Act.put, List.setIfInBounds_toArray, List.set_cons_zero, List.set_cons_succ] at hHeld ⊢
          refine AnyV.take 11 13 (i := 3) (oi := _) (v := ?_) rfl (by kernel_rfl) (by kernel_rfl) (by kernel_rfl) (by kernel_rfl) (by kernel_rfl) (fun _ _ _ h => h) (Two.other (by decide)) (Or.inl ⟨by kernel_rfl, ?_⟩) (by assumption) (fun hHeld => ?_)
          rotate_left 1
          · intro wz hSw'; have hSw := HX.out.later (hSw'.1 rfl); clear hSw'; skip; go_simp; try with_reducible rfl
          try simp only [Act.put, List.setIfInBounds_toArray, List.set_cons_zero, List.set_cons_succ] at hHeld ⊢
          refine AnyV.take 11 13 (i := 4) (oi := _) (v := ?_) rfl (by kernel_rfl) (by kernel_rfl) (by kernel_rfl) (by kernel_rfl) (by kernel_rfl) (fun _ _ _ h => h) (Two.other (by decide)) (Or.inl ⟨by kernel_rfl, ?_⟩) (by assumption) (fun hHeld => ?_)
          rotate_left 1
          · intro wz hSw'; have hSw := HX.out.later (hSw'.1 rfl); clear hSw'; have q0 := wrapN.out; go_simp; try with_reducible rfl
          try simp only [Act.put, List.setIfInBounds_toArray, List.set_cons_zero, List.set_cons_succ] at hHeld ⊢
          refine AnyV.take 11 13 (i := 5) (oi := _) (v := ?_) rfl (by kernel_rfl) (by kernel_rfl) (by kernel_rfl) (by kernel_rfl) (by kernel_rfl) (fun _ _ _ h => h) (Two.other (by decide)) (Or.inl ⟨by kernel_rfl, ?_⟩) (by assumption) (fun hHeld => ?_)
          rotate_left 1
          · intro wz hSw'; have hSw := HX.out.later (hSw'.1 rfl); clear hSw'; (have q0 := hSw.x.c0; have q1 := hSw.x.c1; have q2 := hSw.x.c2); go_simp; try with_reducible rfl
          try simp only [Act.put, List.setIfInBounds_toArray, List.set_cons_zero, List.set_cons_succ] at hHeld ⊢
          refine AnyV.take 11 13 (i := 7) (oi := _) (v := ?_) rfl (by kernel_rfl) (by kernel_rfl) (by kernel_rfl) (by kernel_rfl) (by kernel_rfl) (fun _ _ _ h => h) (Two.other (by decide)) (Or.inl ⟨by kernel_rfl, ?_⟩) (by assumption) (fun hHeld => ?_)
          rotate_left 1
          · intro wz hSw'; have hSw := HX.out.later (hSw'.1 rfl); clear hSw'; (have q0 := hSw.m.c0; have q1 := hSw.m.c1); go_simp; try with_reducible rfl
          try simp only [Act.put, List.setIfInBounds_toArray, List.set_cons_zero, List.set_cons_succ] at hHeld ⊢
          refine AnyV.take 11 13 (i := 9) (oi := _) (v := ?_) rfl (by kernel_rfl) (by kernel_rfl) (by kernel_rfl) (by kernel_rfl) (by kernel_rfl) (fun _ _ _ h => h) (Two.other (by decide)) (Or.inl ⟨by kernel_rfl, ?_⟩) (by assumption) (fun hHeld => ?_)
          rotate_left 1
          · intro wz hSw'; have hSw := HX.out.later (hSw'.1 rfl); clear hSw'; (have q0 := hSw.x.c0; have q1 := hSw.x.c1; have q2 := hSw.x.c2); go_simp; try with_reducible rfl
          try simp only [Act.put, List.setIfInBounds_toArray, List.set_cons_zero, List.set_cons_succ] at hHeld ⊢
          clear hHeld
          refine AnyV.some [6, 8] (by kernel_rfl) (by simp) (fun i hi => ?_)
          simp only [List.mem_cons, List.not_mem_nil, or_false] at hi
          rcases hi with rfl | rfl
          · skip
            refine AnyV.step (o := _) rfl (fun K hK => ?_)
            go_simp
            refine (rvalue_any _ [(⟨c.a1, c.w1⟩ : Pu)] x _ (one_put (HX.out.later hA).c (by omega)) (by simp) HS.out (fun q hq => by simp at hq; subst hq; exact HPb.out)).mono ?_
            rintro e w6 ⟨rfl, hb6⟩
            rw [sum_one, HYp.out]
            try replace hnew := PuAt.later hnew hb6
            replace hA := two hA hb6
            clear hb6
            go_wp2_with fail
            refine hK.out _ _ (Two.till (fun _ => hA) (fun _ => trivial)) ?_
            clear hK K
            try simp only [Act.put, List.setIfInBounds_toArray, List.set_cons_zero, List.set_cons_succ]
            refine AnyV.one (i := 8) (o := _) rfl (by kernel_rfl) (fun K hK => ?_)
            go_simp
            obtain ⟨w9, B9, e9, f9, hA9, hnew⟩ := put_new (t := 89) m hA
            rw [e9, f9]
            clear e9 f9 hA
            have hA := hA9
            clear hA9
            refine hK.out _ _ (Two.till (fun _ => hA) (fun _ => trivial)) ?_
            clear hK K
            try simp only [Act.put, List.setIfInBounds_toArray, List.set_cons_zero, List.set_cons_succ]
            refine AnyV.one (i := 10) (o := _) rfl (by kernel_rfl) (fun K hK => ?_)
            go_simp
            refine (rvalue_any _ [m] x _ (one_put hnew (by omega)) (by simp) HS.out (fun q hq => by simp at hq; subst hq; exact HM.out)).mono ?_
            rintro e w7 ⟨rfl, hb7⟩
            rw [sum_one, HYm.out]
            clear hnew
            replace hA := two hA hb7
            clear hb7
            go_wp2_with fail
            refine hK.out _ _ (Two.till (fun _ => hA) (fun _ => trivial)) ?_
            clear hK K
            try simp only [Act.put, List.setIfInBounds_toArray, List.set_cons_zero, List.set_cons_succ]
            refine AnyV.one (i := 11) (o := _) rfl (by kernel_rfl) (fun K hK => ?_)
            go_simp
            refine hK.out _ _ (Two.till (fun h => absurd h (by decide)) (fun _ => trivial)) ?_
            clear hK K
            refine AnyV.done (by kernel_rfl) ?_
            try simp only [Act.put, List.setIfInBounds_toArray, List.set_cons_zero, List.set_cons_succ]
            have hc9 := HCo.out.later hA
            have hb9 := HBx.out.later hA
            have hx9 := H3i.out.later hA
            have hw9 := HBi.out.trans (hA.mono HBi.out.size)
            have z9 := hb9.lt
            obtain ⟨m0, m1, mf0, mf1⟩ := hb9
            obtain ⟨p0, p1⟩ := hc9.k3
            go_wp2_with fail
            go_roundw
            case rel => exact ⟨4, (⟨c.a1, c.w1⟩ : Pu), .inr (.inr (.inr rfl)), by go_num, by have := HF.out; rw [show (cornersP c).drop (4 - 1) = (⟨c.a1, c.w1⟩ : Pu) :: (cornersP c).drop 4 from rfl, List.foldl_cons, better_yes HGt.out] at this; exact this, HPb.out, by go_grown, ⟨by go_cell, by go_cell, by go_cell, by go_cell⟩, hc9.store (by omega) _ _⟩
            case measure => simp [intOf]
          · skip
            refine AnyV.step (o := _) rfl (fun K hK => ?_)
            go_simp
            obtain ⟨w9, B9, e9, f9, hA9, hnew⟩ := put_new (t := 89) m hA
            rw [e9, f9]
            clear e9 f9 hA
            have hA := hA9
            clear hA9
            refine hK.out _ _ (Two.till (fun _ => hA) (fun _ => trivial)) ?_
            clear hK K
            try simp only [Act.put, List.setIfInBounds_toArray, List.set_cons_zero, List.set_cons_succ]
            refine AnyV.one (i := 6) (o := _) rfl (by kernel_rfl) (fun K hK => ?_)
            go_simp
            refine (rvalue_any _ [(⟨c.a1, c.w1⟩ : Pu)] x _ (one_put (HX.out.later hA).c (by omega)) (by simp) HS.out (fun q hq => by simp at hq; subst hq; exact HPb.out)).mono ?_
            rintro e w6 ⟨rfl, hb6⟩
            rw [sum_one, HYp.out]
            try replace hnew := PuAt.later hnew hb6
            replace hA := two hA hb6
            clear hb6
            go_wp2_with fail
            refine hK.out _ _ (Two.till (fun _ => hA) (fun _ => trivial)) ?_
            clear hK K
            try simp only [Act.put, List.setIfInBounds_toArray, List.set_cons_zero, List.set_cons_succ]
            refine AnyV.one (i := 10) (o := _) rfl (by kernel_rfl) (fun K hK => ?_)
            go_simp
            refine (rvalue_any _ [m] x _ (one_put hnew (by omega)) (by simp) HS.out (fun q hq => by simp at hq; subst hq; exact HM.out)).mono ?_
            rintro e w7 ⟨rfl, hb7⟩
            rw [sum_one, HYm.out]
            clear hnew
            replace hA := two hA hb7
            clear hb7
            go_wp2_with fail
            refine hK.out _ _ (Two.till (fun _ => hA) (fun _ => trivial)) ?_
            clear hK K
            try simp only [Act.put, List.setIfInBounds_toArray, List.set_cons_zero, List.set_cons_succ]
            refine AnyV.one (i := 11) (o := _) rfl (by kernel_rfl) (fun K hK => ?_)
            go_simp
            refine hK.out _ _ (Two.till (fun h => absurd h (by decide)) (fun _ => trivial)) ?_
            clear hK K
            refine AnyV.done (by kernel_rfl) ?_
            try simp only [Act.put, List.setIfInBounds_toArray, List.set_cons_zero, List.set_cons_succ]
            have hc9 := HCo.out.later hA
            have hb9 := HBx.out.later hA
            have hx9 := H3i.out.later hA
            have hw9 := HBi.out.trans (hA.mono HBi.out.size)
            have z9 := hb9.lt
            obtain ⟨m0, m1, mf0, mf1⟩ := hb9
            obtain ⟨p0, p1⟩ := hc9.k3
            go_wp2_with fail
            go_roundw
            case rel => exact ⟨4, (⟨c.a1, c.w1⟩ : Pu), .inr (.inr (.inr rfl)), by go_num, by have := HF.out; rw [show (cornersP c).drop (4 - 1) = (⟨c.a1, c.w1⟩ : Pu) :: (cornersP c).drop 4 from rfl, List.foldl_cons, better_yes HGt.out] at this; exact this, HPb.out, by go_grown, ⟨by go_cell, by go_cell, by go_cell, by go_cell⟩, hc9.store (by omega) _ _⟩
            case measure => simp [intOf]
        · have HGt := Lib.hid (show ¬ valE x.a x.b m < valE x.a x.b (⟨c.a1, c.w1⟩ : Pu) by rw [hYp, hYm]; exact hgt)
          clear hYp hYm
          obtain ⟨p0, p1⟩ := HCo.out.k3
          obtain ⟨m0, m1, mf0, mf1⟩ := HBx.out
          obtain ⟨x0, x1, x2⟩ := H3i.out
          have z0 := HBx.out.lt
          go_wp2_with fail
          clear p0 p1 m0 m1 mf0 mf1 x0 x1 x2 z0
          have hA : Below wr.heap.size wr wr.drew := below_drewN (Below.refl _ _) 1
          refine AnyV.start (Two 11 (fun w' => Below wr.heap.size wr w') 11 (fun _ => True)) 12 #[false, false, false, false, false, false, false, false, false, false, false, false] (by kernel_rfl) (by kernel_rfl) (by kernel_rfl) (fun _ => ⟨fun _ => hA, fun _ => trivial⟩) (fun hHeld => ?_)
          generalize World.drew wr = wd at hA hHeld ⊢
          refine AnyV.take 11 13 (i := 0) (oi := _) (v := ?_) rfl (by kernel_rfl) (by kernel_rfl) (by kernel_rfl) (by kernel_rfl) (by kernel_rfl) (fun _ _ _ h => h) (Two.other (by decide)) (Or.inl ⟨by kernel_rfl, ?_⟩) (by assumption) (fun hHeld => ?_)
          rotate_left 1
          · intro wz hSw'; have hSw := HX.out.later (hSw'.1 rfl); clear hSw'; skip; go_simp; try with_reducible rfl
          try simp only [Act.put, List.setIfInBounds_toArray, List.set_cons_zero, List.set_cons_succ] at hHeld ⊢
          refine AnyV.take 11 13 (i := 1) (oi := _) (v := ?_) rfl (by kernel_rfl) (by kernel_rfl) (by kernel_rfl) (by kernel_rfl) (by kernel_rfl) (fun _ _ _ h => h) (Two.other (by decide)) (Or.inl ⟨by kernel_rfl, ?_⟩) (by assumption) (fun hHeld => ?_)
          rotate_left 1
          · intro wz hSw'; have hSw := HX.out.later (hSw'.1 rfl); clear hSw'; skip; go_simp; try with_reducible rfl
          try simp only [Act.put, List.setIfInBounds_toArray, List.set_cons_zero, List.set_cons_succ] at hHeld ⊢
          refine AnyV.take 11 13 (i := 2) (oi := _) (v := ?_) rfl (by kernel_rfl) (by kernel_rfl) (by kernel_rfl) (by kernel_rfl) (by kernel_rfl) (fun _ _ _ h => h) (Two.other (by decide)) (Or.inl ⟨by kernel_rfl, ?_⟩) (by assumption) (fun hHeld => ?_)
          rotate_left 1
          · intro wz hSw'; have hSw := HX.out.later (hSw'.1 rfl); clear hSw'; skip; go_simp; try with_reducible rfl
          try simp only [Act.put, List.setIfInBounds_toArray, List.set_cons_zero, List.set_cons_succ] at hHeld ⊢
          refine AnyV.take 11 13 (i := 3) (oi := _) (v := ?_) rfl (by kernel_rfl) (by kernel_rfl) (by kernel_rfl) (by kernel_rfl) (by kernel_rfl) (fun _ _ _ h => h) (Two.other (by decide)) (Or.inl ⟨by kernel_rfl, ?_⟩) (by assumption) (fun hHeld => ?_)
          rotate_left 1
          · intro wz hSw'; have hSw := HX.out.later (hSw'.1 rfl); clear hSw'; skip; go_simp; try with_reducible rfl
          try simp only [Act.put, List.setIfInBounds_toArray, List.set_cons_zero, List.set_cons_succ] at hHeld ⊢
          refine AnyV.take 11 13 (i := 4) (oi := _) (v := ?_) rfl (by kernel_rfl) (by kernel_rfl) (by kernel_rfl) (by kernel_rfl) (by kernel_rfl) (fun _ _ _ h => h) (Two.other (by decide)) (Or.inl ⟨by kernel_rfl, ?_⟩) (by assumption) (fun hHeld => ?_)
          rotate_left 1
          · intro wz hSw'; have hSw := HX.out.later (hSw'.1 rfl); clear hSw'; have q0 := wrapN.out; go_simp; try with_reducible rfl
          try simp only [Act.put, List.setIfInBounds_toArray, List.set_cons_zero, List.set_cons_succ] at hHeld ⊢
          refine AnyV.take 11 13 (i := 5) (oi := _) (v := ?_) rfl (by kernel_rfl) (by kernel_rfl) (by kernel_rfl) (by kernel_rfl) (by kernel_rfl) (fun _ _ _ h => h) (Two.other (by decide)) (Or.inl ⟨by kernel_rfl, ?_⟩) (by assumption) (fun hHeld => ?_)
          rotate_left 1
          · intro wz hSw'; have hSw := HX.out.later (hSw'.1 rfl); clear hSw'; (have q0 := hSw.x.c0; have q1 := hSw.x.c1; have q2 := hSw.x.c2); go_simp; try with_reducible rfl
          try simp only [Act.put, List.setIfInBounds_toArray, List.set_cons_zero, List.set_cons_succ] at hHeld ⊢
          refine AnyV.take 11 13 (i := 7) (oi := _) (v := ?_) rfl (by kernel_rfl) (by kernel_rfl) (by kernel_rfl) (by kernel_rfl) (by kernel_rfl) (fun _ _ _ h => h) (Two.other (by decide)) (Or.inl ⟨by kernel_rfl, ?_⟩) (by assumption) (fun hHeld => ?_)
          rotate_left 1
          · intro wz hSw'; have hSw := HX.out.later (hSw'.1 rfl); clear hSw'; (have q0 := hSw.m.c0; have q1 := hSw.m.c1); go_simp; try with_reducible rfl
          try simp only [Act.put, List.setIfInBounds_toArray, List.set_cons_zero, List.set_cons_succ] at hHeld ⊢
          refine AnyV.take 11 13 (i := 9) (oi := _) (v := ?_) rfl (by kernel_rfl) (by kernel_rfl) (by kernel_rfl) (by kernel_rfl) (by kernel_rfl) (fun _ _ _ h => h) (Two.other (by decide)) (Or.inl ⟨by kernel_rfl, ?_⟩) (by assumption) (fun hHeld => ?_)
          rotate_left 1
          · intro wz hSw'; have hSw := HX.out.later (hSw'.1 rfl); clear hSw'; (have q0 := hSw.x.c0; have q1 := hSw.x.c1; have q2 := hSw.x.c2); go_simp; try with_reducible rfl
          try simp only [Act.put, List.setIfInBounds_toArray, List.set_cons_zero, List.set_cons_succ] at hHeld ⊢
          clear hHeld
          refine AnyV.some [6, 8] (by kernel_rfl) (by simp) (fun i hi => ?_)
          simp only [List.mem_cons, List.not_mem_nil, or_false] at hi
          rcases hi with rfl | rfl
          · skip
            refine AnyV.step (o := _) rfl (fun K hK => ?_)
            go_simp
            refine (rvalue_any _ [(⟨c.a1, c.w1⟩ : Pu)] x _ (one_put (HX.out.later hA).c (by omega)) (by simp) HS.out (fun q hq => by simp at hq; subst hq; exact HPb.out)).mono ?_
            rintro e w6 ⟨rfl, hb6⟩
            rw [sum_one, HYp.out]
            try replace hnew := PuAt.later hnew hb6
            replace hA := two hA hb6
            clear hb6
            go_wp2_with fail
            refine hK.out _ _ (Two.till (fun _ => hA) (fun _ => trivial)) ?_
            clear hK K
            try simp only [Act.put, List.setIfInBounds_toArray, List.set_cons_zero, List.set_cons_succ]
            refine AnyV.one (i := 8) (o := _) rfl (by kernel_rfl) (fun K hK => ?_)
            go_simp
            obtain ⟨w9, B9, e9, f9, hA9, hnew⟩ := put_new (t := 89) m hA
            rw [e9, f9]
            clear e9 f9 hA
            have hA := hA9
            clear hA9
            refine hK.out _ _ (Two.till (fun _ => hA) (fun _ => trivial)) ?_
            clear hK K
            try simp only [Act.put, List.setIfInBounds_toArray, List.set_cons_zero, List.set_cons_succ]
            refine AnyV.one (i := 10) (o := _) rfl (by kernel_rfl) (fun K hK => ?_)
            go_simp
            refine (rvalue_any _ [m] x _ (one_put hnew (by omega)) (by simp) HS.out (fun q hq => by simp at hq; subst hq; exact HM.out)).mono ?_
            rintro e w7 ⟨rfl, hb7⟩
            rw [sum_one, HYm.out]
            clear hnew
            replace hA := two hA hb7
            clear hb7
            go_wp2_with fail
            refine hK.out _ _ (Two.till (fun _ => hA) (fun _ => trivial)) ?_
            clear hK K
            try simp only [Act.put, List.setIfInBounds_toArray, List.set_cons_zero, List.set_cons_succ]
            refine AnyV.one (i := 11) (o := _) rfl (by kernel_rfl) (fun K hK => ?_)
            go_simp
            refine hK.out _ _ (Two.till (fun h => absurd h (by decide)) (fun _ => trivial)) ?_
            clear hK K
            refine AnyV.done (by kernel_rfl) ?_
            try simp only [Act.put, List.setIfInBounds_toArray, List.set_cons_zero, List.set_cons_succ]
            have hc9 := HCo.out.later hA
            have hb9 := HBx.out.later hA
            have hx9 := H3i.out.later hA
            have hw9 := HBi.out.trans (hA.mono HBi.out.size)
            have z9 := hb9.lt
            obtain ⟨m0, m1, mf0, mf1⟩ := hb9
            go_wp2_with fail
            go_roundw
            case rel => exact ⟨4, m, .inr (.inr (.inr rfl)), by go_num, by have := HF.out; rw [show (cornersP c).drop (4 - 1) = (⟨c.a1, c.w1⟩ : Pu) :: (cornersP c).drop 4 from rfl, List.foldl_cons, better_no (by have := HGt.out; omega)] at this; exact this, HM.out, by go_grown, ⟨by go_cell, by go_cell, by go_cell, by go_cell⟩, hc9⟩
            case measure => simp [intOf]
          · skip
            refine AnyV.step (o := _) rfl (fun K hK => ?_)
            go_simp
            obtain ⟨w9, B9, e9, f9, hA9, hnew⟩ := put_new (t := 89) m hA
            rw [e9, f9]
            clear e9 f9 hA
            have hA := hA9
            clear hA9
            refine hK.out _ _ (Two.till (fun _ => hA) (fun _ => trivial)) ?_
            clear hK K
            try simp only [Act.put, List.setIfInBounds_toArray, List.set_cons_zero, List.set_cons_succ]
            refine AnyV.one (i := 6) (o := _) rfl (by kernel_rfl) (fun K hK => ?_)
            go_simp
            refine (rvalue_any _ [(⟨c.a1, c.w1⟩ : Pu)] x _ (one_put (HX.out.later hA).c (by omega)) (by simp) HS.out (fun q hq => by simp at hq; subst hq; exact HPb.out)).mono ?_
            rintro e w6 ⟨rfl, hb6⟩
            rw [sum_one, HYp.out]
            try replace hnew := PuAt.later hnew hb6
            replace hA := two hA hb6
            clear hb6
            go_wp2_with fail
            refine hK.out _ _ (Two.till (fun _ => hA) (fun _ => trivial)) ?_
            clear hK K
            try simp only [Act.put, List.setIfInBounds_toArray, List.set_cons_zero, List.set_cons_succ]
            refine AnyV.one (i := 10) (o := _) rfl (by kernel_rfl) (fun K hK => ?_)
            go_simp
            refine (rvalue_any _ [m] x _ (one_put hnew (by omega)) (by simp) HS.out (fun q hq => by simp at hq; subst hq; exact HM.out)).mono ?_
            rintro e w7 ⟨rfl, hb7⟩
            rw [sum_one, HYm.out]
            clear hnew
            replace hA := two hA hb7
            clear hb7
            go_wp2_with fail
            refine hK.out _ _ (Two.till (fun _ => hA) (fun _ => trivial)) ?_
            clear hK K
            try simp only [Act.put, List.setIfInBounds_toArray, List.set_cons_zero, List.set_cons_succ]
            refine AnyV.one (i := 11) (o := _) rfl (by kernel_rfl) (fun K hK => ?_)
            go_simp
            refine hK.out _ _ (Two.till (fun h => absurd h (by decide)) (fun _ => trivial)) ?_
            clear hK K
            refine AnyV.done (by kernel_rfl) ?_
            try simp only [Act.put, List.setIfInBounds_toArray, List.set_cons_zero, List.set_cons_succ]
            have hc9 := HCo.out.later hA
            have hb9 := HBx.out.later hA
            have hx9 := H3i.out.later hA
            have hw9 := HBi.out.trans (hA.mono HBi.out.size)
            have z9 := hb9.lt
            obtain ⟨m0, m1, mf0, mf1⟩ := hb9
            go_wp2_with fail
            go_roundw
            case rel => exact ⟨4, m, .inr (.inr (.inr rfl)), by go_num, by have := HF.out; rw [show (cornersP c).drop (4 - 1) = (⟨c.a1, c.w1⟩ : Pu) :: (cornersP c).drop 4 from rfl, List.foldl_cons, better_no (by have := HGt.out; omega)] at this; exact this, HM.out, by go_grown, ⟨by go_cell, by go_cell, by go_cell, by go_cell⟩, hc9⟩
            case measure => simp [intOf]
      · have hmF : m = worstP x.a x.b c := HF.out
        have HmF := Lib.hid hmF
        have hown2 := own_below HO.out HBi.out
        have hBw : Below w.heap.size w wr := hbr.trans (HBi.out.mono hbr.size)
        have hsw := hBw.size
        have hsz2 : w.heap.size < wr.heap.size := World.block_lt_of_cell? _ _ H3i.out.c0
        have hlk : (ls.take k).length = k := by rw [List.length_take]; omega
        have H3w := H3i.out
        obtain ⟨m0, m1, mf0, mf1⟩ := HBx.out
        have HBw := Lib.hid hBw
        have HLk := Lib.hid hlk
        clear hmF hlk hBw
        go_wp2_with (at_builtin; refine wpList_append_own _ rfl _ _ 42 rfl (w.heap.size + 1) 89 i0 (.agg #[.int .i64 0, .int .i64 0]) 2 16 Try.underlying42 HI.out HZ0.out HZ1.out HZ2.out rfl (by decide) _ _ _ rfl (hown2.alloc _) ⟨wr.heap.size, 0, none⟩ 1 1 [.int .i64 m.p, .int .i64 m.w] rfl rfl ?c1 ?c2 ?c3 ?c4 ?c5 ?_)
        case c1 => exact two_new _ _ _ _
        case c2 =>
          intro u hu
          simp at hu
          rcases hu with rfl | rfl <;> rfl
        case c3 => unfold maxLen; omega
        case c4 => omega
        case c5 => simp; omega
        intro v' w2 hown' hgrow hnil
        obtain ⟨hb2, hz2⟩ := grown_below hown2 (Below.refl (w.heap.size + 1) wr) (by omega) hgrow
        have hBf : Below w.heap.size w w2 := HBw.out.trans (hb2.mono (by omega))
        have h3f : Three w2 w.heap.size x.a x.b x.c := ⟨by rw [hb2.cell (p := ⟨w.heap.size, 0, none⟩) (by simp)]; exact H3w.c0, by rw [hb2.cell (p := ⟨w.heap.size, 1, none⟩) (by simp)]; exact H3w.c1, by rw [hb2.cell (p := ⟨w.heap.size, 2, none⟩) (by simp)]; exact H3w.c2⟩
        have hof : w2.ownsRow (w.heap.size + 1) 89 2 v' (k + 1) (spP ((ls.take (k + 1)).map (worstP x.a x.b))) := by
          rw [List.take_add_one, HC.out, Option.toList_some, List.map_append, List.map_singleton, spP_app, ← HmF.out]
          rw [List.map_take]
          exact hown'
        have HOf := Lib.hid hof
        have H3f := Lib.hid h3f
        clear hown' hgrow hnil hof h3f hown2 H3w hb2
        go_wp2_with fail
        go_roundw
        case rel => exact ⟨k + 1, by omega, by go_num, HOf.out, hBf, H3f.out⟩
        case measure => simp [intOf]; omega
theorem rworst_any (v : Value) (ls : List Ld) (x : Li) (w : World) (hv : SlLd w v ls) (h50 : ls.length ≤ 50) (hs : ScB x.a x.b) (hl : ∀ l, l ∈ ls → LdB l) :
    Calls Try.prog 70 #[v, liV x] w fun e w' => ∃ u, e = .returned u ∧ SlPu w' u (ls.map (worstP x.a x.b)) ∧ Below w.heap.size w w' :=
  (rworst_new v ls x w hv h50 hs hl).mono fun _ _ ⟨u, h1, h2, h3, _⟩ => ⟨u, h1, h2, h3⟩
end Go.Proofs.Ytldnpnplgfkebaa
