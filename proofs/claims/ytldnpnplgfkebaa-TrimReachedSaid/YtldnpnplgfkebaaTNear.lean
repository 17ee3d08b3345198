/- Package trim: cargo.needed. -/
import Derived.Test.YtldnpnplgfkebaaTCargo
namespace Go.Proofs.Ytldnpnplgfkebaa
open Go.RowKit

abbrev cgV (h p r s : Value) : Value := .agg #[h, p, r, s]
/-- A rule is for two classes. -/
def matchR (r : Li) (x y : Int) : Bool := (r.a == x && r.b == y) || (r.a == y && r.b == x)
/-- How far apart two classes have to be. -/
def needE (x y : Int) : Int → List Li → Int
  | a, [] => a
  | a, r :: rs => needE x y (if matchR r x y = true then max a r.c else a) rs
/-- The four lists of a cargo stand in a box. -/
structure CgAt (w : World) (b : Nat) (h p r s : Value) : Prop where
  c0 : w.cell? ⟨b, 0, none⟩ = some h
  c1 : w.cell? ⟨b, 1, none⟩ = some p
  c2 : w.cell? ⟨b, 2, none⟩ = some r
  c3 : w.cell? ⟨b, 3, none⟩ = some s
theorem CgAt.later {w w1 : World} {b : Nat} {h p r s : Value} (k : CgAt w b h p r s) (hb : Below w.heap.size w w1) : CgAt w1 b h p r s := ⟨cell_later hb k.c0, cell_later hb k.c1, cell_later hb k.c2, cell_later hb k.c3⟩
def NeHead (rs : List Li) (x y : Int) (w wr : World) (v7 v13 : Value) : Prop := ∃ (k : Nat) (a : Int), k ≤ rs.length ∧ v13 = .int .i64 k ∧ v7 = .int .i64 a ∧ needE x y 0 rs = needE x y a (rs.drop k) ∧ Below w.heap.size w wr
set_option linter.unusedSimpArgs false in
set_option maxRecDepth 100000 in
set_option maxHeartbeats 4000000 in
theorem needed_any (h p r s : Value) (rs : List Li) (x y : Int) (w : World) (hr : SlLi w r rs) :
    Calls Try.prog 141 #[cgV h p r s, .int .i64 x, .int .i64 y] w fun e w' => e = .returned (.int .i64 (needE x y 0 rs)) ∧ Below w.heap.size w w' := by
  obtain ⟨a3, cap3, rfl, hl3, _⟩ := hr.form
  have HRr := Lib.hid hr
  clear hr
  go_enter Try.func141, Try.ntmps141
  go_wp2_with fail
  go_loopw [7, 13] (fun v7 v13 wr => NeHead rs x y w wr v7 v13) (fun _ v13 _ => rs.length - (intOf v13).toNat)
  case atStart => exact ⟨0, 0, by omega, rfl, rfl, rfl, by go_grown⟩
  case round =>
    obtain ⟨k, a, hk, rfl, rfl, he, hbr⟩ := hrel
    have HE := Lib.hid he
    clear he
    have hk0 : (0 : Int) ≤ (k : Int) := by omega
    by_cases hlt : k < rs.length
    rotate_left 1
    · have hlt' : ¬ (k : Int) < (rs.length : Int) := by omega
      have HF := Lib.hid (show needE x y 0 rs = a by rw [HE.out, drop_none hlt]; rfl)
      go_wp2_with fail
      go_returns
      exact ⟨ret_int HF.out.symm, hbr⟩
    obtain ⟨b, off, c, rfl, hb, hc, hat⟩ := HRr.out.at hlt
    obtain ⟨c0, c1, c2⟩ := LiAt.later hat hbr
    have hlt' : (k : Int) < (rs.length : Int) := by omega
    have HC := Lib.hid hc
    have hsz := hbr.size
    clear hc hat
    obtain ⟨t1, h1⟩ : ∃ t, (c.a == x) = t := ⟨_, rfl⟩
    obtain ⟨t2, h2⟩ : ∃ t, (c.b == y) = t := ⟨_, rfl⟩
    obtain ⟨t3, h3⟩ : ∃ t, (c.a == y) = t := ⟨_, rfl⟩
    obtain ⟨t4, h4⟩ : ∃ t, (c.b == x) = t := ⟨_, rfl⟩
    have HM := Lib.hid (show matchR c x y = ((t1 && t2) || (t3 && t4)) by unfold matchR; rw [h1, h2, h3, h4])
    cases t1 <;> cases t2 <;> cases t3 <;> cases t4
    · skip
      have HF := Lib.hid (show needE x y 0 rs = needE x y (a) (rs.drop (k + 1)) by rw [HE.out, drop_some HC.out, needE, HM.out]; rfl)
      go_wp2_with fail
      go_roundw
      case rel => exact ⟨k + 1, (a), by omega, by go_num, rfl, HF.out, by go_grown⟩
      case measure => simp [intOf]; omega
    · skip
      have HF := Lib.hid (show needE x y 0 rs = needE x y (a) (rs.drop (k + 1)) by rw [HE.out, drop_some HC.out, needE, HM.out]; rfl)
      go_wp2_with fail
      go_roundw
      case rel => exact ⟨k + 1, (a), by omega, by go_num, rfl, HF.out, by go_grown⟩
      case measure => simp [intOf]; omega
    · skip
      have HF := Lib.hid (show needE x y 0 rs = needE x y (a) (rs.drop (k + 1)) by rw [HE.out, drop_some HC.out, needE, HM.out]; rfl)
      go_wp2_with fail
      go_roundw
      case rel => exact ⟨k + 1, (a), by omega, by go_num, rfl, HF.out, by go_grown⟩
      case measure => simp [intOf]; omega
    · skip
      have HF := Lib.hid (show needE x y 0 rs = needE x y (max a c.c) (rs.drop (k + 1)) by rw [HE.out, drop_some HC.out, needE, HM.out]; rfl)
      go_wp2_with fail
      go_roundw
      case rel => exact ⟨k + 1, (max a c.c), by omega, by go_num, rfl, HF.out, by go_grown⟩
      case measure => simp [intOf]; omega
    · skip
      have HF := Lib.hid (show needE x y 0 rs = needE x y (a) (rs.drop (k + 1)) by rw [HE.out, drop_some HC.out, needE, HM.out]; rfl)
      go_wp2_with fail
      go_roundw
      case rel => exact ⟨k + 1, (a), by omega, by go_num, rfl, HF.out, by go_grown⟩
      case measure => simp [intOf]; omega
    · skip
      have HF := Lib.hid (show needE x y 0 rs = needE x y (a) (rs.drop (k + 1)) by rw [HE.out, drop_some HC.out, needE, HM.out]; rfl)
      go_wp2_with fail
      go_roundw
      case rel => exact ⟨k + 1, (a), by omega, by go_num, rfl, HF.out, by go_grown⟩
      case measure => simp [intOf]; omega
    · skip
      have HF := Lib.hid (show needE x y 0 rs = needE x y (a) (rs.drop (k + 1)) by rw [HE.out, drop_some HC.out, needE, HM.out]; rfl)
      go_wp2_with fail
      go_roundw
      case rel => exact ⟨k + 1, (a), by omega, by go_num, rfl, HF.out, by go_grown⟩
      case measure => simp [intOf]; omega
    · skip
      have HF := Lib.hid (show needE x y 0 rs = needE x y (max a c.c) (rs.drop (k + 1)) by rw [HE.out, drop_some HC.out, needE, HM.out]; rfl)
      go_wp2_with fail
      go_roundw
      case rel => exact ⟨k + 1, (max a c.c), by omega, by go_num, rfl, HF.out, by go_grown⟩
      case measure => simp [intOf]; omega
    · skip
      have HF := Lib.hid (show needE x y 0 rs = needE x y (a) (rs.drop (k + 1)) by rw [HE.out, drop_some HC.out, needE, HM.out]; rfl)
      go_wp2_with fail
      go_roundw
      case rel => exact ⟨k + 1, (a), by omega, by go_num, rfl, HF.out, by go_grown⟩
      case measure => simp [intOf]; omega
    · skip
      have HF := Lib.hid (show needE x y 0 rs = needE x y (a) (rs.drop (k + 1)) by rw [HE.out, drop_some HC.out, needE, HM.out]; rfl)
      go_wp2_with fail
      go_roundw
      case rel => exact ⟨k + 1, (a), by omega, by go_num, rfl, HF.out, by go_grown⟩
      case measure => simp [intOf]; omega
    · skip
      have HF := Lib.hid (show needE x y 0 rs = needE x y (a) (rs.drop (k + 1)) by rw [HE.out, drop_some HC.out, needE, HM.out]; rfl)
      go_wp2_with fail
      go_roundw
      case rel => exact ⟨k + 1, (a), by omega, by go_num, rfl, HF.out, by go_grown⟩
      case measure => simp [intOf]; omega
    · skip
      have HF := Lib.hid (show needE x y 0 rs = needE x y (max a c.c) (rs.drop (k + 1)) by rw [HE.out, drop_some HC.out, needE, HM.out]; rfl)
      go_wp2_with fail
      go_roundw
      case rel => exact ⟨k + 1, (max a c.c), by omega, by go_num, rfl, HF.out, by go_grown⟩
      case measure => simp [intOf]; omega
    · skip
      have HF := Lib.hid (show needE x y 0 rs = needE x y (max a c.c) (rs.drop (k + 1)) by rw [HE.out, drop_some HC.out, needE, HM.out]; rfl)
      go_wp2_with fail
      go_roundw
      case rel => exact ⟨k + 1, (max a c.c), by omega, by go_num, rfl, HF.out, by go_grown⟩
      case measure => simp [intOf]; omega
    · skip
      have HF := Lib.hid (show needE x y 0 rs = needE x y (max a c.c) (rs.drop (k + 1)) by rw [HE.out, drop_some HC.out, needE, HM.out]; rfl)
      go_wp2_with fail
      go_roundw
      case rel => exact ⟨k + 1, (max a c.c), by omega, by go_num, rfl, HF.out, by go_grown⟩
      case measure => simp [intOf]; omega
    · skip
      have HF := Lib.hid (show needE x y 0 rs = needE x y (max a c.c) (rs.drop (k + 1)) by rw [HE.out, drop_some HC.out, needE, HM.out]; rfl)
      go_wp2_with fail
      go_roundw
      case rel => exact ⟨k + 1, (max a c.c), by omega, by go_num, rfl, HF.out, by go_grown⟩
      case measure => simp [intOf]; omega
    · skip
      have HF := Lib.hid (show needE x y 0 rs = needE x y (max a c.c) (rs.drop (k + 1)) by rw [HE.out, drop_some HC.out, needE, HM.out]; rfl)
      go_wp2_with fail
      go_roundw
      case rel => exact ⟨k + 1, (max a c.c), by omega, by go_num, rfl, HF.out, by go_grown⟩
      case measure => simp [intOf]; omega
end Go.Proofs.Ytldnpnplgfkebaa
/- Package trim: cargo.isLastNear. -/
namespace Go.Proofs.Ytldnpnplgfkebaa
open Go.RowKit

/-- Parcel j is too near to parcel l. -/
def nearJ (rs : List Li) (ps : List Pu) (zs : List Int) (l j : Nat) : Bool :=
  decide (max (zs.getD l 0 - zs.getD j 0) (zs.getD j 0 - zs.getD l 0) < needE (ps.getD l default).w (ps.getD j default).w 0 rs)
/-- The last parcel is too near to another one. -/
def lnB (rs : List Li) (ps : List Pu) (zs : List Int) : Bool := (List.range (zs.length - 1)).any (nearJ rs ps zs (zs.length - 1))
theorem ln_step {rs : List Li} {ps : List Pu} {zs : List Int} {l k : Nat} (hk : k < l) : ((List.range l).drop k).any (nearJ rs ps zs l) = (nearJ rs ps zs l k || ((List.range l).drop (k + 1)).any (nearJ rs ps zs l)) := by
  rw [List.drop_eq_getElem_cons (by simpa using hk), List.any_cons, List.getElem_range]
def LnHead (rs : List Li) (ps : List Pu) (zs : List Int) (l : Nat) (w wr : World) (v12 : Value) : Prop := ∃ k : Nat, k ≤ l ∧ v12 = .int .i64 k ∧ lnB rs ps zs = ((List.range l).drop k).any (nearJ rs ps zs l) ∧ Below w.heap.size w wr
set_option linter.unusedSimpArgs false in
set_option maxRecDepth 100000 in
set_option maxHeartbeats 8000000 in
theorem isLastNear_any (h p r s : Value) (rs : List Li) (ps : List Pu) (a : Option Addr) (n cap : Nat) (zs : List Int) (w : World) (hp : SlPu w p ps) (hr : SlLi w r rs) (hz : SlI w (.slice a n cap) zs) (hn : zs.length = n) (hnp : n ≤ ps.length) (hb : ∀ z, z ∈ zs → -1000 ≤ z ∧ z ≤ 1000) :
    Calls Try.prog 128 #[cgV h p r s, .slice a n cap] w fun e w' => e = .returned (.bool (lnB rs ps zs)) ∧ Below w.heap.size w w' := by
  obtain ⟨a1, cap1, rfl, hl1, _⟩ := hp.form
  have HP := Lib.hid hp
  have HRr := Lib.hid hr
  have HZ := Lib.hid (show SlI w (.slice a zs.length cap) zs by rw [hn]; exact hz)
  have HZn := Lib.hid hn
  have HZb := Lib.hid hb
  have hpl := hp.form
  clear hp hr hz hn hb
  cases n with
  | zero =>
    have HF := Lib.hid (show lnB rs ps zs = false by unfold lnB; rw [HZn.out]; rfl)
    go_enter Try.func128, Try.ntmps128
    go_wp2_with fail
    go_loopw [12] (fun v12 wr => v12 = .int .i64 0 ∧ Below w.heap.size w wr) (fun _ _ => 0)
    case atStart => exact ⟨rfl, by go_grown⟩
    case round =>
      obtain ⟨rfl, hbr⟩ := hrel
      go_wp2_with fail
      go_returns
      exact ⟨ret_bool HF.out.symm, hbr⟩
  | succ l =>
    go_enter Try.func128, Try.ntmps128
    go_wp2_with fail
    have HW0 := Lib.hid (show CgAt (w.alloc (.cells #[h, .slice a1 ps.length cap1, r, s] 149)) w.heap.size h (.slice a1 ps.length cap1) r s from ⟨by go_cell, by go_cell, by go_cell, by go_cell⟩)
    have HB0 := Lib.hid (show Below w.heap.size w (w.alloc (.cells #[h, .slice a1 ps.length cap1, r, s] 149)) by go_grown)
    generalize hW : w.alloc (.cells #[h, .slice a1 ps.length cap1, r, s] 149) = W at *
    have hwW : w.heap.size < W.heap.size := World.block_lt_of_cell? _ _ HW0.out.c0
    clear hW
    have hLn := Lib.hid (show lnB rs ps zs = (List.range l).any (nearJ rs ps zs l) by unfold lnB; rw [HZn.out]; rfl)
    go_loopw [12] (fun v12 wr => LnHead rs ps zs l W wr v12) (fun v12 _ => l - (intOf v12).toNat)
    case atStart => exact ⟨0, by omega, rfl, by rw [hLn.out]; rfl, Below.refl _ _⟩
    case round =>
      obtain ⟨k, hk, rfl, he, hbr⟩ := hrel
      have HE := Lib.hid he
      clear he
      have hB := HB0.out.trans (hbr.mono HB0.out.size)
      have hk0 : (0 : Int) ≤ (k : Int) := by omega
      by_cases hlt : k < l
      rotate_left 1
      · have hlt' : ¬ (k : Int) < (l : Int) := by omega
        have HF := Lib.hid (show lnB rs ps zs = false by rw [HE.out, List.drop_eq_nil_of_le (by simpa using hlt)]; rfl)
        go_wp2_with fail
        go_returns
        exact ⟨ret_bool HF.out.symm, hB⟩
      have hlt' : (k : Int) < (l : Int) := by omega
      have hl0 : (0 : Int) ≤ (l : Int) := by omega
      have hz0 := HZ.out
      rw [HZn.out] at hz0
      obtain ⟨g, o, zl, rfl, hg, hzl, hatl⟩ := HZ.out.at (show l < zs.length by rw [HZn.out]; omega)
      obtain ⟨g', o', zk, hgg, _, hzk, hatk⟩ := HZ.out.at (show k < zs.length by rw [HZn.out]; omega)
      cases hgg
      obtain ⟨bl0, bl1⟩ := HZb.out zl (List.mem_of_getElem? hzl)
      obtain ⟨bk0, bk1⟩ := HZb.out zk (List.mem_of_getElem? hzk)
      have e0 : wr.cell? ⟨g, o + l, none⟩ = some (.int .i64 zl) := by have := IntAt.later hatl hB; unfold IntAt at this; rw [Nat.mul_one] at this; exact this
      have f0 : wr.cell? ⟨g, o + k, none⟩ = some (.int .i64 zk) := by have := IntAt.later hatk hB; unfold IntAt at this; rw [Nat.mul_one] at this; exact this
      obtain ⟨gp, op, pl, hpa, hgp, hpl', hatpl⟩ := HP.out.at (show l < ps.length by omega)
      obtain ⟨gp', op', pk, hpa', _, hpk, hatpk⟩ := HP.out.at (show k < ps.length by omega)
      subst hpa
      cases hpa'
      have HN := Lib.hid (show nearJ rs ps zs l k = decide (max (zl - zk) (zk - zl) < needE pl.w pk.w 0 rs) by
        unfold nearJ
        simp only [List.getD_eq_getElem?_getD, hzl, hzk, hpl', hpk, Option.getD_some])
      have HE0 := Lib.hid e0
      have HF0 := Lib.hid f0
      have HPl := Lib.hid (PuAt.later hatpl hB)
      have HPk := Lib.hid (PuAt.later hatpk hB)
      have HWr := Lib.hid (HW0.out.later hbr)
      clear hzl hzk hatl hatk hpl' hpk hatpl hatpk e0 f0 hz0
      have hln : (l : Int) < (l : Int) + 1 := by omega
      have hkn : (k : Int) < (l : Int) + 1 := by omega
      have hlp : (l : Int) < (ps.length : Int) := by omega
      have hkp : (k : Int) < (ps.length : Int) := by omega
      go_wp2_with fail
      have hA : Below wr.heap.size wr wr.drew := below_drewN (Below.refl _ _) 1
      refine AnyV.start (Two 18 (fun w' => Below wr.heap.size wr w') 18 (fun _ => True)) 20 #[false, false, false, false, false, false, false, false, false, false, false, false, false, false, false, false, false, false, false, false] (by kernel_rfl) (by kernel_rfl) (by kernel_rfl) (fun _ => ⟨fun _ => hA, fun _ => trivial⟩) (fun _ => ?_)
      generalize World.drew wr = wd at hA ⊢
      refine AnyV.take 18 20 (i := 0) (oi := _) (v := ?_) rfl (by kernel_rfl) (by kernel_rfl) (by kernel_rfl) (by kernel_rfl) (by kernel_rfl) (fun _ _ _ h => h) (Two.other (by decide)) (Or.inl ⟨by kernel_rfl, ?_⟩) (Two.till (fun _ => hA) (fun _ => trivial)) (fun _ => ?_)
      rotate_left 1
      · intro wz hSw'; have hSw := hSw'.1 rfl; clear hSw'; skip; go_simp; try with_reducible rfl
      try simp only [Act.put, List.setIfInBounds_toArray, List.set_cons_zero, List.set_cons_succ]
      refine AnyV.take 18 20 (i := 1) (oi := _) (v := ?_) rfl (by kernel_rfl) (by kernel_rfl) (by kernel_rfl) (by kernel_rfl) (by kernel_rfl) (fun _ _ _ h => h) (Two.other (by decide)) (Or.inl ⟨by kernel_rfl, ?_⟩) (Two.till (fun _ => hA) (fun _ => trivial)) (fun _ => ?_)
      rotate_left 1
      · intro wz hSw'; have hSw := hSw'.1 rfl; clear hSw'; skip; go_simp; try with_reducible rfl
      try simp only [Act.put, List.setIfInBounds_toArray, List.set_cons_zero, List.set_cons_succ]
      refine AnyV.take 18 20 (i := 2) (oi := _) (v := ?_) rfl (by kernel_rfl) (by kernel_rfl) (by kernel_rfl) (by kernel_rfl) (by kernel_rfl) (fun _ _ _ h => h) (Two.other (by decide)) (Or.inl ⟨by kernel_rfl, ?_⟩) (Two.till (fun _ => hA) (fun _ => trivial)) (fun _ => ?_)
      rotate_left 1
      · intro wz hSw'; have hSw := hSw'.1 rfl; clear hSw'; skip; go_simp; try with_reducible rfl
      try simp only [Act.put, List.setIfInBounds_toArray, List.set_cons_zero, List.set_cons_succ]
      refine AnyV.take 18 20 (i := 3) (oi := _) (v := ?_) rfl (by kernel_rfl) (by kernel_rfl) (by kernel_rfl) (by kernel_rfl) (by kernel_rfl) (fun _ _ _ h => h) (Two.other (by decide)) (Or.inl ⟨by kernel_rfl, ?_⟩) (Two.till (fun _ => hA) (fun _ => trivial)) (fun _ => ?_)
      rotate_left 1
      · intro wz hSw'; have hSw := hSw'.1 rfl; clear hSw'; have h1 := cell_later hSw HE0.out; go_simp; try with_reducible rfl
      try simp only [Act.put, List.setIfInBounds_toArray, List.set_cons_zero, List.set_cons_succ]
      refine AnyV.take 18 20 (i := 4) (oi := _) (v := ?_) rfl (by kernel_rfl) (by kernel_rfl) (by kernel_rfl) (by kernel_rfl) (by kernel_rfl) (fun _ _ _ h => h) (Two.other (by decide)) (Or.inl ⟨by kernel_rfl, ?_⟩) (Two.till (fun _ => hA) (fun _ => trivial)) (fun _ => ?_)
      rotate_left 1
      · intro wz hSw'; have hSw := hSw'.1 rfl; clear hSw'; skip; go_simp; try with_reducible rfl
      try simp only [Act.put, List.setIfInBounds_toArray, List.set_cons_zero, List.set_cons_succ]
      refine AnyV.take 18 20 (i := 5) (oi := _) (v := ?_) rfl (by kernel_rfl) (by kernel_rfl) (by kernel_rfl) (by kernel_rfl) (by kernel_rfl) (fun _ _ _ h => h) (Two.other (by decide)) (Or.inl ⟨by kernel_rfl, ?_⟩) (Two.till (fun _ => hA) (fun _ => trivial)) (fun _ => ?_)
      rotate_left 1
      · intro wz hSw'; have hSw := hSw'.1 rfl; clear hSw'; skip; go_simp; try with_reducible rfl
      try simp only [Act.put, List.setIfInBounds_toArray, List.set_cons_zero, List.set_cons_succ]
      refine AnyV.take 18 20 (i := 6) (oi := _) (v := ?_) rfl (by kernel_rfl) (by kernel_rfl) (by kernel_rfl) (by kernel_rfl) (by kernel_rfl) (fun _ _ _ h => h) (Two.other (by decide)) (Or.inl ⟨by kernel_rfl, ?_⟩) (Two.till (fun _ => hA) (fun _ => trivial)) (fun _ => ?_)
      rotate_left 1
      · intro wz hSw'; have hSw := hSw'.1 rfl; clear hSw'; skip; go_simp; try with_reducible rfl
      try simp only [Act.put, List.setIfInBounds_toArray, List.set_cons_zero, List.set_cons_succ]
      refine AnyV.take 18 20 (i := 7) (oi := _) (v := ?_) rfl (by kernel_rfl) (by kernel_rfl) (by kernel_rfl) (by kernel_rfl) (by kernel_rfl) (fun _ _ _ h => h) (Two.other (by decide)) (Or.inl ⟨by kernel_rfl, ?_⟩) (Two.till (fun _ => hA) (fun _ => trivial)) (fun _ => ?_)
      rotate_left 1
      · intro wz hSw'; have hSw := hSw'.1 rfl; clear hSw'; have h1 := cell_later hSw HF0.out; go_simp; try with_reducible rfl
      try simp only [Act.put, List.setIfInBounds_toArray, List.set_cons_zero, List.set_cons_succ]
      refine AnyV.take 18 20 (i := 8) (oi := _) (v := ?_) rfl (by kernel_rfl) (by kernel_rfl) (by kernel_rfl) (by kernel_rfl) (by kernel_rfl) (fun _ _ _ h => h) (Two.other (by decide)) (Or.inl ⟨by kernel_rfl, ?_⟩) (Two.till (fun _ => hA) (fun _ => trivial)) (fun _ => ?_)
      rotate_left 1
      · intro wz hSw'; have hSw := hSw'.1 rfl; clear hSw'; skip; go_simp; try with_reducible rfl
      try simp only [Act.put, List.setIfInBounds_toArray, List.set_cons_zero, List.set_cons_succ]
      refine AnyV.take 18 20 (i := 9) (oi := _) (v := ?_) rfl (by kernel_rfl) (by kernel_rfl) (by kernel_rfl) (by kernel_rfl) (by kernel_rfl) (fun _ _ _ h => h) (Two.other (by decide)) (Or.inl ⟨by kernel_rfl, ?_⟩) (Two.till (fun _ => hA) (fun _ => trivial)) (fun _ => ?_)
      rotate_left 1
      · intro wz hSw'; have hSw := hSw'.1 rfl; clear hSw'; skip; go_simp; try with_reducible rfl
      try simp only [Act.put, List.setIfInBounds_toArray, List.set_cons_zero, List.set_cons_succ]
      refine AnyV.take 18 20 (i := 10) (oi := _) (v := ?_) rfl (by kernel_rfl) (by kernel_rfl) (by kernel_rfl) (by kernel_rfl) (by kernel_rfl) (fun _ _ _ h => h) (Two.other (by decide)) (Or.inl ⟨by kernel_rfl, ?_⟩) (Two.till (fun _ => hA) (fun _ => trivial)) (fun _ => ?_)
      rotate_left 1
      · intro wz hSw'; have hSw := hSw'.1 rfl; clear hSw'; skip; go_simp; try with_reducible rfl
      try simp only [Act.put, List.setIfInBounds_toArray, List.set_cons_zero, List.set_cons_succ]
      refine AnyV.take 18 20 (i := 11) (oi := _) (v := ?_) rfl (by kernel_rfl) (by kernel_rfl) (by kernel_rfl) (by kernel_rfl) (by kernel_rfl) (fun _ _ _ h => h) (Two.other (by decide)) (Or.inl ⟨by kernel_rfl, ?_⟩) (Two.till (fun _ => hA) (fun _ => trivial)) (fun _ => ?_)
      rotate_left 1
      · intro wz hSw'; have hSw := hSw'.1 rfl; clear hSw'; skip; go_simp; try with_reducible rfl
      try simp only [Act.put, List.setIfInBounds_toArray, List.set_cons_zero, List.set_cons_succ]
      refine AnyV.take 18 20 (i := 12) (oi := _) (v := ?_) rfl (by kernel_rfl) (by kernel_rfl) (by kernel_rfl) (by kernel_rfl) (by kernel_rfl) (fun _ _ _ h => h) (Two.other (by decide)) (Or.inl ⟨by kernel_rfl, ?_⟩) (Two.till (fun _ => hA) (fun _ => trivial)) (fun _ => ?_)
      rotate_left 1
      · intro wz hSw'; have hSw := hSw'.1 rfl; clear hSw'; have h1 := cell_later hSw HF0.out; go_simp; try with_reducible rfl
      try simp only [Act.put, List.setIfInBounds_toArray, List.set_cons_zero, List.set_cons_succ]
      refine AnyV.take 18 20 (i := 13) (oi := _) (v := ?_) rfl (by kernel_rfl) (by kernel_rfl) (by kernel_rfl) (by kernel_rfl) (by kernel_rfl) (fun _ _ _ h => h) (Two.other (by decide)) (Or.inl ⟨by kernel_rfl, ?_⟩) (Two.till (fun _ => hA) (fun _ => trivial)) (fun _ => ?_)
      rotate_left 1
      · intro wz hSw'; have hSw := hSw'.1 rfl; clear hSw'; skip; go_simp; try with_reducible rfl
      try simp only [Act.put, List.setIfInBounds_toArray, List.set_cons_zero, List.set_cons_succ]
      refine AnyV.take 18 20 (i := 14) (oi := _) (v := ?_) rfl (by kernel_rfl) (by kernel_rfl) (by kernel_rfl) (by kernel_rfl) (by kernel_rfl) (fun _ _ _ h => h) (Two.other (by decide)) (Or.inl ⟨by kernel_rfl, ?_⟩) (Two.till (fun _ => hA) (fun _ => trivial)) (fun _ => ?_)
      rotate_left 1
      · intro wz hSw'; have hSw := hSw'.1 rfl; clear hSw'; skip; go_simp; try with_reducible rfl
      try simp only [Act.put, List.setIfInBounds_toArray, List.set_cons_zero, List.set_cons_succ]
      refine AnyV.take 18 20 (i := 15) (oi := _) (v := ?_) rfl (by kernel_rfl) (by kernel_rfl) (by kernel_rfl) (by kernel_rfl) (by kernel_rfl) (fun _ _ _ h => h) (Two.other (by decide)) (Or.inl ⟨by kernel_rfl, ?_⟩) (Two.till (fun _ => hA) (fun _ => trivial)) (fun _ => ?_)
      rotate_left 1
      · intro wz hSw'; have hSw := hSw'.1 rfl; clear hSw'; skip; go_simp; try with_reducible rfl
      try simp only [Act.put, List.setIfInBounds_toArray, List.set_cons_zero, List.set_cons_succ]
      refine AnyV.take 18 20 (i := 16) (oi := _) (v := ?_) rfl (by kernel_rfl) (by kernel_rfl) (by kernel_rfl) (by kernel_rfl) (by kernel_rfl) (fun _ _ _ h => h) (Two.other (by decide)) (Or.inl ⟨by kernel_rfl, ?_⟩) (Two.till (fun _ => hA) (fun _ => trivial)) (fun _ => ?_)
      rotate_left 1
      · intro wz hSw'; have hSw := hSw'.1 rfl; clear hSw'; have h1 := cell_later hSw HE0.out; go_simp; try with_reducible rfl
      try simp only [Act.put, List.setIfInBounds_toArray, List.set_cons_zero, List.set_cons_succ]
      refine AnyV.take 18 20 (i := 17) (oi := _) (v := ?_) rfl (by kernel_rfl) (by kernel_rfl) (by kernel_rfl) (by kernel_rfl) (by kernel_rfl) (fun _ _ _ h => h) (Two.other (by decide)) (Or.inl ⟨by kernel_rfl, ?_⟩) (Two.till (fun _ => hA) (fun _ => trivial)) (fun _ => ?_)
      rotate_left 1
      · intro wz hSw'; have hSw := hSw'.1 rfl; clear hSw'; skip; go_simp; try with_reducible rfl
      try simp only [Act.put, List.setIfInBounds_toArray, List.set_cons_zero, List.set_cons_succ]
      refine AnyV.one (i := 18) (o := _) rfl (by kernel_rfl) (fun K hK => ?_)
      go_simp
      refine hK.out _ _ (Two.till (fun h => absurd h (by decide)) (fun _ => trivial)) ?_
      clear hK K
      try simp only [Act.put, List.setIfInBounds_toArray, List.set_cons_zero, List.set_cons_succ]
      refine AnyV.one (i := 19) (o := _) rfl (by kernel_rfl) (fun K hK => ?_)
      go_simp
      refine hK.out _ _ (Two.till (fun h => absurd h (by decide)) (fun _ => trivial)) ?_
      clear hK K
      refine AnyV.done (by kernel_rfl) ?_
      try simp only [Act.put, List.setIfInBounds_toArray, List.set_cons_zero, List.set_cons_succ]
      obtain ⟨M, hM⟩ : ∃ M, max (zl - zk) (zk - zl) = M := ⟨_, rfl⟩
      rw [show IntKind.i64.wrap (zl - zk) = zl - zk from IntWalk.i64_in _ ⟨by omega, by omega⟩, show IntKind.i64.wrap (zk - zl) = zk - zl from IntWalk.i64_in _ ⟨by omega, by omega⟩, hM]
      have HMx := Lib.hid hM
      have HW1 := Lib.hid (HWr.out.later hA)
      have HPl1 := Lib.hid (PuAt.later HPl.out hA)
      have HPk1 := Lib.hid (PuAt.later HPk.out hA)
      have hB1 := two hbr hA
      have hBw := HB0.out.trans (hB1.mono HB0.out.size)
      have HR1 := Lib.hid (liLater HRr.out hBw)
      clear hM hA HWr HPl HPk HE0 HF0 bl0 bl1 bk0 bk1
      obtain ⟨N, hN⟩ : ∃ N, needE pl.w pk.w 0 rs = N := ⟨_, rfl⟩
      have HNn := Lib.hid hN
      clear hN
      generalize wd = wr at *
      go_wp2_with fail
      have hA : Below wr.heap.size wr wr.drew := below_drewN (Below.refl _ _) 1
      refine AnyV.start (Two 14 (fun w' => Below wr.heap.size wr w') 14 (fun _ => True)) 16 #[false, false, false, false, false, false, false, false, false, false, false, false, false, false, false, false] (by kernel_rfl) (by kernel_rfl) (by kernel_rfl) (fun _ => ⟨fun _ => hA, fun _ => trivial⟩) (fun _ => ?_)
      generalize World.drew wr = wd at hA ⊢
      refine AnyV.take 15 16 (i := 0) (oi := _) (v := ?_) rfl (by kernel_rfl) (by kernel_rfl) (by kernel_rfl) (by kernel_rfl) (by kernel_rfl) (fun _ _ _ h => h) (Two.other (by decide)) (Or.inl ⟨by kernel_rfl, ?_⟩) (Two.till (fun _ => hA) (fun _ => trivial)) (fun _ => ?_)
      rotate_left 1
      · intro wz hSw'; clear hSw'; go_simp; try with_reducible rfl
      try simp only [Act.put, List.setIfInBounds_toArray, List.set_cons_zero, List.set_cons_succ]
      refine AnyV.take 14 16 (i := 1) (oi := _) (v := ?_) rfl (by kernel_rfl) (by kernel_rfl) (by kernel_rfl) (by kernel_rfl) (by kernel_rfl) (fun _ _ _ h => h) (Two.other (by decide)) (Or.inl ⟨by kernel_rfl, ?_⟩) (Two.till (fun _ => hA) (fun _ => trivial)) (fun _ => ?_)
      rotate_left 1
      · intro wz hSw'; have hSw := hSw'.1 rfl; clear hSw'; obtain ⟨q0, q1, q2, q3⟩ := HW1.out.later hSw; go_simp; try with_reducible rfl
      try simp only [Act.put, List.setIfInBounds_toArray, List.set_cons_zero, List.set_cons_succ]
      refine AnyV.take 14 16 (i := 2) (oi := _) (v := ?_) rfl (by kernel_rfl) (by kernel_rfl) (by kernel_rfl) (by kernel_rfl) (by kernel_rfl) (fun _ _ _ h => h) (Two.other (by decide)) (Or.inl ⟨by kernel_rfl, ?_⟩) (Two.till (fun _ => hA) (fun _ => trivial)) (fun _ => ?_)
      rotate_left 1
      · intro wz hSw'; have hSw := hSw'.1 rfl; clear hSw'; skip; go_simp; try with_reducible rfl
      try simp only [Act.put, List.setIfInBounds_toArray, List.set_cons_zero, List.set_cons_succ]
      refine AnyV.take 14 16 (i := 3) (oi := _) (v := ?_) rfl (by kernel_rfl) (by kernel_rfl) (by kernel_rfl) (by kernel_rfl) (by kernel_rfl) (fun _ _ _ h => h) (Two.other (by decide)) (Or.inl ⟨by kernel_rfl, ?_⟩) (Two.till (fun _ => hA) (fun _ => trivial)) (fun _ => ?_)
      rotate_left 1
      · intro wz hSw'; have hSw := hSw'.1 rfl; clear hSw'; have q1 := (HW1.out.later hSw).c1; go_simp; try with_reducible rfl
      try simp only [Act.put, List.setIfInBounds_toArray, List.set_cons_zero, List.set_cons_succ]
      refine AnyV.take 14 16 (i := 4) (oi := _) (v := ?_) rfl (by kernel_rfl) (by kernel_rfl) (by kernel_rfl) (by kernel_rfl) (by kernel_rfl) (fun _ _ _ h => h) (Two.other (by decide)) (Or.inl ⟨by kernel_rfl, ?_⟩) (Two.till (fun _ => hA) (fun _ => trivial)) (fun _ => ?_)
      rotate_left 1
      · intro wz hSw'; have hSw := hSw'.1 rfl; clear hSw'; skip; go_simp; try with_reducible rfl
      try simp only [Act.put, List.setIfInBounds_toArray, List.set_cons_zero, List.set_cons_succ]
      refine AnyV.take 14 16 (i := 5) (oi := _) (v := ?_) rfl (by kernel_rfl) (by kernel_rfl) (by kernel_rfl) (by kernel_rfl) (by kernel_rfl) (fun _ _ _ h => h) (Two.other (by decide)) (Or.inl ⟨by kernel_rfl, ?_⟩) (Two.till (fun _ => hA) (fun _ => trivial)) (fun _ => ?_)
      rotate_left 1
      · intro wz hSw'; have hSw := hSw'.1 rfl; clear hSw'; skip; go_simp; try with_reducible rfl
      try simp only [Act.put, List.setIfInBounds_toArray, List.set_cons_zero, List.set_cons_succ]
      refine AnyV.take 14 16 (i := 6) (oi := _) (v := ?_) rfl (by kernel_rfl) (by kernel_rfl) (by kernel_rfl) (by kernel_rfl) (by kernel_rfl) (fun _ _ _ h => h) (Two.other (by decide)) (Or.inl ⟨by kernel_rfl, ?_⟩) (Two.till (fun _ => hA) (fun _ => trivial)) (fun _ => ?_)
      rotate_left 1
      · intro wz hSw'; have hSw := hSw'.1 rfl; clear hSw'; skip; go_simp; try with_reducible rfl
      try simp only [Act.put, List.setIfInBounds_toArray, List.set_cons_zero, List.set_cons_succ]
      refine AnyV.take 14 16 (i := 7) (oi := _) (v := ?_) rfl (by kernel_rfl) (by kernel_rfl) (by kernel_rfl) (by kernel_rfl) (by kernel_rfl) (fun _ _ _ h => h) (Two.other (by decide)) (Or.inl ⟨by kernel_rfl, ?_⟩) (Two.till (fun _ => hA) (fun _ => trivial)) (fun _ => ?_)
      rotate_left 1
      · intro wz hSw'; have hSw := hSw'.1 rfl; clear hSw'; have h1 := (PuAt.later HPl1.out hSw).c1; go_simp; try with_reducible rfl
      try simp only [Act.put, List.setIfInBounds_toArray, List.set_cons_zero, List.set_cons_succ]
      refine AnyV.take 14 16 (i := 8) (oi := _) (v := ?_) rfl (by kernel_rfl) (by kernel_rfl) (by kernel_rfl) (by kernel_rfl) (by kernel_rfl) (fun _ _ _ h => h) (Two.other (by decide)) (Or.inl ⟨by kernel_rfl, ?_⟩) (Two.till (fun _ => hA) (fun _ => trivial)) (fun _ => ?_)
      rotate_left 1
      · intro wz hSw'; have hSw := hSw'.1 rfl; clear hSw'; skip; go_simp; try with_reducible rfl
      try simp only [Act.put, List.setIfInBounds_toArray, List.set_cons_zero, List.set_cons_succ]
      refine AnyV.take 14 16 (i := 9) (oi := _) (v := ?_) rfl (by kernel_rfl) (by kernel_rfl) (by kernel_rfl) (by kernel_rfl) (by kernel_rfl) (fun _ _ _ h => h) (Two.other (by decide)) (Or.inl ⟨by kernel_rfl, ?_⟩) (Two.till (fun _ => hA) (fun _ => trivial)) (fun _ => ?_)
      rotate_left 1
      · intro wz hSw'; have hSw := hSw'.1 rfl; clear hSw'; have q1 := (HW1.out.later hSw).c1; go_simp; try with_reducible rfl
      try simp only [Act.put, List.setIfInBounds_toArray, List.set_cons_zero, List.set_cons_succ]
      refine AnyV.take 14 16 (i := 10) (oi := _) (v := ?_) rfl (by kernel_rfl) (by kernel_rfl) (by kernel_rfl) (by kernel_rfl) (by kernel_rfl) (fun _ _ _ h => h) (Two.other (by decide)) (Or.inl ⟨by kernel_rfl, ?_⟩) (Two.till (fun _ => hA) (fun _ => trivial)) (fun _ => ?_)
      rotate_left 1
      · intro wz hSw'; have hSw := hSw'.1 rfl; clear hSw'; skip; go_simp; try with_reducible rfl
      try simp only [Act.put, List.setIfInBounds_toArray, List.set_cons_zero, List.set_cons_succ]
      refine AnyV.take 14 16 (i := 11) (oi := _) (v := ?_) rfl (by kernel_rfl) (by kernel_rfl) (by kernel_rfl) (by kernel_rfl) (by kernel_rfl) (fun _ _ _ h => h) (Two.other (by decide)) (Or.inl ⟨by kernel_rfl, ?_⟩) (Two.till (fun _ => hA) (fun _ => trivial)) (fun _ => ?_)
      rotate_left 1
      · intro wz hSw'; have hSw := hSw'.1 rfl; clear hSw'; skip; go_simp; try with_reducible rfl
      try simp only [Act.put, List.setIfInBounds_toArray, List.set_cons_zero, List.set_cons_succ]
      refine AnyV.take 14 16 (i := 12) (oi := _) (v := ?_) rfl (by kernel_rfl) (by kernel_rfl) (by kernel_rfl) (by kernel_rfl) (by kernel_rfl) (fun _ _ _ h => h) (Two.other (by decide)) (Or.inl ⟨by kernel_rfl, ?_⟩) (Two.till (fun _ => hA) (fun _ => trivial)) (fun _ => ?_)
      rotate_left 1
      · intro wz hSw'; have hSw := hSw'.1 rfl; clear hSw'; skip; go_simp; try with_reducible rfl
      try simp only [Act.put, List.setIfInBounds_toArray, List.set_cons_zero, List.set_cons_succ]
      refine AnyV.take 14 16 (i := 13) (oi := _) (v := ?_) rfl (by kernel_rfl) (by kernel_rfl) (by kernel_rfl) (by kernel_rfl) (by kernel_rfl) (fun _ _ _ h => h) (Two.other (by decide)) (Or.inl ⟨by kernel_rfl, ?_⟩) (Two.till (fun _ => hA) (fun _ => trivial)) (fun _ => ?_)
      rotate_left 1
      · intro wz hSw'; have hSw := hSw'.1 rfl; clear hSw'; have h1 := (PuAt.later HPk1.out hSw).c1; go_simp; try with_reducible rfl
      try simp only [Act.put, List.setIfInBounds_toArray, List.set_cons_zero, List.set_cons_succ]
      refine AnyV.one (i := 14) (o := _) rfl (by kernel_rfl) (fun K hK => ?_)
      go_simp
      refine (needed_any h _ r s rs pl.w pk.w _ (liLater HR1.out hA)).mono ?_
      rintro e w6 ⟨rfl, hb6⟩
      rw [HNn.out]
      replace hA := two hA hb6
      clear hb6
      go_wp2_with fail
      refine hK.out _ _ (Two.till (fun h => absurd h (by decide)) (fun _ => trivial)) ?_
      clear hK K
      try simp only [Act.put, List.setIfInBounds_toArray, List.set_cons_zero, List.set_cons_succ]
      refine AnyV.one (i := 15) (o := _) rfl (by kernel_rfl) (fun K hK => ?_)
      go_simp
      refine hK.out _ _ (Two.till (fun h => absurd h (by decide)) (fun _ => trivial)) ?_
      clear hK K
      refine AnyV.done (by kernel_rfl) ?_
      try simp only [Act.put, List.setIfInBounds_toArray, List.set_cons_zero, List.set_cons_succ]
      have hB6 := two hB1 hA
      have hBw6 := HB0.out.trans (hB6.mono HB0.out.size)
      have HD := Lib.hid (show nearJ rs ps zs l k = decide (M < N) by rw [HN.out, HMx.out, HNn.out])
      by_cases hlt9 : M < N
      · have HF := Lib.hid (show lnB rs ps zs = true by rw [HE.out, ln_step hlt, HD.out, decide_eq_true hlt9]; rfl)
        go_wp2_with fail
        go_returns
        exact ⟨ret_bool HF.out.symm, hBw6⟩
      · have HF := Lib.hid (show lnB rs ps zs = ((List.range l).drop (k + 1)).any (nearJ rs ps zs l) by rw [HE.out, ln_step hlt, HD.out, decide_eq_false hlt9]; rfl)
        go_wp2_with fail
        go_roundw
        case rel => exact ⟨k + 1, by omega, by go_num, HF.out, hB6⟩
        case measure => simp [intOf]; omega
end Go.Proofs.Ytldnpnplgfkebaa
