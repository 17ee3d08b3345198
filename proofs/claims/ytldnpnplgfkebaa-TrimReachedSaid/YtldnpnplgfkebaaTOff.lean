/- Package trim: cargo.isOff. -/
import Derived.Test.YtldnpnplgfkebaaTNear
namespace Go.Proofs.Ytldnpnplgfkebaa
open Go.RowKit

/-- Whether puts keep what is left. -/
def keepB (ps : List Pu) (s : Sk) : Bool := decide (sumE (valE s.a s.b) ps ≤ s.m)
set_option linter.unusedSimpArgs false in
set_option maxRecDepth 100000 in
set_option maxHeartbeats 4000000 in
theorem isOff1_any (s : Sk) (b : Nat) (q : Value) (ps : List Pu) (w : World) (hc : w.cell? ⟨b, 0, none⟩ = some q) (hq : SlPu w q ps) (h50 : ps.length ≤ 50) (hs : ScB s.a s.b) (hp : ∀ p, p ∈ ps → PuB p) :
    Calls Try.prog 135 #[skV s.a s.b s.m, .pointer (some ⟨b, 0, none⟩)] w fun e w' => e = .returned (.bool (keepB ps s)) ∧ Below w.heap.size w w' := by
  obtain ⟨a1, cap1, rfl, hl1, _⟩ := hq.form
  have HQ := Lib.hid hq
  have HS := Lib.hid hs
  have HP := Lib.hid hp
  have hbw : b < w.heap.size := World.block_lt_of_cell? _ _ hc
  clear hq hs hp
  go_enter Try.func135, Try.ntmps135
  go_wp2_with fail
  refine (holds_any s.a s.b s.m _ ps _ (puLater HQ.out (by go_grown)) h50 HS.out HP.out).mono ?_
  rintro e w1 ⟨rfl, hb1⟩
  have hB := (after (w := w) (by go_grown) hb1).1
  clear hb1
  obtain ⟨t, ht⟩ : ∃ t, decide (sumE (valE s.a s.b) ps ≤ s.m) = t := ⟨_, rfl⟩
  rw [ht]
  have HT := Lib.hid (show keepB ps s = t from ht)
  clear ht
  go_wp2_with fail
  go_returns
  exact ⟨ret_bool HT.out.symm, hB⟩
def AlHead (ps : List Pu) (sks : List Sk) (w wr : World) (v9 : Value) : Prop := ∃ k : Nat, k ≤ sks.length ∧ v9 = .int .i64 k ∧ sks.all (keepB ps) = (sks.drop k).all (keepB ps) ∧ Below w.heap.size w wr
set_option linter.unusedSimpArgs false in
set_option maxRecDepth 100000 in
set_option maxHeartbeats 4000000 in
theorem allSk_any (b : Nat) (q v : Value) (ps : List Pu) (sks : List Sk) (w : World) (hc : w.cell? ⟨b, 0, none⟩ = some q) (hq : SlPu w q ps) (h50 : ps.length ≤ 50) (hp : ∀ p, p ∈ ps → PuB p) (hv : SlSk w v sks) (hs : ∀ s, s ∈ sks → ScB s.a s.b) :
    Calls Try.prog 134 #[v, .func (.func 135) #[] #[.pointer (some ⟨b, 0, none⟩)]] w fun e w' => e = .returned (.bool (sks.all (keepB ps))) ∧ Below w.heap.size w w' := by
  obtain ⟨a, cap, rfl, hlen, hcap⟩ := SlAny.form hv
  have HV := Lib.hid hv
  have HQ := Lib.hid hq
  have HP := Lib.hid hp
  have HS := Lib.hid hs
  have HC := Lib.hid hc
  clear hv hq hp hs hc
  go_enter Try.func134, Try.ntmps134
  go_wp2_with fail
  go_loopw [9] (fun v9 wr => AlHead ps sks w wr v9) (fun v9 _ => sks.length - (intOf v9).toNat)
  case atStart => exact ⟨0, by omega, rfl, rfl, Below.refl _ _⟩
  case round =>
    obtain ⟨k, hk, rfl, he, hbr⟩ := hrel
    have HE := Lib.hid he
    clear he
    have hk0 : (0 : Int) ≤ (k : Int) := by omega
    by_cases hlt : k < sks.length
    rotate_left 1
    · have hlt' : ¬ (k : Int) < (sks.length : Int) := by omega
      have HW := Lib.hid (show sks.all (keepB ps) = true by rw [HE.out, drop_none hlt]; rfl)
      go_wp2_with fail
      go_returns
      exact ⟨ret_bool HW.out.symm, hbr⟩
    obtain ⟨bk, off, c, rfl, hb, hc, hat⟩ := HV.out.at hlt
    obtain ⟨c0, c1, c2⟩ := SkAt.later hat (show Below w.heap.size w wr from hbr)
    have hlt' : (k : Int) < (sks.length : Int) := by omega
    have HCc := Lib.hid hc
    have HSc := Lib.hid (HS.out c (List.mem_of_getElem? hc))
    have hsz := hbr.size
    clear hc hat
    obtain ⟨t, ht⟩ : ∃ t, keepB ps c = t := ⟨_, rfl⟩
    have HT := Lib.hid ht
    clear ht
    go_wp2_with fail
    have hbo := hbr.alloc hbr.size (.cells #[.int .i64 c.a, .int .i64 c.b, .int .i64 c.m] 140)
    refine (isOff1_any c b q ps _ (cell_later hbo HC.out) (puLater HQ.out hbo) h50 HSc.out HP.out).mono ?_
    rintro e w1 ⟨rfl, hb1⟩
    rw [HT.out]
    have hB1 : Below w.heap.size w w1 := two hbo hb1
    clear hb1 hbo c0 c1 c2
    cases t
    · go_wp2_with fail
      go_returns
      exact ⟨ret_bool (by rw [HE.out, drop_some HCc.out, List.all_cons, HT.out]; rfl), hB1⟩
    · go_wp2_with fail
      go_roundw
      case rel => exact ⟨k + 1, by omega, by go_num, by rw [HE.out, drop_some HCc.out, List.all_cons, HT.out]; rfl, hB1⟩
      case measure => simp [intOf]; omega
end Go.Proofs.Ytldnpnplgfkebaa
/- Package trim: cargo.isOff. -/
namespace Go.Proofs.Ytldnpnplgfkebaa
open Go.RowKit

/-- Where parcel i lies, with its weight. -/
def putS (hs ps : List Pu) (zs : List Int) (i : Nat) : Pu := ⟨(hs.getD (zs.getD i 0).toNat default).p, (ps.getD i default).p⟩
/-- The puts of a stowage. -/
def putsS (hs ps : List Pu) (zs : List Int) : List Pu := (List.range zs.length).map (putS hs ps zs)
/-- A stowage is off trim. -/
def offB (hs ps : List Pu) (sks : List Sk) (zs : List Int) : Bool := !(sks.all (keepB (putsS hs ps zs)))
theorem MadeTo.range {w : World} {g n : Nat} {f : Nat → Pu} (h : MadeTo w g n n f) (hl : n ≤ 1000) : SlPu w (.slice (some ⟨g, 0, none⟩) n n) ((List.range n).map f) := by
  refine .inr ⟨g, 0, n, by rw [List.length_map, List.length_range], by rw [List.length_map, List.length_range]; omega, by rw [List.length_map, List.length_range]; omega, h.lt, fun i c e => ?_⟩
  have hi : i < n := by have := (List.getElem?_eq_some_iff.1 e).1; simpa using this
  rw [List.getElem?_map, List.getElem?_range hi] at e
  cases e
  rw [Nat.zero_add]
  exact h.put i hi
structure OfI (w : World) (b0 : Nat) (h p r s : Value) (b5 g n k : Nat) (f : Nat → Pu) : Prop where
  cg : CgAt w b0 h p r s
  bx : w.cell? ⟨b5, 0, none⟩ = some (.slice (some ⟨g, 0, none⟩) n n)
  made : MadeTo w g n k f
theorem OfI.later {w w1 : World} {b0 : Nat} {h p r s : Value} {b5 g n k : Nat} {f : Nat → Pu} (x : OfI w b0 h p r s b5 g n k f) (hb : Below w.heap.size w w1) : OfI w1 b0 h p r s b5 g n k f := ⟨x.cg.later hb, cell_later hb x.bx, x.made.later hb⟩
theorem OfI.store {w : World} {b0 : Nat} {h p r s : Value} {b5 g n k : Nat} {f : Nat → Pu} (x : OfI w b0 h p r s b5 g n k f) (h0 : b0 ≠ g) (h5 : b5 ≠ g) (hk : k < n) (u : Pu) (hu : f k = u) :
    OfI ((w.setCell ⟨g, k * 2, none⟩ (.int .i64 u.p)).setCell ⟨g, k * 2 + 1, none⟩ (.int .i64 u.w)) b0 h p r s b5 g n (k + 1) f := by
  subst hu
  have hfar : ∀ b o, b ≠ g → ((w.setCell ⟨g, k * 2, none⟩ (.int .i64 (f k).p)).setCell ⟨g, k * 2 + 1, none⟩ (.int .i64 (f k).w)).cell? ⟨b, o, none⟩ = w.cell? ⟨b, o, none⟩ := fun b o hb => by
    rw [World.cell?_setCell_other _ _ _ _ (fun e => by injection e with e1; first | exact hb e1 | exact hb e1.symm), World.cell?_setCell_other _ _ _ _ (fun e => by injection e with e1; first | exact hb e1 | exact hb e1.symm)]
  exact ⟨⟨by rw [hfar _ _ h0]; exact x.cg.c0, by rw [hfar _ _ h0]; exact x.cg.c1, by rw [hfar _ _ h0]; exact x.cg.c2, by rw [hfar _ _ h0]; exact x.cg.c3⟩, by rw [hfar _ _ h5]; exact x.bx, x.made.store hk⟩
def OfHead (b0 : Nat) (h p r s : Value) (b5 g n : Nat) (f : Nat → Pu) (w wr : World) (v13 : Value) : Prop := ∃ k : Nat, k ≤ n ∧ v13 = .int .i64 k ∧ OfI wr b0 h p r s b5 g n k f ∧ Below w.heap.size w wr
set_option linter.unusedSimpArgs false in
set_option maxRecDepth 100000 in
set_option maxHeartbeats 8000000 in
theorem isOff_any (h p r s : Value) (hs ps : List Pu) (sks : List Sk) (a : Option Addr) (n cap : Nat) (zs : List Int) (w : World) (hh : SlPu w h hs) (hp : SlPu w p ps) (hk : SlSk w s sks) (hz : SlI w (.slice a n cap) zs) (hn : zs.length = n) (hnp : n ≤ ps.length) (h50 : n ≤ 50)
    (hb : ∀ z, z ∈ zs → 0 ≤ z ∧ z < (hs.length : Int)) (hsc : ∀ x, x ∈ sks → ScB x.a x.b) (hpb : ∀ x, x ∈ putsS hs ps zs → PuB x) :
    Calls Try.prog 99 #[cgV h p r s, .slice a n cap] w fun e w' => e = .returned (.bool (offB hs ps sks zs)) ∧ Below w.heap.size w w' := by
  obtain ⟨a0, cap0, rfl, hl0, _⟩ := hh.form
  obtain ⟨a1, cap1, rfl, hl1, _⟩ := hp.form
  obtain ⟨a2, cap2, rfl, hl2, _⟩ := SlAny.form hk
  have HH := Lib.hid hh
  have HP := Lib.hid hp
  have HK := Lib.hid hk
  have HZ := Lib.hid (show SlI w (.slice a zs.length cap) zs by rw [hn]; exact hz)
  have HZn := Lib.hid hn
  have HZb := Lib.hid hb
  have HSc := Lib.hid hsc
  have HPb := Lib.hid hpb
  clear hh hp hk hz hn hb hsc hpb
  have hmk := make_puts n (by omega)
  go_enter Try.func99, Try.ntmps99
  go_wp2_with fail
  obtain ⟨W, hW⟩ : ∃ W, ((w.alloc (.cells #[.slice a0 hs.length cap0, .slice a1 ps.length cap1, r, .slice a2 sks.length cap2] 149)).alloc (.cells (zeros (n * 2)) 89)).alloc (.cells #[.slice (some ⟨w.heap.size + 1, 0, none⟩) n n] 42) = W := ⟨_, rfl⟩
  have hM := MadeTo.start (w.alloc (.cells #[.slice a0 hs.length cap0, .slice a1 ps.length cap1, r, .slice a2 sks.length cap2] 149)) n (putS hs ps zs)
  rw [World.size_alloc] at hM
  have HO := Lib.hid (show OfI W w.heap.size (.slice a0 hs.length cap0) (.slice a1 ps.length cap1) r (.slice a2 sks.length cap2) (w.heap.size + 1 + 1) (w.heap.size + 1) n 0 (putS hs ps zs) by
    subst hW
    exact ⟨⟨by go_cell, by go_cell, by go_cell, by go_cell⟩, by go_cell, hM.later ((Below.refl _ _).alloc (Nat.le_refl _) _)⟩)
  have hBW : Below w.heap.size w W := by subst hW; go_grown
  clear hM hmk
  have hwW : w.heap.size + 1 + 1 < W.heap.size := World.block_lt_of_cell? _ _ HO.out.bx
  rw [hW]
  clear hW
  go_loopw [13] (fun v13 wr => OfHead w.heap.size (.slice a0 hs.length cap0) (.slice a1 ps.length cap1) r (.slice a2 sks.length cap2) (w.heap.size + 1 + 1) (w.heap.size + 1) n (putS hs ps zs) w wr v13) (fun v13 _ => n - (intOf v13).toNat)
  case atStart => exact ⟨0, by omega, rfl, HO.out, hBW⟩
  case round =>
    obtain ⟨k, hk, rfl, ho, hbr⟩ := hrel
    have HOr := Lib.hid ho
    clear ho HO hBW hwW W
    have hk0 : (0 : Int) ≤ (k : Int) := by omega
    by_cases hlt : k < n
    rotate_left 1
    · have hlt' : ¬ (k : Int) < (n : Int) := by omega
      obtain rfl : k = n := by omega
      have HMd := Lib.hid (HOr.out.made.range (by omega))
      have HD := Lib.hid (show offB hs ps sks zs = !(sks.all (keepB ((List.range k).map (putS hs ps zs)))) by unfold offB putsS; rw [HZn.out])
      have HPb2 := Lib.hid (show ∀ x, x ∈ (List.range k).map (putS hs ps zs) → PuB x by have := HPb.out; unfold putsS at this; rw [HZn.out] at this; exact this)
      obtain ⟨c0, c1, c2, c3⟩ := HOr.out.cg
      have hbx := HOr.out.bx
      have hmf := makeFunc_run
      go_wp2_with fail
      refine (allSk_any (w.heap.size + 1 + 1) _ _ ((List.range k).map (putS hs ps zs)) sks _ hbx HMd.out (by simp; omega) HPb2.out (skLater HK.out hbr) HSc.out).mono ?_
      rintro e w1 ⟨rfl, hb1⟩
      have hB1 := two hbr hb1
      clear hb1
      obtain ⟨t, ht⟩ : ∃ t, sks.all (keepB ((List.range k).map (putS hs ps zs))) = t := ⟨_, rfl⟩
      rw [ht]
      have HT := Lib.hid ht
      clear ht c0 c1 c2 c3 hbx
      go_wp2_with fail
      go_returns
      exact ⟨ret_bool (by rw [HD.out, HT.out]), hB1⟩
    have hlt' : (k : Int) < (n : Int) := by omega
    obtain ⟨g, o, z, rfl, hg, hzk, hatz⟩ := HZ.out.at (show k < zs.length by rw [HZn.out]; omega)
    obtain ⟨z0, z1⟩ := HZb.out z (List.mem_of_getElem? hzk)
    obtain ⟨zi, rfl⟩ : ∃ zi : Nat, z = (zi : Int) := ⟨z.toNat, by omega⟩
    obtain ⟨gh, oh, ph, rfl, hgh, hph, hath⟩ := HH.out.at (show zi < hs.length by omega)
    obtain ⟨gp, op, pk, rfl, hgp, hpk, hatp⟩ := HP.out.at (show k < ps.length by omega)
    have hF := Lib.hid (show putS hs ps zs k = ⟨ph.p, pk.p⟩ by
      unfold putS
      simp [List.getD_eq_getElem?_getD, hzk, hph, hpk])
    have e0 : wr.cell? ⟨g, o + k, none⟩ = some (.int .i64 (zi : Int)) := by have := IntAt.later hatz hbr; unfold IntAt at this; rw [Nat.mul_one] at this; exact this
    have HPh := Lib.hid (PuAt.later hath hbr)
    have HPk := Lib.hid (PuAt.later hatp hbr)
    have hlp : (k : Int) < (ps.length : Int) := by omega
    have hzn : ((zi : Int).toNat) = zi := by omega
    have hsr := hbr.size
    have HFacts := Lib.hid (show k * 2 < n * 2 ∧ k * 2 + 1 < n * 2 ∧ w.heap.size ≠ w.heap.size + 1 ∧ w.heap.size + 1 + 1 ≠ w.heap.size + 1 ∧ w.heap.size ≤ w.heap.size + 1 from ⟨by omega, by omega, by omega, by omega, by omega⟩)
    obtain ⟨y0, e0r⟩ := HOr.out.made.old (k * 2) HFacts.out.1
    obtain ⟨y1, e1r⟩ := HOr.out.made.old (k * 2 + 1) HFacts.out.2.1
    have HY0 := Lib.hid e0r
    have HY1 := Lib.hid e1r
    clear e0r e1r hzk hatz hph hath hpk hatp
    go_wp2_with fail
    clear e0
    have hA : Below wr.heap.size wr wr.drew := below_drewN (Below.refl _ _) 1
    refine AnyV.start (Two 16 (fun w' => Below wr.heap.size wr w') 16 (fun _ => True)) 17 #[false, false, false, false, false, false, false, false, false, false, false, false, false, false, false, false, false] (by kernel_rfl) (by kernel_rfl) (by kernel_rfl) (fun _ => ⟨fun _ => hA, fun _ => trivial⟩) (fun _ => ?_)
    generalize World.drew wr = wd at hA ⊢
    refine AnyV.take 16 17 (i := 0) (oi := _) (v := ?_) rfl (by kernel_rfl) (by kernel_rfl) (by kernel_rfl) (by kernel_rfl) (by kernel_rfl) (fun _ _ _ h => h) (Two.other (by decide)) (Or.inl ⟨by kernel_rfl, ?_⟩) (Two.till (fun _ => hA) (fun _ => trivial)) (fun _ => ?_)
    rotate_left 1
    · intro wz hSw'; have hSw := hSw'.1 rfl; clear hSw'; have q0 := cell_later hSw HOr.out.bx; go_simp; try with_reducible rfl
    try simp only [Act.put, List.setIfInBounds_toArray, List.set_cons_zero, List.set_cons_succ]
    refine AnyV.take 16 17 (i := 1) (oi := _) (v := ?_) rfl (by kernel_rfl) (by kernel_rfl) (by kernel_rfl) (by kernel_rfl) (by kernel_rfl) (fun _ _ _ h => h) (Two.other (by decide)) (Or.inl ⟨by kernel_rfl, ?_⟩) (Two.till (fun _ => hA) (fun _ => trivial)) (fun _ => ?_)
    rotate_left 1
    · intro wz hSw'; have hSw := hSw'.1 rfl; clear hSw'; skip; go_simp; try with_reducible rfl
    try simp only [Act.put, List.setIfInBounds_toArray, List.set_cons_zero, List.set_cons_succ]
    refine AnyV.take 16 17 (i := 2) (oi := _) (v := ?_) rfl (by kernel_rfl) (by kernel_rfl) (by kernel_rfl) (by kernel_rfl) (by kernel_rfl) (fun _ _ _ h => h) (Two.other (by decide)) (Or.inl ⟨by kernel_rfl, ?_⟩) (Two.till (fun _ => hA) (fun _ => trivial)) (fun _ => ?_)
    rotate_left 1
    · intro wz hSw'; have hSw := hSw'.1 rfl; clear hSw'; skip; go_simp; try with_reducible rfl
    try simp only [Act.put, List.setIfInBounds_toArray, List.set_cons_zero, List.set_cons_succ]
    refine AnyV.take 16 17 (i := 3) (oi := _) (v := ?_) rfl (by kernel_rfl) (by kernel_rfl) (by kernel_rfl) (by kernel_rfl) (by kernel_rfl) (fun _ _ _ h => h) (Two.other (by decide)) (Or.inl ⟨by kernel_rfl, ?_⟩) (Two.till (fun _ => hA) (fun _ => trivial)) (fun _ => ?_)
    rotate_left 1
    · intro wz hSw'; have hSw := hSw'.1 rfl; clear hSw'; have q0 := (HOr.out.cg.later hSw).c0; go_simp; try with_reducible rfl
    try simp only [Act.put, List.setIfInBounds_toArray, List.set_cons_zero, List.set_cons_succ]
    refine AnyV.take 16 17 (i := 4) (oi := _) (v := ?_) rfl (by kernel_rfl) (by kernel_rfl) (by kernel_rfl) (by kernel_rfl) (by kernel_rfl) (fun _ _ _ h => h) (Two.other (by decide)) (Or.inl ⟨by kernel_rfl, ?_⟩) (Two.till (fun _ => hA) (fun _ => trivial)) (fun _ => ?_)
    rotate_left 1
    · intro wz hSw'; have hSw := hSw'.1 rfl; clear hSw'; skip; go_simp; try with_reducible rfl
    try simp only [Act.put, List.setIfInBounds_toArray, List.set_cons_zero, List.set_cons_succ]
    refine AnyV.take 16 17 (i := 5) (oi := _) (v := ?_) rfl (by kernel_rfl) (by kernel_rfl) (by kernel_rfl) (by kernel_rfl) (by kernel_rfl) (fun _ _ _ h => h) (Two.other (by decide)) (Or.inl ⟨by kernel_rfl, ?_⟩) (Two.till (fun _ => hA) (fun _ => trivial)) (fun _ => ?_)
    rotate_left 1
    · intro wz hSw'; have hSw := hSw'.1 rfl; clear hSw'; skip; go_simp; try with_reducible rfl
    try simp only [Act.put, List.setIfInBounds_toArray, List.set_cons_zero, List.set_cons_succ]
    refine AnyV.take 16 17 (i := 6) (oi := _) (v := ?_) rfl (by kernel_rfl) (by kernel_rfl) (by kernel_rfl) (by kernel_rfl) (by kernel_rfl) (fun _ _ _ h => h) (Two.other (by decide)) (Or.inl ⟨by kernel_rfl, ?_⟩) (Two.till (fun _ => hA) (fun _ => trivial)) (fun _ => ?_)
    rotate_left 1
    · intro wz hSw'; have hSw := hSw'.1 rfl; clear hSw'; skip; go_simp; try with_reducible rfl
    try simp only [Act.put, List.setIfInBounds_toArray, List.set_cons_zero, List.set_cons_succ]
    refine AnyV.take 16 17 (i := 7) (oi := _) (v := ?_) rfl (by kernel_rfl) (by kernel_rfl) (by kernel_rfl) (by kernel_rfl) (by kernel_rfl) (fun _ _ _ h => h) (Two.other (by decide)) (Or.inl ⟨by kernel_rfl, ?_⟩) (Two.till (fun _ => hA) (fun _ => trivial)) (fun _ => ?_)
    rotate_left 1
    · intro wz hSw'; have hSw := hSw'.1 rfl; clear hSw'; have q0 := (PuAt.later HPh.out hSw).c0; go_simp; try with_reducible rfl
    try simp only [Act.put, List.setIfInBounds_toArray, List.set_cons_zero, List.set_cons_succ]
    refine AnyV.take 16 17 (i := 8) (oi := _) (v := ?_) rfl (by kernel_rfl) (by kernel_rfl) (by kernel_rfl) (by kernel_rfl) (by kernel_rfl) (fun _ _ _ h => h) (Two.other (by decide)) (Or.inl ⟨by kernel_rfl, ?_⟩) (Two.till (fun _ => hA) (fun _ => trivial)) (fun _ => ?_)
    rotate_left 1
    · intro wz hSw'; have hSw := hSw'.1 rfl; clear hSw'; skip; go_simp; try with_reducible rfl
    try simp only [Act.put, List.setIfInBounds_toArray, List.set_cons_zero, List.set_cons_succ]
    refine AnyV.take 16 17 (i := 9) (oi := _) (v := ?_) rfl (by kernel_rfl) (by kernel_rfl) (by kernel_rfl) (by kernel_rfl) (by kernel_rfl) (fun _ _ _ h => h) (Two.other (by decide)) (Or.inl ⟨by kernel_rfl, ?_⟩) (Two.till (fun _ => hA) (fun _ => trivial)) (fun _ => ?_)
    rotate_left 1
    · intro wz hSw'; have hSw := hSw'.1 rfl; clear hSw'; have q0 := (HOr.out.cg.later hSw).c1; go_simp; try with_reducible rfl
    try simp only [Act.put, List.setIfInBounds_toArray, List.set_cons_zero, List.set_cons_succ]
    refine AnyV.take 16 17 (i := 10) (oi := _) (v := ?_) rfl (by kernel_rfl) (by kernel_rfl) (by kernel_rfl) (by kernel_rfl) (by kernel_rfl) (fun _ _ _ h => h) (Two.other (by decide)) (Or.inl ⟨by kernel_rfl, ?_⟩) (Two.till (fun _ => hA) (fun _ => trivial)) (fun _ => ?_)
    rotate_left 1
    · intro wz hSw'; have hSw := hSw'.1 rfl; clear hSw'; skip; go_simp; try with_reducible rfl
    try simp only [Act.put, List.setIfInBounds_toArray, List.set_cons_zero, List.set_cons_succ]
    refine AnyV.take 16 17 (i := 11) (oi := _) (v := ?_) rfl (by kernel_rfl) (by kernel_rfl) (by kernel_rfl) (by kernel_rfl) (by kernel_rfl) (fun _ _ _ h => h) (Two.other (by decide)) (Or.inl ⟨by kernel_rfl, ?_⟩) (Two.till (fun _ => hA) (fun _ => trivial)) (fun _ => ?_)
    rotate_left 1
    · intro wz hSw'; have hSw := hSw'.1 rfl; clear hSw'; skip; go_simp; try with_reducible rfl
    try simp only [Act.put, List.setIfInBounds_toArray, List.set_cons_zero, List.set_cons_succ]
    refine AnyV.take 16 17 (i := 12) (oi := _) (v := ?_) rfl (by kernel_rfl) (by kernel_rfl) (by kernel_rfl) (by kernel_rfl) (by kernel_rfl) (fun _ _ _ h => h) (Two.other (by decide)) (Or.inl ⟨by kernel_rfl, ?_⟩) (Two.till (fun _ => hA) (fun _ => trivial)) (fun _ => ?_)
    rotate_left 1
    · intro wz hSw'; have hSw := hSw'.1 rfl; clear hSw'; skip; go_simp; try with_reducible rfl
    try simp only [Act.put, List.setIfInBounds_toArray, List.set_cons_zero, List.set_cons_succ]
    refine AnyV.take 16 17 (i := 13) (oi := _) (v := ?_) rfl (by kernel_rfl) (by kernel_rfl) (by kernel_rfl) (by kernel_rfl) (by kernel_rfl) (fun _ _ _ h => h) (Two.other (by decide)) (Or.inl ⟨by kernel_rfl, ?_⟩) (Two.till (fun _ => hA) (fun _ => trivial)) (fun _ => ?_)
    rotate_left 1
    · intro wz hSw'; have hSw := hSw'.1 rfl; clear hSw'; have q0 := (PuAt.later HPk.out hSw).c0; go_simp; try with_reducible rfl
    try simp only [Act.put, List.setIfInBounds_toArray, List.set_cons_zero, List.set_cons_succ]
    refine AnyV.take 16 17 (i := 14) (oi := _) (v := ?_) rfl (by kernel_rfl) (by kernel_rfl) (by kernel_rfl) (by kernel_rfl) (by kernel_rfl) (fun _ _ _ h => h) (Two.other (by decide)) (Or.inl ⟨by kernel_rfl, ?_⟩) (Two.till (fun _ => hA) (fun _ => trivial)) (fun _ => ?_)
    rotate_left 1
    · intro wz hSw'; have hSw := hSw'.1 rfl; clear hSw'; skip; go_simp; try with_reducible rfl
    try simp only [Act.put, List.setIfInBounds_toArray, List.set_cons_zero, List.set_cons_succ]
    refine AnyV.take 16 17 (i := 15) (oi := _) (v := ?_) rfl (by kernel_rfl) (by kernel_rfl) (by kernel_rfl) (by kernel_rfl) (by kernel_rfl) (fun _ _ _ h => h) (Two.other (by decide)) (Or.inl ⟨by kernel_rfl, ?_⟩) (Two.till (fun _ => hA) (fun _ => trivial)) (fun _ => ?_)
    rotate_left 1
    · intro wz hSw'; have hSw := hSw'.1 rfl; clear hSw'; skip; go_simp; try with_reducible rfl
    try simp only [Act.put, List.setIfInBounds_toArray, List.set_cons_zero, List.set_cons_succ]
    have HOd := Lib.hid (HOr.out.later hA)
    have hBd := two hbr hA
    have f0 := HOd.out.made.fz (k * 2)
    have f1 := HOd.out.made.fz (k * 2 + 1)
    have e0 := cell_later hA HY0.out
    have e1 := cell_later hA HY1.out
    have HN := Lib.hid (HOd.out.store HFacts.out.2.2.1 HFacts.out.2.2.2.1 hlt ⟨ph.p, pk.p⟩ hF.out)
    have HBn := Lib.hid ((hBd.setCell (p := ⟨w.heap.size + 1, k * 2, none⟩) HFacts.out.2.2.2.2 (.int .i64 ph.p)).setCell (p := ⟨w.heap.size + 1, k * 2 + 1, none⟩) HFacts.out.2.2.2.2 (.int .i64 pk.p))
    refine AnyV.one (i := 16) (o := _) rfl (by kernel_rfl) (fun K hK => ?_)
    go_simp
    refine hK.out _ _ (Two.till (fun h => absurd h (by decide)) (fun _ => trivial)) ?_
    clear hK K
    refine AnyV.done (by kernel_rfl) ?_
    try simp only [Act.put, List.setIfInBounds_toArray, List.set_cons_zero, List.set_cons_succ]
    clear f0 f1 e0 e1
    go_wp2_with fail
    go_roundw
    case rel => exact ⟨k + 1, by omega, by go_num, HN.out, HBn.out⟩
    case measure => simp [intOf]; omega
end Go.Proofs.Ytldnpnplgfkebaa
