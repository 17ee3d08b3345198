/- Layer 4: the examples that every outright law calls. -/
import Derived.Test.YtldnpnplgfkebaaTStow
import Derived.Test.YtldnpnplgfkebaaTStr
import Derived.Test.YtldnpnplgfkebaaTDrop1
import Derived.Test.YtldnpnplgfkebaaTSame
namespace Go.Proofs.Ytldnpnplgfkebaa
open Go.RowKit

def exL : List Ld := [⟨-10, -10, 100, 100⟩, ⟨10, 10, -120, -90⟩]
def exH : List Pu := [⟨-30, 10⟩, ⟨30, 10⟩]
def exP : List Pu := [⟨6, 1⟩, ⟨5, 2⟩, ⟨4, 1⟩]
def exR : List Li := [⟨1, 1, 1⟩]
def exM : List Li := [⟨0, -1, 2200⟩, ⟨1, 0, 5⟩]
def exB : List Pu := [⟨0, 6⟩, ⟨20, 3⟩]
def exT : List Li := [⟨1, 0, 14⟩]
set_option maxHeartbeats 1000000 in
theorem one_any (n : Int) (w : World) : Calls Try.prog 49 #[.int .i64 n] w fun e w' => e = .returned (sp n n) ∧ Below w.heap.size w w' := by
  go_enter Try.func49, Try.ntmps49
  go_wp2_with fail
  refine bodyPost_ret (v := sp n n) (by simp [results, Try.results49, go_sem, *]) rfl ⟨rfl, by go_grown⟩
set_option maxHeartbeats 2000000 in
theorem exLoads_any (w : World) : Calls Try.prog 100 #[] w fun e w' => ∃ v, e = .returned v ∧ SlLd w' v exL ∧ Below w.heap.size w w' := by
  go_enter Try.func100, Try.ntmps100
  go_wp2_with fail
  refine (one_any (-10) _).mono ?_
  rintro e w1 ⟨rfl, hb1⟩
  go_wp2_with fail
  refine (one_any 100 _).mono ?_
  rintro e w2 ⟨rfl, hb2⟩
  have hB2 := two hb1 hb2
  clear hb1 hb2
  go_wp2_with fail
  refine (one_any 10 _).mono ?_
  rintro e w3 ⟨rfl, hb3⟩
  have hB3 := two hB2 hb3
  clear hB2 hb3
  have hsz := hB3.size
  go_wp2_with fail
  go_returns
  refine ⟨_, rfl, .inr ⟨w3.heap.size, 0, 2, rfl, by simp [exL], by simp [exL], by simp, fun i c e => ?_⟩, by go_grown⟩
  rcases i with _ | _ | i
  · simp [exL] at e
    subst e
    exact ⟨by go_cell, by go_cell, by go_cell, by go_cell⟩
  · simp [exL] at e
    subst e
    exact ⟨by go_cell, by go_cell, by go_cell, by go_cell⟩
  · simp [exL] at e
set_option maxHeartbeats 2000000 in
theorem exHolds_any (w : World) : Calls Try.prog 101 #[] w fun e w' => ∃ v, e = .returned v ∧ SlPu w' v exH ∧ Below w.heap.size w w' := by
  go_enter Try.func101, Try.ntmps101
  go_wp2_with fail
  go_returns
  refine ⟨_, rfl, .inr ⟨w.heap.size, 0, 2, rfl, by simp [exH], by simp [exH], by simp, fun i c e => ?_⟩, by go_grown⟩
  rcases i with _ | _ | i
  · simp [exH] at e
    subst e
    exact ⟨by go_cell, by go_cell⟩
  · simp [exH] at e
    subst e
    exact ⟨by go_cell, by go_cell⟩
  · simp [exH] at e
set_option maxHeartbeats 2000000 in
theorem exParcels_any (w : World) : Calls Try.prog 102 #[] w fun e w' => ∃ v, e = .returned v ∧ SlPu w' v exP ∧ Below w.heap.size w w' := by
  go_enter Try.func102, Try.ntmps102
  go_wp2_with fail
  go_returns
  refine ⟨_, rfl, .inr ⟨w.heap.size, 0, 3, rfl, by simp [exP], by simp [exP], by simp, fun i c e => ?_⟩, by go_grown⟩
  rcases i with _ | _ | _ | i
  · simp [exP] at e
    subst e
    exact ⟨by go_cell, by go_cell⟩
  · simp [exP] at e
    subst e
    exact ⟨by go_cell, by go_cell⟩
  · simp [exP] at e
    subst e
    exact ⟨by go_cell, by go_cell⟩
  · simp [exP] at e
theorem ex_balance : heavyS exL = (-20, 10) ∧ momentS exL = (-2200, -1900) ∧ loadsN exL = 0 := by decide +kernel
theorem ex_breach : bothN exL exM = 0 ∧ brk exL 0 exM = 1 := by decide +kernel
theorem ex_shear : shearE exL 11 = (-20, 10) ∧ placeN exL 11 = 0 := by decide +kernel
set_option maxRecDepth 100000 in
theorem ex_drop : dropN exL exB exT = 0 ∧ dropL exL exB exT = [0] := by decide +kernel
set_option maxRecDepth 100000 in
theorem ex_stow : stowN [] exH exP exR [] = 0 ∧ stowL [] exH exP exR [] = [0, 1, 1] := by decide +kernel
end Go.Proofs.Ytldnpnplgfkebaa
/- Layer 4: alive, which every outright law calls, is true. -/
namespace Go.Proofs.Ytldnpnplgfkebaa
open Go.RowKit

theorem exM_sl (w : World) : SlLi (w.alloc (.cells #[.int .i64 0, .int .i64 (-1), .int .i64 2200, .int .i64 1, .int .i64 0, .int .i64 5] 35)) (.slice (some ⟨w.heap.size, 0, none⟩) 2 2) [⟨0, -1, 2200⟩, ⟨1, 0, 5⟩] := by
  refine .inr ⟨w.heap.size, 0, 2, rfl, by simp, by simp, by simp, fun i c e => ?_⟩
  rcases i with _ | _ | i
  · simp at e
    subst e
    exact ⟨by go_cell, by go_cell, by go_cell⟩
  · simp at e
    subst e
    exact ⟨by go_cell, by go_cell, by go_cell⟩
  · simp at e
theorem exB_sl (w : World) : SlPu (w.alloc (.cells #[.int .i64 0, .int .i64 6, .int .i64 20, .int .i64 3] 89)) (.slice (some ⟨w.heap.size, 0, none⟩) 2 2) [⟨0, 6⟩, ⟨20, 3⟩] := by
  refine .inr ⟨w.heap.size, 0, 2, rfl, by simp, by simp, by simp, fun i c e => ?_⟩
  rcases i with _ | _ | i
  · simp at e
    subst e
    exact ⟨by go_cell, by go_cell⟩
  · simp at e
    subst e
    exact ⟨by go_cell, by go_cell⟩
  · simp at e
theorem exT_sl (w : World) : SlLi (w.alloc (.cells #[.int .i64 1, .int .i64 0, .int .i64 14] 35)) (.slice (some ⟨w.heap.size, 0, none⟩) 1 1) [⟨1, 0, 14⟩] := by
  refine .inr ⟨w.heap.size, 0, 1, rfl, by simp, by simp, by simp, fun i c e => ?_⟩
  rcases i with _ | i
  · simp at e
    subst e
    exact ⟨by go_cell, by go_cell, by go_cell⟩
  · simp at e
theorem exR_sl (w : World) : SlLi (w.alloc (.cells #[.int .i64 1, .int .i64 1, .int .i64 1] 157)) (.slice (some ⟨w.heap.size, 0, none⟩) 1 1) [⟨1, 1, 1⟩] := by
  refine .inr ⟨w.heap.size, 0, 1, rfl, by simp, by simp, by simp, fun i c e => ?_⟩
  rcases i with _ | i
  · simp at e
    subst e
    exact ⟨by go_cell, by go_cell, by go_cell⟩
  · simp at e
theorem exW_sl (w : World) : SlPu (w.alloc (.cells #[.int .i64 (-10), .int .i64 100, .int .i64 10, .int .i64 (-90)] 89)) (.slice (some ⟨w.heap.size, 0, none⟩) 2 2) [⟨-10, 100⟩, ⟨10, -90⟩] := by
  refine .inr ⟨w.heap.size, 0, 2, rfl, by simp, by simp, by simp, fun i c e => ?_⟩
  rcases i with _ | _ | i
  · simp at e
    subst e
    exact ⟨by go_cell, by go_cell⟩
  · simp at e
    subst e
    exact ⟨by go_cell, by go_cell⟩
  · simp at e
theorem exI_sl (w : World) : SlI (w.alloc (.cells #[.int .i64 0] 3)) (.slice (some ⟨w.heap.size, 0, none⟩) 1 1) [0] := by
  refine .inr ⟨w.heap.size, 0, 1, rfl, by simp, by simp, by simp, fun i c e => ?_⟩
  rcases i with _ | i
  · simp at e
    subst e
    exact (by unfold IntAt; go_cell)
  · simp at e
theorem exJ_sl (w : World) : SlI (w.alloc (.cells #[.int .i64 0, .int .i64 1, .int .i64 1] 3)) (.slice (some ⟨w.heap.size, 0, none⟩) 3 3) [0, 1, 1] := by
  refine .inr ⟨w.heap.size, 0, 3, rfl, by simp, by simp, by simp, fun i c e => ?_⟩
  rcases i with _ | _ | _ | i
  · simp at e
    subst e
    exact (by unfold IntAt; go_cell)
  · simp at e
    subst e
    exact (by unfold IntAt; go_cell)
  · simp at e
    subst e
    exact (by unfold IntAt; go_cell)
  · simp at e
theorem breach_ex (v u : Value) (w : World) (hv : SlLd w v exL) (hu : SlLi w u exM) : Calls Try.prog 28 #[v, u] w fun e w' => ∃ a c, e = .returned (.tuple #[brV 1 (.slice a 2 c), .int .i64 0]) ∧ SlPu w' (.slice a 2 c) [⟨-10, 100⟩, ⟨10, -90⟩] ∧ Below w.heap.size w w' := by
  refine (breach_any v u exL exM w hv hu).mono ?_
  rintro e w1 (⟨h, _⟩ | ⟨_, h, _⟩ | ⟨_, k, x, y, hx, hk, rfl, hy, hb⟩)
  · exact absurd ex_breach.1 h
  · rw [ex_breach.2] at h
    cases h
  · rw [ex_breach.2] at hk
    obtain rfl : k = 1 := by omega
    obtain rfl : x = ⟨1, 0, 5⟩ := by simpa [exM] using hx.symm
    have hm : exL.map (worstP 1 0) = [⟨-10, 100⟩, ⟨10, -90⟩] := by rfl
    rw [hm] at hy
    obtain ⟨a, c, rfl, _, _⟩ := hy.form
    exact ⟨a, c, rfl, hy, hb⟩
set_option linter.unusedSimpArgs false in
set_option maxRecDepth 100000 in
set_option maxHeartbeats 8000000 in
theorem alive_any (w : World) : Calls Try.prog 45 #[] w fun e w' => e = .returned (.bool true) ∧ Below w.heap.size w w' := by
  go_enter Try.func45, Try.ntmps45
  go_wp2_with fail
  refine (exLoads_any _).mono ?_
  rintro e w1 ⟨v1, rfl, hv1, hb1⟩
  go_wp2_with fail
  refine (balance_any v1 exL _ hv1).mono ?_
  rintro e w2 ⟨rfl, hb2⟩
  rw [ex_balance.1, ex_balance.2.1, ex_balance.2.2]
  have hB2 := two hb1 hb2
  clear hb1 hb2 hv1
  go_wp2_with fail
  obtain ⟨W3, hW3⟩ : ∃ W, (w2.alloc (.cells #[.int .i64 (-20), .int .i64 10] 37)).alloc (.cells #[.int .i64 (-2200), .int .i64 (-1900)] 37) = W := ⟨_, rfl⟩
  have K1 := Lib.hid (show Two2 W3 w2.heap.size (-20) 10 by subst hW3; exact ⟨by go_cell, by go_cell⟩)
  have K2 := Lib.hid (show Two2 W3 (w2.heap.size + 1) (-2200) (-1900) by subst hW3; exact ⟨by go_cell, by go_cell⟩)
  have hB3 : Below w.heap.size w W3 := by
    have h9 : Below w2.heap.size w2 W3 := by subst hW3; go_grown
    exact two hB2 h9
  have hz3 : w2.heap.size + 1 < W3.heap.size := K2.out.lt
  rw [hW3]
  clear hW3 hB2
  generalize w2.heap.size = b1 at *
  refine (exLoads_any _).mono ?_
  rintro e w4 ⟨v4, rfl, hv4, hb4⟩
  have hB4 := two hB3 hb4
  replace K1 := Lib.hid (K1.out.later hb4)
  replace K2 := Lib.hid (K2.out.later hb4)
  have hz4 := hb4.size
  clear hb4 hB3
  go_wp2_with fail
  have hbM := (Below.refl w4.heap.size w4).alloc (Nat.le_refl _) (.cells #[.int .i64 0, .int .i64 (-1), .int .i64 2200, .int .i64 1, .int .i64 0, .int .i64 5] 35)
  refine (breach_ex _ _ _ (ldLater hv4 hbM) (exM_sl w4)).mono ?_
  rintro e w5 ⟨ua, uc, rfl, hu5, hb5⟩
  replace hb5 := two hbM hb5
  have hB5 := two hB4 hb5
  replace K1 := Lib.hid (K1.out.later hb5)
  replace K2 := Lib.hid (K2.out.later hb5)
  have HU := Lib.hid hu5
  clear hb5 hbM hv4 hB4 hu5
  go_wp2_with fail
  have hb6 := (Below.refl w5.heap.size w5).alloc (Nat.le_refl _) (.cells #[.int .i64 1, .slice ua 2 uc] 51)
  obtain ⟨W6, hW6⟩ : ∃ W, w5.alloc (.cells #[.int .i64 1, .slice ua 2 uc] 51) = W := ⟨_, rfl⟩
  have K4 := Lib.hid (show BoxV W6 w5.heap.size (.int .i64 1) (.slice ua 2 uc) by subst hW6; exact ⟨by go_cell, by go_cell, by go_cell, by go_cell⟩)
  rw [hW6] at hb6 ⊢
  clear hW6
  have hB6 := two hB5 hb6
  replace K1 := Lib.hid (K1.out.later hb6)
  replace K2 := Lib.hid (K2.out.later hb6)
  replace HU := Lib.hid (puLater HU.out hb6)
  clear hb6 hB5
  generalize w5.heap.size = b4 at *
  refine (exLoads_any _).mono ?_
  rintro e w7 ⟨v7, rfl, hv7, hb7⟩
  have hB7 := two hB6 hb7
  replace K1 := Lib.hid (K1.out.later hb7)
  replace K2 := Lib.hid (K2.out.later hb7)
  replace K4 := Lib.hid (K4.out.later hb7)
  replace HU := Lib.hid (puLater HU.out hb7)
  clear hb7 hB6
  go_wp2_with fail
  refine (shearOf_any v7 exL 11 _ hv7).mono ?_
  rintro e w8 ⟨rfl, hb8⟩
  rw [ex_shear.1, ex_shear.2]
  have hB8 := two hB7 hb8
  replace K1 := Lib.hid (K1.out.later hb8)
  replace K2 := Lib.hid (K2.out.later hb8)
  replace K4 := Lib.hid (K4.out.later hb8)
  replace HU := Lib.hid (puLater HU.out hb8)
  clear hb8 hB7 hv7
  go_wp2_with fail
  have hb9 := (Below.refl w8.heap.size w8).alloc (Nat.le_refl _) (.cells #[.int .i64 (-20), .int .i64 10] 37)
  obtain ⟨W9, hW9⟩ : ∃ W, w8.alloc (.cells #[.int .i64 (-20), .int .i64 10] 37) = W := ⟨_, rfl⟩
  have K6 := Lib.hid (show Two2 W9 w8.heap.size (-20) 10 by subst hW9; exact ⟨by go_cell, by go_cell⟩)
  rw [hW9] at hb9 ⊢
  clear hW9
  have hB9 := two hB8 hb9
  replace K1 := Lib.hid (K1.out.later hb9)
  replace K2 := Lib.hid (K2.out.later hb9)
  replace K4 := Lib.hid (K4.out.later hb9)
  replace HU := Lib.hid (puLater HU.out hb9)
  clear hb9 hB8
  generalize w8.heap.size = b6 at *
  refine (exLoads_any _).mono ?_
  rintro e w10 ⟨v10, rfl, hv10, hb10⟩
  have hB10 := two hB9 hb10
  replace K1 := Lib.hid (K1.out.later hb10)
  replace K2 := Lib.hid (K2.out.later hb10)
  replace K4 := Lib.hid (K4.out.later hb10)
  replace K6 := Lib.hid (K6.out.later hb10)
  replace HU := Lib.hid (puLater HU.out hb10)
  clear hb10 hB9
  go_wp2_with fail
  have hbB := (Below.refl w10.heap.size w10).alloc (Nat.le_refl _) (.cells #[.int .i64 0, .int .i64 6, .int .i64 20, .int .i64 3] 89)
  have hsB := exB_sl w10
  obtain ⟨D1, hD1⟩ : ∃ W, w10.alloc (.cells #[.int .i64 0, .int .i64 6, .int .i64 20, .int .i64 3] 89) = W := ⟨_, rfl⟩
  have hz1 : D1.heap.size = w10.heap.size + 1 := by subst hD1; simp
  rw [hD1] at hbB hsB ⊢
  clear hD1
  have hbT := (Below.refl D1.heap.size D1).alloc (Nat.le_refl _) (.cells #[.int .i64 1, .int .i64 0, .int .i64 14] 35)
  have hsT := exT_sl D1
  rw [hz1] at hsT
  refine (drop_one _ _ _ exL exB exT _ (ldLater (ldLater hv10 hbB) hbT) (puLater hsB hbT) hsT).mono ?_
  rintro e w11 ⟨d, rfl, hd, hb11⟩
  rw [ex_drop.1]
  rw [ex_drop.2] at hd
  replace hb11 := two (two hbB hbT) hb11
  have hB11 := two hB10 hb11
  replace K1 := Lib.hid (K1.out.later hb11)
  replace K2 := Lib.hid (K2.out.later hb11)
  replace K4 := Lib.hid (K4.out.later hb11)
  replace K6 := Lib.hid (K6.out.later hb11)
  replace HU := Lib.hid (puLater HU.out hb11)
  have HD := Lib.hid hd
  obtain ⟨da, dc, rfl, _, _⟩ := hd.form
  clear hb11 hbB hbT hsB hsT hv10 hB10 hd hz1
  go_wp2_with fail
  refine (exHolds_any _).mono ?_
  rintro e w12 ⟨vh, rfl, hvh, hb12⟩
  have hB12 := two hB11 hb12
  replace K1 := Lib.hid (K1.out.later hb12)
  replace K2 := Lib.hid (K2.out.later hb12)
  replace K4 := Lib.hid (K4.out.later hb12)
  replace K6 := Lib.hid (K6.out.later hb12)
  replace HU := Lib.hid (puLater HU.out hb12)
  replace HD := Lib.hid (inLater HD.out hb12)
  clear hb12 hB11
  go_wp2_with fail
  refine (exParcels_any _).mono ?_
  rintro e w13 ⟨vp, rfl, hvp, hb13⟩
  have hB13 := two hB12 hb13
  replace hvh := puLater hvh hb13
  replace K1 := Lib.hid (K1.out.later hb13)
  replace K2 := Lib.hid (K2.out.later hb13)
  replace K4 := Lib.hid (K4.out.later hb13)
  replace K6 := Lib.hid (K6.out.later hb13)
  replace HU := Lib.hid (puLater HU.out hb13)
  replace HD := Lib.hid (inLater HD.out hb13)
  clear hb13 hB12
  go_wp2_with fail
  have hbR := (Below.refl w13.heap.size w13).alloc (Nat.le_refl _) (.cells #[.int .i64 1, .int .i64 1, .int .i64 1] 157)
  refine (stow_any _ vh vp _ _ [] exH exP exR [] _ (.inl ⟨rfl, rfl⟩) (puLater hvh hbR) (puLater hvp hbR) (exR_sl w13) (.inl ⟨rfl, rfl⟩)).mono ?_
  rintro e w14 ⟨t, rfl, ht, hb14⟩
  rw [ex_stow.1]
  rw [ex_stow.2] at ht
  replace hb14 := two hbR hb14
  have hB14 := two hB13 hb14
  replace K1 := Lib.hid (K1.out.later hb14)
  replace K2 := Lib.hid (K2.out.later hb14)
  replace K4 := Lib.hid (K4.out.later hb14)
  replace K6 := Lib.hid (K6.out.later hb14)
  replace HU := Lib.hid (puLater HU.out hb14)
  replace HD := Lib.hid (inLater HD.out hb14)
  have HT := Lib.hid ht
  obtain ⟨ta, tc, rfl, _, _⟩ := ht.form
  clear hb14 hbR hvh hvp hB13 ht
  obtain ⟨p0, p1⟩ := K1.out
  obtain ⟨q0, q1⟩ := K2.out
  obtain ⟨r0, r1, _, _⟩ := K4.out
  obtain ⟨s0, s1⟩ := K6.out
  go_wp2_with fail
  have hbW := (Below.refl w14.heap.size w14).alloc (Nat.le_refl _) (.cells #[.int .i64 (-10), .int .i64 100, .int .i64 10, .int .i64 (-90)] 89)
  refine (samePuts_eq _ _ [⟨-10, 100⟩, ⟨10, -90⟩] _ (puLater HU.out hbW) (exW_sl w14)).mono ?_
  rintro e w15 ⟨rfl, hb15⟩
  replace hb15 := two hbW hb15
  have hB15 := two hB14 hb15
  clear p0 p1 q0 q1 r0 r1 s0 s1 hbW HU K1 K2 K4
  obtain ⟨s0, s1⟩ := K6.out.later hb15
  replace HD := Lib.hid (inLater HD.out hb15)
  replace HT := Lib.hid (inLater HT.out hb15)
  clear hb15 hB14 K6
  go_wp2_with fail
  have hbI := (Below.refl w15.heap.size w15).alloc (Nat.le_refl _) (.cells #[.int .i64 0] 3)
  refine (sameInts_eq _ _ [0] _ (inLater HD.out hbI) (exI_sl w15)).mono ?_
  rintro e w16 ⟨rfl, hb16⟩
  replace hb16 := two hbI hb16
  have hB16 := two hB15 hb16
  replace HT := Lib.hid (inLater HT.out hb16)
  clear hb16 hB15 hbI s0 s1 HD
  go_wp2_with fail
  have hbJ := (Below.refl w16.heap.size w16).alloc (Nat.le_refl _) (.cells #[.int .i64 0, .int .i64 1, .int .i64 1] 3)
  refine (sameInts_eq _ _ [0, 1, 1] _ (inLater HT.out hbJ) (exJ_sl w16)).mono ?_
  rintro e w17 ⟨rfl, hb17⟩
  have hB17 := two hB16 (two hbJ hb17)
  clear hb17 hbJ
  go_wp2_with fail
  go_returns
  exact ⟨rfl, hB17⟩
end Go.Proofs.Ytldnpnplgfkebaa
