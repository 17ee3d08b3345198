/- TrimBalances: the walk. -/
import Derived.Test.YtmadkefpjoheeaaTRWo2
import Derived.Test.YtmadkefpjoheeaaTRBal2
import Derived.Test.YtmadkefpjoheeaaTRows
import Derived.Test.YtmadkefpjoheeaaTSame
import Derived.Test.YtmadkefpjoheeaaWTCheck
namespace Go.Proofs.Ytmadkefpjoheeaa
open Go.RowKit

set_option maxHeartbeats 1000000 in
theorem trimBalances_great (a0 : Option Addr) (l0 c0 : Nat) (x : Li) (w : World) (hg : 50 < l0) (_h0 : l0 ≤ maxLen) :
    Calls Try.prog 4 #[.slice a0 l0 c0, liV x] w fun e w' => e = .returned (.bool true) ∧ Below w.heap.size w w' := by
  have HG := Lib.hid (great_yes (a := l0) (b := 0) (c := 0) (d := 0) (.inl hg))
  go_enter Try.func4, Try.ntmps4
  go_wp2_with fail
  refine (great_any _ _ _ _ _).mono ?_
  rintro e w1 ⟨rfl, rfl⟩
  rw [show greatB l0 0 0 0 = true from HG.out]
  go_wp2_with fail
  go_returns
  exact ⟨rfl, by go_grown⟩
/-- Behind the copy of the loads. -/
structure OwnL (w wr : World) (v : Value) (ls : List Ld) (x : Li) : Prop where
  sl : SlLd wr v ls
  below : Below w.heap.size w wr
  x : Three wr w.heap.size x.a x.b x.c
theorem OwnL.later {w wr w1 : World} {v : Value} {ls : List Ld} {x : Li} (h : OwnL w wr v ls x) (hb : Below wr.heap.size wr w1) : OwnL w w1 v ls x :=
  ⟨ldLater h.sl hb, h.below.trans (hb.mono h.below.size), h.x.later hb⟩
set_option maxRecDepth 1000000 in
set_option maxHeartbeats 8000000 in
theorem trimBalances_walk (v : Value) (ls : List Ld) (x : Li) (w : World) (hv : SlLd w v ls) (h50 : ls.length ≤ 50) :
    Calls Try.prog 4 #[v, liV x] w fun e w' => e = .returned (.bool true) ∧ Below w.heap.size w w' := by
  obtain ⟨a0, cap0, rfl, hl0, hc0⟩ := hv.form
  have HG := Lib.hid (great_no (a := ls.length) (b := 0) (c := 0) (d := 0) (by omega))
  have HV := Lib.hid hv
  clear hv
  obtain ⟨i0, hi, hz0, hz1, hz2⟩ := info_parts (P := Try.prog) (e := 91) (z := .agg #[.int .i64 0, .int .i64 0, .int .i64 0, .int .i64 0]) (size := 4) (bytes := 32) (by kernel_rfl)
  have HI := Lib.hid hi
  have HZ0 := Lib.hid hz0
  have HZ1 := Lib.hid hz1
  have HZ2 := Lib.hid hz2
  clear hi hz0 hz1 hz2
  go_enter Try.func4, Try.ntmps4
  go_wp2_with fail
  refine (great_any _ _ _ _ _).mono ?_
  rintro e w1 ⟨rfl, rfl⟩
  rw [show greatB ls.length 0 0 0 = false from HG.out]
  go_upto_region 3 with fail
  go_cut [5] from 24 to 82 (fun v5 wr => OwnL w wr v5 ls x)
  case first =>
    have hown := own_none (w.alloc (.cells #[.int .i64 x.a, .int .i64 x.b, .int .i64 x.c] 35)) (w.heap.size + 1) 91 4 (by simp)
    rw [show (w.alloc (.cells #[.int .i64 x.a, .int .i64 x.b, .int .i64 x.c] 35)).heap.size = w.heap.size + 1 by simp] at hown
    have hbW : Below w.heap.size w ((w.alloc (.cells #[.int .i64 x.a, .int .i64 x.b, .int .i64 x.c] 35)).alloc (.cells #[] 91)) := by go_grown
    have hX : Three ((w.alloc (.cells #[.int .i64 x.a, .int .i64 x.b, .int .i64 x.c] 35)).alloc (.cells #[] 91)) w.heap.size x.a x.b x.c := ⟨by go_cell, by go_cell, by go_cell⟩
    rcases HV.out with ⟨hk0, hv⟩ | ⟨b, off, cap', hv, hcap, hmax, hb, hcells⟩
    · subst hk0
      simp at hv
      obtain ⟨rfl, rfl⟩ := hv
      go_wp2_with (at_builtin; refine wpList_append_own_none _ _ 22 rfl (w.heap.size + 1) 91 i0 4 Try.underlying22 HI.out _ _ _ rfl hown rfl ?_)
      go_meet
      case rel => exact ⟨.inr ⟨w.heap.size + 1, 0, 0, rfl, by simp, by simp, by simp, fun i c e => by simp at e⟩, hbW, hX⟩
    · simp at hv
      obtain ⟨rfl, rfl⟩ := hv
      have hcW := (ld_rows hcells).later (show Below w.heap.size w ((w.alloc (.cells #[.int .i64 x.a, .int .i64 x.b, .int .i64 x.c] 35)).alloc (.cells #[] 91)) from hbW)
      go_wp2_with (at_builtin; refine wpList_append_own _ rfl _ _ 22 rfl (w.heap.size + 1) 91 i0 (.agg #[.int .i64 0, .int .i64 0, .int .i64 0, .int .i64 0]) 4 32 Try.underlying22 HI.out HZ0.out HZ1.out HZ2.out rfl (by decide) _ _ _ rfl hown ⟨b, off, none⟩ ls.length cap0 (spR (ls.map Ld.row)) rfl ?c1 ?c2 spR_one ?c3 ?c4 ?c5 ?_)
      case c1 => rw [spR_len _ (ld_len ls), List.length_map]
      case c2 => exact spR_cell hcW (ld_len ls) (by decide)
      case c3 => unfold maxLen; omega
      case c4 => omega
      case c5 => simp
      intro v' w1 hown' hgrow hnil
      have hsz := hgrow.size
      simp at hsz
      have hbl : Below (w.heap.size + 1) ((w.alloc (.cells #[.int .i64 x.a, .int .i64 x.b, .int .i64 x.c] 35)).alloc (.cells #[] 91)) w1 := ⟨hgrow.os, hgrow.tape, hgrow.output, hgrow.size, fun k hk => hgrow.block k (by simp; omega) (by simp [Value.ownBlock]; omega)⟩
      have HO' : Hid (OwnL w w1 v' ls x) := Lib.hid ⟨own_copy (by simpa using hown') (by omega), hbW.trans (hbl.mono (by omega)), ⟨by rw [hbl.cell (p := ⟨w.heap.size, 0, none⟩) (by simp)]; exact hX.c0, by rw [hbl.cell (p := ⟨w.heap.size, 1, none⟩) (by simp)]; exact hX.c1, by rw [hbl.cell (p := ⟨w.heap.size, 2, none⟩) (by simp)]; exact hX.c2⟩⟩
      clear hown' hgrow hnil hown hbW hcW hcells hbl hX
      go_wp2_with fail
      go_meet
      case rel => exact HO'.out
  case rest =>
    have HO := Lib.hid hcut
    clear hcut HI HZ0 HZ1 HZ2
    generalize wc = w0 at *
    obtain ⟨A, hA⟩ : ∃ X, (heavyS ls).1 = X := ⟨_, rfl⟩
    obtain ⟨B, hB⟩ : ∃ X, (heavyS ls).2 = X := ⟨_, rfl⟩
    obtain ⟨C, hC⟩ : ∃ X, (momentS ls).1 = X := ⟨_, rfl⟩
    obtain ⟨D, hD⟩ : ∃ X, (momentS ls).2 = X := ⟨_, rfl⟩
    obtain ⟨n, hn⟩ : ∃ X, loadsN ls = X := ⟨_, rfl⟩
    have HAll : Hid ((heavyS ls).1 = A ∧ (heavyS ls).2 = B ∧ (momentS ls).1 = C ∧ (momentS ls).2 = D ∧ loadsN ls = n) := Lib.hid ⟨hA, hB, hC, hD, hn⟩
    clear hA hB hC hD hn
    go_wp2_with fail
    refine (balance_any _ ls _ HO.out.sl).mono ?_
    rintro e w2 ⟨rfl, hb2⟩
    rw [HAll.out.1, HAll.out.2.1, HAll.out.2.2.1, HAll.out.2.2.2.1, HAll.out.2.2.2.2]
    have HO2 := Lib.hid (HO.out.later hb2)
    clear hb2 HO
    have hs2 := HO2.out.below.size
    go_wp2_with fail
    refine (rbalance_any _ ls _ (ldLater HV.out (by have := HO2.out.below; go_grown))).mono ?_
    rintro e w3 ⟨rfl, hb3⟩
    rw [HAll.out.1, HAll.out.2.1, HAll.out.2.2.1, HAll.out.2.2.2.1, HAll.out.2.2.2.2]
    have hbb3 : Below w2.heap.size w2 w3 := two (by go_grown) hb3
    have HO3 := Lib.hid (HO2.out.later hbb3)
    have S3 := Lib.hid (show Two2 w3 w2.heap.size A B from Two2.later ⟨by go_cell, by go_cell⟩ hb3)
    have T3 := Lib.hid (show Two2 w3 (w2.heap.size + 1) C D from Two2.later ⟨by go_cell, by go_cell⟩ hb3)
    clear hb3 hbb3 HO2 hs2
    have hs3 := HO3.out.below.size
    have hz3 := T3.out.lt
    obtain ⟨x0, x1, x2⟩ := HO3.out.x
    have hz4 := World.block_lt_of_cell? _ _ x0
    go_wp2_with fail
    have hbb : Below w3.heap.size w3 ((w3.alloc (.cells #[.int .i64 A, .int .i64 B] 37)).alloc (.cells #[.int .i64 C, .int .i64 D] 37)) := by go_grown
    refine (worstOf_any _ ls x _ (ldLater HO3.out.sl hbb)).mono ?_
    clear hbb
    intro e w4 hw
    have hb4 : Below ((w3.alloc (.cells #[.int .i64 A, .int .i64 B] 37)).alloc (.cells #[.int .i64 C, .int .i64 D] 37)).heap.size ((w3.alloc (.cells #[.int .i64 A, .int .i64 B] 37)).alloc (.cells #[.int .i64 C, .int .i64 D] 37)) w4 := by
      rcases hw with ⟨_, _, _, _, h⟩ | ⟨_, _, h⟩ <;> exact h
    have hbb4 : Below w3.heap.size w3 w4 := two (by go_grown) hb4
    have HO4 := Lib.hid (HO3.out.later hbb4)
    have S4 := Lib.hid (S3.out.later hbb4)
    have T4 := Lib.hid (T3.out.later hbb4)
    have U4 := Lib.hid (show Two2 w4 w3.heap.size A B from Two2.later ⟨by go_cell, by go_cell⟩ hb4)
    have V4 := Lib.hid (show Two2 w4 (w3.heap.size + 1) C D from Two2.later ⟨by go_cell, by go_cell⟩ hb4)
    clear hb4 hbb4 HO3 S3 T3 x0 x1 x2 hs3 hz4
    have hs4 := HO4.out.below.size
    obtain ⟨x0, x1, x2⟩ := HO4.out.x
    rcases hw with ⟨hok, g, rfl, hg, _⟩ | ⟨hno, rfl, _⟩
    · have HU1 := Lib.hid hg
      have HK := Lib.hid hok
      clear hg hok
      go_wp2_with fail
      refine (rworstOf_any _ ls x _ (ldLater HV.out HO4.out.below)).mono ?_
      rintro e w5 (⟨_, u, rfl, hu, hb5⟩ | ⟨hbad, _⟩)
      rotate_left 1
      · exact absurd HK.out hbad
      have HU2 := Lib.hid hu
      replace HU1 := Lib.hid (puLater HU1.out hb5)
      clear hu
      have HO5 := Lib.hid (HO4.out.later hb5)
      obtain ⟨s0, s1⟩ := S4.out.later hb5
      obtain ⟨t0, t1⟩ := T4.out.later hb5
      obtain ⟨u0, u1⟩ := U4.out.later hb5
      obtain ⟨v0, v1⟩ := V4.out.later hb5
      clear hb5 HO4 S4 T4 U4 V4 x0 x1 x2 hs4
      go_wp2_with fail
      refine (samePuts_eq _ _ _ _ HU1.out HU2.out).mono ?_
      rintro e w6 ⟨rfl, hb6⟩
      have HO6 := Lib.hid (HO5.out.later hb6)
      clear hb6 HO5 s0 s1 t0 t1 u0 u1 v0 v1
      go_wp2_with fail
      refine (kept_eq _ _ ls _ HO6.out.sl (ldLater HV.out HO6.out.below)).mono ?_
      rintro e w7 ⟨rfl, hb7⟩
      have hB7 := (HO6.out.later hb7).below
      clear hb7
      go_wp2_with fail
      go_returns
      exact ⟨rfl, hB7⟩
    · have HK := Lib.hid hno
      have HU1 : Hid (SlPu w4 (.slice none 0 0) []) := Lib.hid (.inl ⟨rfl, rfl⟩)
      obtain ⟨N, hN⟩ : ∃ X, bothN ls [x] = X := ⟨_, rfl⟩
      have HN := Lib.hid hN
      rw [hN]
      clear hno hN
      go_wp2_with fail
      refine (rworstOf_any _ ls x _ (ldLater HV.out HO4.out.below)).mono ?_
      rintro e w5 (⟨hbad, _⟩ | ⟨_, rfl, hb5⟩)
      · exact absurd hbad HK.out
      rw [HN.out]
      replace HU1 := Lib.hid (puLater HU1.out hb5)
      have HU2 : Hid (SlPu w5 (.slice none 0 0) []) := Lib.hid (.inl ⟨rfl, rfl⟩)
      have HO5 := Lib.hid (HO4.out.later hb5)
      obtain ⟨s0, s1⟩ := S4.out.later hb5
      obtain ⟨t0, t1⟩ := T4.out.later hb5
      obtain ⟨u0, u1⟩ := U4.out.later hb5
      obtain ⟨v0, v1⟩ := V4.out.later hb5
      clear hb5 HO4 S4 T4 U4 V4 x0 x1 x2 hs4
      go_wp2_with fail
      refine (samePuts_eq _ _ _ _ HU1.out HU2.out).mono ?_
      rintro e w6 ⟨rfl, hb6⟩
      have HO6 := Lib.hid (HO5.out.later hb6)
      clear hb6 HO5 s0 s1 t0 t1 u0 u1 v0 v1
      go_wp2_with fail
      refine (kept_eq _ _ ls _ HO6.out.sl (ldLater HV.out HO6.out.below)).mono ?_
      rintro e w7 ⟨rfl, hb7⟩
      have hB7 := (HO6.out.later hb7).below
      clear hb7
      go_wp2_with fail
      go_returns
      exact ⟨rfl, hB7⟩
end Go.Proofs.Ytmadkefpjoheeaa
