/- TrimStrains: the walk. -/
import Derived.Test.YtmadkefpjoheeaaTRStrd
import Derived.Test.YtmadkefpjoheeaaTRows
import Derived.Test.YtmadkefpjoheeaaTSame
import Derived.Test.YtmadkefpjoheeaaWTCheck
namespace Go.Proofs.Ytmadkefpjoheeaa
open Go.RowKit

set_option maxHeartbeats 1000000 in
theorem trimStrains_great (a0 : Option Addr) (l0 c0 : Nat) (a1 : Option Addr) (l1 c1 : Nat) (at' : Int) (w : World) (hg : 50 < l0 ∨ 50 < l1) :
    Calls Try.prog 6 #[.slice a0 l0 c0, .slice a1 l1 c1, .int .i64 at'] w fun e w' => e = .returned (.bool true) ∧ Below w.heap.size w w' := by
  have HG := Lib.hid (great_yes (a := l0) (b := 0) (c := l1) (d := 0) (by omega))
  go_enter Try.func6, Try.ntmps6
  go_wp2_with fail
  refine (great_any _ _ _ _ _).mono ?_
  rintro e w1 ⟨rfl, rfl⟩
  rw [show greatB l0 0 l1 0 = true from HG.out]
  go_wp2_with fail
  go_returns
  exact ⟨rfl, by go_grown⟩
/-- Behind the copy of the loads. -/
structure OwnS (w wr : World) (v : Value) (ls : List Ld) : Prop where
  sl : SlLd wr v ls
  below : Below w.heap.size w wr
theorem OwnS.later {w wr w1 : World} {v : Value} {ls : List Ld} (h : OwnS w wr v ls) (hb : Below wr.heap.size wr w1) : OwnS w w1 v ls :=
  ⟨ldLater h.sl hb, h.below.trans (hb.mono h.below.size)⟩
set_option maxRecDepth 1000000 in
set_option maxHeartbeats 8000000 in
theorem trimStrains_walk (v u : Value) (ls : List Ld) (fs : List Fr) (at' : Int) (w : World) (hv : SlLd w v ls) (hu : SlFr w u fs) (h50 : ¬ (50 < ls.length ∨ 50 < fs.length)) :
    Calls Try.prog 6 #[v, u, .int .i64 at'] w fun e w' => e = .returned (.bool true) ∧ Below w.heap.size w w' := by
  obtain ⟨a0, cap0, rfl, hl0, hc0⟩ := hv.form
  obtain ⟨a1, cap1, rfl, hl1, hc1⟩ := hu.form
  have HG := Lib.hid (great_no (a := ls.length) (b := 0) (c := fs.length) (d := 0) (by omega))
  have HV := Lib.hid hv
  have HU := Lib.hid hu
  have h50' : ls.length ≤ 50 := by omega
  clear hv hu h50
  obtain ⟨i0, hi, hz0, hz1, hz2⟩ := info_parts (P := Try.prog) (e := 91) (z := .agg #[.int .i64 0, .int .i64 0, .int .i64 0, .int .i64 0]) (size := 4) (bytes := 32) (by kernel_rfl)
  have HI := Lib.hid hi
  have HZ0 := Lib.hid hz0
  have HZ1 := Lib.hid hz1
  have HZ2 := Lib.hid hz2
  clear hi hz0 hz1 hz2
  go_enter Try.func6, Try.ntmps6
  go_wp2_with fail
  refine (great_any _ _ _ _ _).mono ?_
  rintro e w1 ⟨rfl, rfl⟩
  rw [show greatB ls.length 0 fs.length 0 = false from HG.out]
  go_upto_region 3 with fail
  go_cut [7] from 28 to 96 (fun v7 wr => OwnS w wr v7 ls)
  case first =>
    have hown := own_none w w.heap.size 91 4 (Nat.le_refl _)
    have hbW : Below w.heap.size w (w.alloc (.cells #[] 91)) := by go_grown
    rcases HV.out with ⟨hk0, hv⟩ | ⟨b, off, cap', hv, hcap, hmax, hb, hcells⟩
    · subst hk0
      simp at hv
      obtain ⟨rfl, rfl⟩ := hv
      go_wp2_with (at_builtin; refine wpList_append_own_none _ _ 22 rfl w.heap.size 91 i0 4 Try.underlying22 HI.out _ _ _ rfl hown rfl ?_)
      go_meet
      case rel => exact ⟨.inr ⟨w.heap.size, 0, 0, rfl, by simp, by simp, by simp, fun i c e => by simp at e⟩, hbW⟩
    · simp at hv
      obtain ⟨rfl, rfl⟩ := hv
      have hcW := (ld_rows hcells).later (show Below w.heap.size w (w.alloc (.cells #[] 91)) from hbW)
      go_wp2_with (at_builtin; refine wpList_append_own _ rfl _ _ 22 rfl w.heap.size 91 i0 (.agg #[.int .i64 0, .int .i64 0, .int .i64 0, .int .i64 0]) 4 32 Try.underlying22 HI.out HZ0.out HZ1.out HZ2.out rfl (by decide) _ _ _ rfl hown ⟨b, off, none⟩ ls.length cap0 (spR (ls.map Ld.row)) rfl ?c1 ?c2 spR_one ?c3 ?c4 ?c5 ?_)
      case c1 => rw [spR_len _ (ld_len ls), List.length_map]
      case c2 => exact spR_cell hcW (ld_len ls) (by decide)
      case c3 => unfold maxLen; omega
      case c4 => omega
      case c5 => simp
      intro v' w1 hown' hgrow hnil
      have hsz := hgrow.size
      simp at hsz
      have hbl : Below w.heap.size (w.alloc (.cells #[] 91)) w1 := ⟨hgrow.os, hgrow.tape, hgrow.output, hgrow.size, fun k hk => hgrow.block k (by simp; omega) (by simp [Value.ownBlock]; omega)⟩
      have HO' : Hid (OwnS w w1 v' ls) := Lib.hid ⟨own_copy (by simpa using hown') (by omega), hbW.trans hbl⟩
      clear hown' hgrow hnil hown hbW hcW hcells hbl
      go_wp2_with fail
      go_meet
      case rel => exact HO'.out
  case rest =>
    have HO := Lib.hid hcut
    clear hcut HI HZ0 HZ1 HZ2
    generalize wc = w0 at *
    obtain ⟨A, hA⟩ : ∃ X, (shearE ls at').1 = X := ⟨_, rfl⟩
    obtain ⟨B, hB⟩ : ∃ X, (shearE ls at').2 = X := ⟨_, rfl⟩
    obtain ⟨C, hC⟩ : ∃ X, (bendE ls at').1 = X := ⟨_, rfl⟩
    obtain ⟨D, hD⟩ : ∃ X, (bendE ls at').2 = X := ⟨_, rfl⟩
    obtain ⟨n, hn⟩ : ∃ X, placeN ls at' = X := ⟨_, rfl⟩
    obtain ⟨m, hm⟩ : ∃ X, strN ls fs = X := ⟨_, rfl⟩
    have HAll : Hid ((shearE ls at').1 = A ∧ (shearE ls at').2 = B ∧ (bendE ls at').1 = C ∧ (bendE ls at').2 = D ∧ placeN ls at' = n ∧ strN ls fs = m) := Lib.hid ⟨hA, hB, hC, hD, hn, hm⟩
    clear hA hB hC hD hn hm
    go_wp2_with fail
    refine (shearOf_any _ ls at' _ HO.out.sl).mono ?_
    rintro e w2 ⟨rfl, hb2⟩
    rw [HAll.out.1, HAll.out.2.1, HAll.out.2.2.2.2.1]
    have HO2 := Lib.hid (HO.out.later hb2)
    clear hb2 HO
    have hs2 := HO2.out.below.size
    go_wp2_with fail
    refine (rshearOf_any _ ls at' _ (ldLater HV.out (by have := HO2.out.below; go_grown))).mono ?_
    rintro e w3 ⟨rfl, hb3⟩
    rw [HAll.out.1, HAll.out.2.1, HAll.out.2.2.2.2.1]
    have hbb3 : Below w2.heap.size w2 w3 := two (by go_grown) hb3
    have HO3 := Lib.hid (HO2.out.later hbb3)
    have S3 := Lib.hid (show Two2 w3 w2.heap.size A B from Two2.later ⟨by go_cell, by go_cell⟩ hb3)
    clear hb3 hbb3 HO2 hs2
    have hs3 := HO3.out.below.size
    have hz3 := S3.out.lt
    go_wp2_with fail
    have hbb : Below w3.heap.size w3 (w3.alloc (.cells #[.int .i64 A, .int .i64 B] 37)) := by go_grown
    refine (bendOf_any _ ls at' _ (ldLater HO3.out.sl hbb)).mono ?_
    rintro e w4 ⟨rfl, hb4⟩
    rw [HAll.out.2.2.1, HAll.out.2.2.2.1, HAll.out.2.2.2.2.1]
    have hbb4 : Below w3.heap.size w3 w4 := two (by go_grown) hb4
    have HO4 := Lib.hid (HO3.out.later hbb4)
    have S4 := Lib.hid (S3.out.later hbb4)
    have T4 := Lib.hid (show Two2 w4 w3.heap.size A B from Two2.later ⟨by go_cell, by go_cell⟩ hb4)
    clear hb4 hbb4 hbb HO3 S3 hs3 hz3
    have hs4 := HO4.out.below.size
    go_wp2_with fail
    refine (rbendOf_any _ ls at' _ (ldLater HV.out (by have := HO4.out.below; go_grown))).mono ?_
    rintro e w5 ⟨rfl, hb5⟩
    rw [HAll.out.2.2.1, HAll.out.2.2.2.1, HAll.out.2.2.2.2.1]
    have hbb5 : Below w4.heap.size w4 w5 := two (by go_grown) hb5
    have HO5 := Lib.hid (HO4.out.later hbb5)
    have S5 := Lib.hid (S4.out.later hbb5)
    have T5 := Lib.hid (T4.out.later hbb5)
    have U5 := Lib.hid (show Two2 w5 w4.heap.size C D from Two2.later ⟨by go_cell, by go_cell⟩ hb5)
    clear hb5 hbb5 HO4 S4 T4 hs4
    have hs5 := HO5.out.below.size
    go_wp2_with fail
    have hbb : Below w5.heap.size w5 (w5.alloc (.cells #[.int .i64 C, .int .i64 D] 37)) := by go_grown
    refine (strained_any _ _ ls fs _ (ldLater HO5.out.sl hbb) (frLater HU.out (by have := HO5.out.below; go_grown))).mono ?_
    rintro e w6 ⟨q1, rfl, hq1, hb6⟩
    rw [HAll.out.2.2.2.2.2]
    have hbb6 : Below w5.heap.size w5 w6 := two (by go_grown) hb6
    have HO6 := Lib.hid (HO5.out.later hbb6)
    have S6 := Lib.hid (S5.out.later hbb6)
    have T6 := Lib.hid (T5.out.later hbb6)
    have U6 := Lib.hid (U5.out.later hbb6)
    have V6 := Lib.hid (show Two2 w6 w5.heap.size C D from Two2.later ⟨by go_cell, by go_cell⟩ hb6)
    have HQ1 := Lib.hid hq1
    clear hb6 hbb6 hbb HO5 S5 T5 U5 hs5 hq1
    go_wp2_with fail
    refine (rstrained_any _ _ ls fs _ (ldLater HV.out HO6.out.below) (frLater HU.out HO6.out.below)).mono ?_
    rintro e w7 ⟨q2, rfl, hq2, hb7⟩
    rw [HAll.out.2.2.2.2.2]
    have HO7 := Lib.hid (HO6.out.later hb7)
    obtain ⟨s0, s1⟩ := S6.out.later hb7
    obtain ⟨t0, t1⟩ := T6.out.later hb7
    obtain ⟨u0, u1⟩ := U6.out.later hb7
    obtain ⟨v0, v1⟩ := V6.out.later hb7
    replace HQ1 := Lib.hid (inLater HQ1.out hb7)
    have HQ2 := Lib.hid hq2
    clear hb7 HO6 S6 T6 U6 V6 hq2
    go_wp2_with fail
    refine (sameInts_eq _ _ (strL ls fs) _ HQ1.out HQ2.out).mono ?_
    rintro e w8 ⟨rfl, hb8⟩
    have HO8 := Lib.hid (HO7.out.later hb8)
    clear hb8 HO7 s0 s1 t0 t1 u0 u1 v0 v1
    go_wp2_with fail
    refine (kept_eq _ _ ls _ HO8.out.sl (ldLater HV.out HO8.out.below)).mono ?_
    rintro e w9 ⟨rfl, hb9⟩
    have hB9 := (HO8.out.later hb9).below
    clear hb9
    go_wp2_with fail
    go_returns
    exact ⟨rfl, hB9⟩
end Go.Proofs.Ytmadkefpjoheeaa
