/- Package trim: isBag; all, checkList, over puts; checkBags. -/
import Derived.Test.YtldnpnplgfkebaaTWo
namespace Go.Proofs.Ytldnpnplgfkebaa
open Go.RowKit

/-- A bag is valid. -/
def Pu.ok (p : Pu) : Bool := inB p.p (-20000) 20000 && inB p.w 1 1000000
/-- The error of bags beside loads and limits. -/
def bagsN (ls : List Ld) (ps : List Pu) (ms : List Li) : Int := if bothN ls ms = 0 then (if 40 < ls.length + ps.length then 4 else listN 10 Pu.ok 40 ps) else bothN ls ms
set_option maxHeartbeats 1000000 in
theorem isBag_any (p : Pu) (w : World) : Calls Try.prog 116 #[puV p] w fun e w' => e = .returned (.bool (p.ok)) ∧ Below w.heap.size w w' := by
  obtain ⟨u, hu⟩ : ∃ u, inB p.p (-20000) 20000 = u := ⟨_, rfl⟩
  have HU := Lib.hid hu
  obtain ⟨t, ht⟩ : ∃ t, inB p.w 1 1000000 = t := ⟨_, rfl⟩
  have HT := Lib.hid ht
  clear hu ht
  go_enter Try.func116, Try.ntmps116
  go_wp2_with fail
  refine (isPlace_any p.p _).mono ?_
  rintro e w1 ⟨rfl, hb1⟩
  rw [HU.out]
  have hB1 : Below w.heap.size w w1 := (after (w := w) (by go_grown) hb1).1
  have k1 : PuAt w1 w.heap.size 0 p := PuAt.later ⟨by go_cell, by go_cell⟩ hb1
  have c1 := k1.c1
  have hz1 : w.heap.size < w1.heap.size := World.block_lt_of_cell? _ _ c1
  clear k1 hb1
  cases u
  · have HR := Lib.hid (show p.ok = false by unfold Pu.ok; rw [HU.out]; rfl)
    go_wp2_with fail
    go_returns
    exact ⟨ret_bool HR.out.symm, hB1⟩
  · have HR := Lib.hid (show p.ok = t by unfold Pu.ok; rw [HU.out, HT.out]; rfl)
    go_wp2_with fail
    refine (inOrder3 _ 1 p.w 1000000 _ (by go_cell) (by go_cell) (by go_cell)).mono ?_
    rintro e w2 ⟨rfl, hb2⟩
    rw [HT.out]
    have hB2 : Below w.heap.size w w2 := by
      have h22 : Below w1.heap.size w1 w2 := two (by go_grown) hb2
      exact hB1.trans (h22.mono hB1.size)
    clear hb2 hB1 c1
    go_wp2_with fail
    go_returns
    exact ⟨ret_bool HR.out.symm, hB2⟩
set_option maxHeartbeats 2000000 in
theorem allPu_any (v : Value) (l : List Pu) (w : World) (hs : SlAny PuAt 2 w v l) :
    Calls Try.prog 138 #[v, .func (.func 116) #[] #[]] w fun e w' => e = .returned (.bool (l.all Pu.ok)) ∧ Below w.heap.size w w' := by
  obtain ⟨a, cap, rfl, hlen, hcap⟩ := hs.form
  have HS := Lib.hid hs
  clear hs
  go_enter Try.func138, Try.ntmps138
  go_wp2_with fail
  go_loopw [9] (fun v9 wr => AllHead Pu.ok l w wr v9) (fun v9 _ => l.length - (intOf v9).toNat)
  case atStart => exact ⟨0, by omega, rfl, rfl, Below.refl _ _⟩
  case round =>
    obtain ⟨k, hk, rfl, he, hbr⟩ := hrel
    have HE := Lib.hid he
    clear he
    by_cases hlt : k < l.length
    · obtain ⟨b, off, c, rfl, hb, hc, hat⟩ := HS.out.at hlt
      obtain ⟨c0, c1⟩ := PuAt.later hat (show Below w.heap.size w wr from hbr)
      have hlt' : (k : Int) < (l.length : Int) := by omega
      have hk0 : (0 : Int) ≤ (k : Int) := by omega
      have HC := Lib.hid hc
      clear hc hat
      go_wp2_with fail
      refine (isBag_any c _).mono ?_
      rintro e w1 ⟨rfl, hb1⟩
      have hB1 : Below w.heap.size w w1 := hbr.trans ((two (W := wr) (by go_grown) hb1).mono hbr.size)
      clear hb1
      by_cases h : c.ok = true
      · rw [h]
        have H := Lib.hid h
        clear h
        go_wp2_with fail
        go_roundw
        case rel => exact ⟨k + 1, by omega, by go_num, by rw [HE.out, drop_some HC.out, List.all_cons, H.out]; rfl, hB1⟩
        case measure => simp [intOf]; omega
      · rw [show c.ok = false by simpa using h]
        have H := Lib.hid (show c.ok = false by simpa using h)
        clear h
        go_wp2_with fail
        go_returns
        exact ⟨ret_bool (by rw [HE.out, drop_some HC.out, List.all_cons, H.out]; rfl), hB1⟩
    · have hw : l.all Pu.ok = true := by rw [HE.out, drop_none hlt]; rfl
      have HW := Lib.hid hw
      clear hw
      go_wp2_with fail
      go_returns
      exact ⟨ret_bool HW.out.symm, hbr⟩
set_option maxHeartbeats 1000000 in
theorem checkListPu_any (v : Value) (l : List Pu) (most : Nat) (bad : Int) (w : World) (hs : SlAny PuAt 2 w v l) :
    Calls Try.prog 115 #[v, .int .i64 most, .func (.func 116) #[] #[], .int .i64 bad] w fun e w' => e = .returned (.int .i64 (listN most Pu.ok bad l)) ∧ Below w.heap.size w w' := by
  obtain ⟨a, cap, rfl, hlen, hcap⟩ := hs.form
  have HS := Lib.hid hs
  clear hs
  by_cases hm : most < l.length
  · have hm' : (most : Int) < (l.length : Int) := by omega
    have HM := Lib.hid hm
    go_enter Try.func115, Try.ntmps115
    go_wp2_with fail
    go_returns
    exact ⟨ret_int (by unfold listN; rw [if_pos HM.out]), by go_grown⟩
  · have hm' : ¬ (most : Int) < (l.length : Int) := by omega
    have HM := Lib.hid hm
    go_enter Try.func115, Try.ntmps115
    go_wp2_with fail
    refine (allPu_any _ l _ HS.out).mono ?_
    rintro e w1 ⟨rfl, hb1⟩
    by_cases h : l.all Pu.ok = true
    · rw [h]
      have H := Lib.hid h
      clear h
      go_wp2_with fail
      go_returns
      exact ⟨ret_int (by unfold listN; rw [if_neg HM.out, if_pos H.out]), by go_grown⟩
    · rw [show l.all Pu.ok = false by simpa using h]
      have H := Lib.hid h
      clear h
      go_wp2_with fail
      go_returns
      exact ⟨ret_int (by unfold listN; rw [if_neg HM.out, if_neg H.out]), by go_grown⟩
set_option maxHeartbeats 1000000 in
theorem checkBags_any (v q u : Value) (ls : List Ld) (ps : List Pu) (ms : List Li) (w : World) (hv : SlLd w v ls) (hq : SlPu w q ps) (hu : SlLi w u ms) :
    Calls Try.prog 82 #[v, q, u] w fun e w' => e = .returned (.int .i64 (bagsN ls ps ms)) ∧ Below w.heap.size w w' := by
  obtain ⟨ad, cap, rfl, hlen, hcap⟩ := hv.form
  obtain ⟨aq, capq, rfl, hlenq, hcapq⟩ := hq.form
  have HV := Lib.hid hv
  have HU := Lib.hid hu
  have HQ := Lib.hid hq
  obtain ⟨n, hn⟩ : ∃ n, bothN ls ms = n := ⟨_, rfl⟩
  have HN := Lib.hid hn
  clear hv hu hq hn
  by_cases h0 : n = 0
  rotate_left 1
  · have HR := Lib.hid (show bagsN ls ps ms = n by unfold bagsN; rw [HN.out, if_neg h0])
    go_enter Try.func82, Try.ntmps82
    go_wp2_with fail
    refine (checkBoth_any _ u ls ms _ HV.out HU.out).mono ?_
    rintro e w1 ⟨rfl, hb1⟩
    rw [HN.out]
    go_wp2_with fail
    go_returns
    exact ⟨ret_int HR.out.symm, hb1⟩
  subst h0
  have h2 : (ls.length : Int) + (ps.length : Int) ≤ 2000000000000 := by omega
  by_cases h40 : (40 : Int) < (ls.length : Int) + (ps.length : Int)
  · have HR := Lib.hid (show bagsN ls ps ms = 4 by unfold bagsN; rw [HN.out, if_pos rfl, if_pos (by omega)])
    go_enter Try.func82, Try.ntmps82
    go_wp2_with fail
    refine (checkBoth_any _ u ls ms _ HV.out HU.out).mono ?_
    rintro e w1 ⟨rfl, hb1⟩
    rw [HN.out]
    go_wp2_with fail
    go_returns
    exact ⟨ret_int HR.out.symm, hb1⟩
  · obtain ⟨m, hm⟩ : ∃ m, listN 10 Pu.ok 40 ps = m := ⟨_, rfl⟩
    have HM := Lib.hid hm
    have HR := Lib.hid (show bagsN ls ps ms = m by unfold bagsN; rw [HN.out, if_pos rfl, if_neg (by omega), HM.out])
    clear hm
    go_enter Try.func82, Try.ntmps82
    go_wp2_with fail
    refine (checkBoth_any _ u ls ms _ HV.out HU.out).mono ?_
    rintro e w1 ⟨rfl, hb1⟩
    rw [HN.out]
    go_wp2_with fail
    refine (checkListPu_any _ ps 10 40 _ (puLater HQ.out hb1)).mono ?_
    rintro e w2 ⟨rfl, hb2⟩
    rw [HM.out]
    have hB2 := two hb1 hb2
    clear hb1 hb2
    go_wp2_with fail
    go_returns
    exact ⟨ret_int HR.out.symm, hB2⟩
end Go.Proofs.Ytldnpnplgfkebaa
