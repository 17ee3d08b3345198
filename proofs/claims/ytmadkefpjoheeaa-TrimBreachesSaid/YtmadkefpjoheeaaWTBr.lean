/- TrimBreaches: the walk. -/
import Derived.Test.YtmadkefpjoheeaaTRCb
import Derived.Test.YtmadkefpjoheeaaTRows
import Derived.Test.YtmadkefpjoheeaaTSame
import Derived.Test.YtmadkefpjoheeaaWTCheck
namespace Go.Proofs.Ytmadkefpjoheeaa
open Go.RowKit

/-- What both breaches come to. -/
def brOut (ls : List Ld) (ms : List Li) : Int × Int × List Pu :=
  if bothN ls ms = 0 then (if brk ls 0 ms = -1 then (0, 6, []) else (brk ls 0 ms, 0, ls.map (worstP (ms.getD (brk ls 0 ms).toNat default).a (ms.getD (brk ls 0 ms).toNat default).b))) else (0, bothN ls ms, [])
theorem BrP.out {ls : List Ld} {ms : List Li} {w w' : World} {e : Ending} (h : BrP ls ms w e w') :
    ∃ q, e = .returned (.tuple #[brV (brOut ls ms).1 q, .int .i64 (brOut ls ms).2.1]) ∧ SlPu w' q (brOut ls ms).2.2 ∧ Below w.heap.size w w' := by
  rcases h with ⟨h0, he, hb⟩ | ⟨h0, h1, he, hb⟩ | ⟨h0, k, x, u, hx, h1, he, hu, hb⟩
  · have : brOut ls ms = (0, bothN ls ms, []) := by unfold brOut; rw [if_neg h0]
    rw [this]
    exact ⟨_, he, .inl ⟨rfl, rfl⟩, hb⟩
  · have : brOut ls ms = (0, 6, []) := by unfold brOut; rw [if_pos h0, if_pos h1]
    rw [this]
    exact ⟨_, he, .inl ⟨rfl, rfl⟩, hb⟩
  · have : brOut ls ms = ((k : Int), 0, ls.map (worstP x.a x.b)) := by
      unfold brOut
      rw [if_pos h0, if_neg (by omega), h1, Int.toNat_natCast, List.getD_eq_getElem?_getD, hx]
      rfl
    rw [this]
    exact ⟨u, he, hu, hb⟩
set_option maxHeartbeats 1000000 in
theorem trimBreaches_great (a0 : Option Addr) (l0 c0 : Nat) (a1 : Option Addr) (l1 c1 : Nat) (i : Int) (a2 : Option Addr) (l2 c2 : Nat) (w : World) (hg : 50 < l0 ∨ 50 < l1 ∨ 50 < l2) :
    Calls Try.prog 5 #[.slice a0 l0 c0, .slice a1 l1 c1, brV i (.slice a2 l2 c2)] w fun e w' => e = .returned (.bool true) ∧ Below w.heap.size w w' := by
  have HG := Lib.hid (great_yes (a := l0) (b := l1) (c := l2) (d := 0) (by omega))
  go_enter Try.func5, Try.ntmps5
  go_wp2_with fail
  refine (great_any _ _ _ _ _).mono ?_
  rintro e w1 ⟨rfl, rfl⟩
  rw [show greatB l0 l1 l2 0 = true from HG.out]
  go_wp2_with fail
  go_returns
  exact ⟨rfl, by go_grown⟩
/-- Behind the copy of the loads. -/
structure OwnB (w wr : World) (v : Value) (ls : List Ld) (i : Int) (q : Value) : Prop where
  sl : SlLd wr v ls
  below : Below w.heap.size w wr
  b : PairV wr w.heap.size (.int .i64 i) q
theorem OwnB.later {w wr w1 : World} {v : Value} {ls : List Ld} {i : Int} {q : Value} (h : OwnB w wr v ls i q) (hb : Below wr.heap.size wr w1) : OwnB w w1 v ls i q :=
  ⟨ldLater h.sl hb, h.below.trans (hb.mono h.below.size), h.b.later hb⟩
set_option maxRecDepth 1000000 in
set_option maxHeartbeats 8000000 in
theorem trimBreaches_walk (v u q : Value) (ls : List Ld) (ms : List Li) (i : Int) (ps : List Pu) (w : World) (hv : SlLd w v ls) (hu : SlLi w u ms) (hq : SlPu w q ps) (h50 : ¬ (50 < ls.length ∨ 50 < ms.length ∨ 50 < ps.length)) :
    Calls Try.prog 5 #[v, u, brV i q] w fun e w' => e = .returned (.bool true) ∧ Below w.heap.size w w' := by
  obtain ⟨a0, cap0, rfl, hl0, hc0⟩ := hv.form
  obtain ⟨a1, cap1, rfl, hl1, hc1⟩ := hu.form
  obtain ⟨a2, cap2, rfl, hl2, hc2⟩ := hq.form
  have HG := Lib.hid (great_no (a := ls.length) (b := ms.length) (c := ps.length) (d := 0) (by omega))
  have HV := Lib.hid hv
  have HU := Lib.hid hu
  have HQ := Lib.hid hq
  have h50' : ls.length ≤ 50 := by omega
  clear hv hu hq h50
  obtain ⟨i0, hi, hz0, hz1, hz2⟩ := info_parts (P := Try.prog) (e := 91) (z := .agg #[.int .i64 0, .int .i64 0, .int .i64 0, .int .i64 0]) (size := 4) (bytes := 32) (by kernel_rfl)
  have HI := Lib.hid hi
  have HZ0 := Lib.hid hz0
  have HZ1 := Lib.hid hz1
  have HZ2 := Lib.hid hz2
  clear hi hz0 hz1 hz2
  go_enter Try.func5, Try.ntmps5
  go_wp2_with fail
  refine (great_any _ _ _ _ _).mono ?_
  rintro e w1 ⟨rfl, rfl⟩
  rw [show greatB ls.length ms.length ps.length 0 = false from HG.out]
  go_upto_region 3 with fail
  go_cut [7] from 23 to 67 (fun v7 wr => OwnB w wr v7 ls i (.slice a2 ps.length cap2))
  case first =>
    have hown := own_none (w.alloc (.cells #[.int .i64 i, .slice a2 ps.length cap2] 51)) (w.heap.size + 1) 91 4 (by simp)
    rw [show (w.alloc (.cells #[.int .i64 i, .slice a2 ps.length cap2] 51)).heap.size = w.heap.size + 1 by simp] at hown
    have hbW : Below w.heap.size w ((w.alloc (.cells #[.int .i64 i, .slice a2 ps.length cap2] 51)).alloc (.cells #[] 91)) := by go_grown
    have hX : PairV ((w.alloc (.cells #[.int .i64 i, .slice a2 ps.length cap2] 51)).alloc (.cells #[] 91)) w.heap.size (.int .i64 i) (.slice a2 ps.length cap2) := ⟨by go_cell, by go_cell⟩
    rcases HV.out with ⟨hk0, hv⟩ | ⟨b, off, cap', hv, hcap, hmax, hb, hcells⟩
    · subst hk0
      simp at hv
      obtain ⟨rfl, rfl⟩ := hv
      go_wp2_with (at_builtin; refine wpList_append_own_none _ _ 22 rfl (w.heap.size + 1) 91 i0 4 Try.underlying22 HI.out _ _ _ rfl hown rfl ?_)
      go_meet
      case rel => exact ⟨.inr ⟨w.heap.size + 1, 0, 0, rfl, by simp, by simp, by simp, fun i c e => by simp at e⟩, hbW, hX⟩
    · simp at hv
      obtain ⟨rfl, rfl⟩ := hv
      have hcW := (ld_rows hcells).later (show Below w.heap.size w ((w.alloc (.cells #[.int .i64 i, .slice a2 ps.length cap2] 51)).alloc (.cells #[] 91)) from hbW)
      go_wp2_with (at_builtin; refine wpList_append_own _ rfl _ _ 22 rfl (w.heap.size + 1) 91 i0 (.agg #[.int .i64 0, .int .i64 0, .int .i64 0, .int .i64 0]) 4 32 Try.underlying22 HI.out HZ0.out HZ1.out HZ2.out rfl (by decide) _ _ _ rfl hown ⟨b, off, none⟩ ls.length cap0 (spR (ls.map Ld.row)) rfl ?c1 ?c2 spR_one ?c3 ?c4 ?c5 ?_)
      case c1 => rw [spR_len _ (ld_len ls), List.length_map]
      case c2 => exact spR_cell hcW (ld_len ls) (by decide)
      case c3 => unfold maxLen; omega
      case c4 => omega
      case c5 => simp
      intro v' w1 hown' hgrow hnil
      have hsz := hgrow.size
      simp at hsz
      have hbl : Below (w.heap.size + 1) ((w.alloc (.cells #[.int .i64 i, .slice a2 ps.length cap2] 51)).alloc (.cells #[] 91)) w1 := ⟨hgrow.os, hgrow.tape, hgrow.output, hgrow.size, fun k hk => hgrow.block k (by simp; omega) (by simp [Value.ownBlock]; omega)⟩
      have HO' : Hid (OwnB w w1 v' ls i (.slice a2 ps.length cap2)) := Lib.hid ⟨own_copy (by simpa using hown') (by omega), hbW.trans (hbl.mono (by omega)), ⟨by rw [hbl.cell (p := ⟨w.heap.size, 0, none⟩) (by simp)]; exact hX.c0, by rw [hbl.cell (p := ⟨w.heap.size, 1, none⟩) (by simp)]; exact hX.c1⟩⟩
      clear hown' hgrow hnil hown hbW hcW hcells hbl hX
      go_wp2_with fail
      go_meet
      case rel => exact HO'.out
  case rest =>
    have HO := Lib.hid hcut
    clear hcut HI HZ0 HZ1 HZ2
    generalize wc = w0 at *
    obtain ⟨bi, hbi⟩ : ∃ X, (brOut ls ms).1 = X := ⟨_, rfl⟩
    obtain ⟨bn, hbn⟩ : ∃ X, (brOut ls ms).2.1 = X := ⟨_, rfl⟩
    obtain ⟨bp, hbp⟩ : ∃ X, (brOut ls ms).2.2 = X := ⟨_, rfl⟩
    obtain ⟨cn, hcn⟩ : ∃ X, cbN ls ms i ps = X := ⟨_, rfl⟩
    have HAll : Hid ((brOut ls ms).1 = bi ∧ (brOut ls ms).2.1 = bn ∧ (brOut ls ms).2.2 = bp ∧ cbN ls ms i ps = cn) := Lib.hid ⟨hbi, hbn, hbp, hcn⟩
    clear hbi hbn hbp hcn
    go_wp2_with fail
    refine (breach_any _ _ ls ms _ HO.out.sl (liLater HU.out HO.out.below)).mono ?_
    intro e w2 hw
    obtain ⟨q1, rfl, hq1, hb2⟩ := hw.out
    rw [HAll.out.1, HAll.out.2.1]
    rw [HAll.out.2.2.1] at hq1
    clear hw
    have HO2 := Lib.hid (HO.out.later hb2)
    obtain ⟨aq1, cq1, rfl, _, _⟩ := hq1.form
    have HQ1 := Lib.hid hq1
    clear hb2 HO hq1
    have hs2 := HO2.out.below.size
    go_wp2_with fail
    refine (rbreach_any _ _ ls ms _ (ldLater HV.out (by have := HO2.out.below; go_grown)) (liLater HU.out (by have := HO2.out.below; go_grown))).mono ?_
    intro e w3 hw
    obtain ⟨q2, rfl, hq2, hb3⟩ := hw.out
    rw [HAll.out.1, HAll.out.2.1]
    rw [HAll.out.2.2.1] at hq2
    clear hw
    have hbb3 : Below w2.heap.size w2 w3 := two (by go_grown) hb3
    have HO3 := Lib.hid (HO2.out.later hbb3)
    have S3 := Lib.hid (show PairV w3 w2.heap.size (.int .i64 bi) (.slice aq1 bp.length cq1) from PairV.later ⟨by go_cell, by go_cell⟩ hb3)
    obtain ⟨aq2, cq2, rfl, _, _⟩ := hq2.form
    replace HQ1 := Lib.hid (puLater HQ1.out hbb3)
    have HQ2 := Lib.hid hq2
    clear hb3 hbb3 HO2 hs2 hq2
    have hs3 := HO3.out.below.size
    have hz3 := World.block_lt_of_cell? _ _ S3.out.c0
    have hz4 := World.block_lt_of_cell? _ _ HO3.out.b.c0
    go_wp2_with fail
    obtain ⟨W, hW⟩ : ∃ W, w3.alloc (.cells #[.int .i64 bi, .slice aq2 bp.length cq2] 51) = W := ⟨_, rfl⟩
    have hbW : Below w3.heap.size w3 W := by subst hW; go_grown
    obtain ⟨t0, t1⟩ := show PairV W w3.heap.size (.int .i64 bi) (.slice aq2 bp.length cq2) by subst hW; exact ⟨by go_cell, by go_cell⟩
    have HOW := Lib.hid (HO3.out.later hbW)
    obtain ⟨s0, s1⟩ := S3.out.later hbW
    obtain ⟨b0, b1⟩ := HOW.out.b
    replace HQ1 := Lib.hid (puLater HQ1.out hbW)
    replace HQ2 := Lib.hid (puLater HQ2.out hbW)
    have HVW := Lib.hid (ldLater HV.out HOW.out.below)
    have HUW := Lib.hid (liLater HU.out HOW.out.below)
    have HQW := Lib.hid (puLater HQ.out HOW.out.below)
    rw [hW]
    clear hW hbW HO3 S3 hs3 hz3 hz4
    have hA : Below W.heap.size W W := Below.refl _ _
    go_region_held3 (fun w' => w'.cell? ⟨w2.heap.size, 0, none⟩ = some (.int .i64 bi) ∧ w'.cell? ⟨w2.heap.size, 1, none⟩ = some (.slice aq1 bp.length cq1) ∧ w'.cell? ⟨w3.heap.size, 0, none⟩ = some (.int .i64 bi) ∧ w'.cell? ⟨w3.heap.size, 1, none⟩ = some (.slice aq2 bp.length cq2) ∧ w'.cell? ⟨w.heap.size, 0, none⟩ = some (.int .i64 i) ∧ w'.cell? ⟨w.heap.size, 1, none⟩ = some (.slice a2 ps.length cap2))
      (first | (go_split_ands; (repeat' apply And.intro) <;> first | assumption | exact cell_later hb (by assumption)) | go_keep)
      (first
        | (go_at_call 26; refine (samePuts_eq _ _ bp _ (puLater HQ1.out (by first | exact hA | exact hA.drew)) (puLater HQ2.out (by first | exact hA | exact hA.drew))).mono ?_; rintro e wx ⟨rfl, hb⟩; have hA : Below W.heap.size W wx := (by first | exact chain hA hb | exact chainD hA hb))
        | (go_at_call 30; refine (checkBreach_any _ _ _ ls ms i ps _ (ldLater HOW.out.sl (by first | exact hA | exact hA.drew)) (liLater HUW.out (by first | exact hA | exact hA.drew)) (puLater HQW.out (by first | exact hA | exact hA.drew))).mono ?_; rintro e wx ⟨rfl, hb⟩; rw [HAll.out.2.2.2]; have hA : Below W.heap.size W wx := (by first | exact chain hA hb | exact chainD hA hb))
        | (go_at_call 31; refine (rcheckBreach_any _ _ _ ls ms i ps _ (ldLater HVW.out (by first | exact hA | exact hA.drew)) (liLater HUW.out (by first | exact hA | exact hA.drew)) (puLater HQW.out (by first | exact hA | exact hA.drew))).mono ?_; rintro e wx ⟨rfl, hb⟩; rw [HAll.out.2.2.2]; have hA : Below W.heap.size W wx := (by first | exact chain hA hb | exact chainD hA hb))
        | (go_at_call 27; refine (kept_eq _ _ ls _ (ldLater HOW.out.sl (by first | exact hA | exact hA.drew)) (ldLater HVW.out (by first | exact hA | exact hA.drew))).mono ?_; rintro e wx ⟨rfl, hb⟩; have hA : Below W.heap.size W wx := (by first | exact chain hA hb | exact chainD hA hb)))
    go_wp2_with fail
    have hBx := HOW.out.below.trans (hA.mono HOW.out.below.size)
    go_returns
    exact ⟨rfl, by go_grown⟩
end Go.Proofs.Ytmadkefpjoheeaa
