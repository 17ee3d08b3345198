/- Package trim: isBag; all, checkList, over puts; checkBags. -/
import Derived.Test.YtldnpnplgfkebaaTWo
import Derived.Test.YtldnpnplgfkebaaTInts
namespace Go.Proofs.Ytldnpnplgfkebaa
open Go.RowKit

/-- A bag is valid. -/
def Pu.ok (p : Pu) : Bool := inB p.p (-20000) 20000 && inB p.w 1 1000000
/-- The error of bags beside loads and limits. -/
def bagsN (ls : List Ld) (ps : List Pu) (ms : List Li) : Int := if bothN ls ms = 0 then (if 40 < ls.length + ps.length then 4 else listN 10 Pu.ok 40 ps) else bothN ls ms
set_option maxHeartbeats 1000000 in
theorem isBag_any (p : Pu) (w : World) : Calls Try.prog 116 #[puV p] w fun e w' => e = .returned (.bool (p.ok)) ∧ Below w.heap.size w w' := by
  obtain ⟨u, hu⟩ : ∃ u, inB p.p (-20000) 20000 = u := ⟨_, rfl⟩
  have HU := Lib.hid hu
  obtain ⟨t, ht⟩ : ∃ t, inB p.w 1 1000000 = t := ⟨_, rfl⟩
  have HT := Lib.hid ht
  clear hu ht
  go_enter Try.func116, Try.ntmps116
  go_wp2_with fail
  refine (isPlace_any p.p _).mono ?_
  rintro e w1 ⟨rfl, hb1⟩
  rw [HU.out]
  have hB1 : Below w.heap.size w w1 := (after (w := w) (by go_grown) hb1).1
  have k1 : PuAt w1 w.heap.size 0 p := PuAt.later ⟨by go_cell, by go_cell⟩ hb1
  have c1 := k1.c1
  have hz1 : w.heap.size < w1.heap.size := World.block_lt_of_cell? _ _ c1
  clear k1 hb1
  cases u
  · have HR := Lib.hid (show p.ok = false by unfold Pu.ok; rw [HU.out]; rfl)
    go_wp2_with fail
    go_returns
    exact ⟨ret_bool HR.out.symm, hB1⟩
  · have HR := Lib.hid (show p.ok = t by unfold Pu.ok; rw [HU.out, HT.out]; rfl)
    go_wp2_with fail
    refine (inOrder3 _ 1 p.w 1000000 _ (by go_cell) (by go_cell) (by go_cell)).mono ?_
    rintro e w2 ⟨rfl, hb2⟩
    rw [HT.out]
    have hB2 : Below w.heap.size w w2 := by
      have h22 : Below w1.heap.size w1 w2 := two (by go_grown) hb2
      exact hB1.trans (h22.mono hB1.size)
    clear hb2 hB1 c1
    go_wp2_with fail
    go_returns
    exact ⟨ret_bool HR.out.symm, hB2⟩
set_option maxHeartbeats 2000000 in
theorem allPu_any (v : Value) (l : List Pu) (w : World) (hs : SlAny PuAt 2 w v l) :
    Calls Try.prog 138 #[v, .func (.func 116) #[] #[]] w fun e w' => e = .returned (.bool (l.all Pu.ok)) ∧ Below w.heap.size w w' := by
  obtain ⟨a, cap, rfl, hlen, hcap⟩ := hs.form
  have HS := Lib.hid hs
  clear hs
  go_enter Try.func138, Try.ntmps138
  go_wp2_with fail
  go_loopw [9] (fun v9 wr => AllHead Pu.ok l w wr v9) (fun v9 _ => l.length - (intOf v9).toNat)
  case atStart => exact ⟨0, by omega, rfl, rfl, Below.refl _ _⟩
  case round =>
    obtain ⟨k, hk, rfl, he, hbr⟩ := hrel
    have HE := Lib.hid he
    clear he
    by_cases hlt : k < l.length
    · obtain ⟨b, off, c, rfl, hb, hc, hat⟩ := HS.out.at hlt
      obtain ⟨c0, c1⟩ := PuAt.later hat (show Below w.heap.size w wr from hbr)
      have hlt' : (k : Int) < (l.length : Int) := by omega
      have hk0 : (0 : Int) ≤ (k : Int) := by omega
      have HC := Lib.hid hc
      clear hc hat
      go_wp2_with fail
      refine (isBag_any c _).mono ?_
      rintro e w1 ⟨rfl, hb1⟩
      have hB1 : Below w.heap.size w w1 := hbr.trans ((two (W := wr) (by go_grown) hb1).mono hbr.size)
      clear hb1
      by_cases h : c.ok = true
      · rw [h]
        have H := Lib.hid h
        clear h
        go_wp2_with fail
        go_roundw
        case rel => exact ⟨k + 1, by omega, by go_num, by rw [HE.out, drop_some HC.out, List.all_cons, H.out]; rfl, hB1⟩
        case measure => simp [intOf]; omega
      · rw [show c.ok = false by simpa using h]
        have H := Lib.hid (show c.ok = false by simpa using h)
        clear h
        go_wp2_with fail
        go_returns
        exact ⟨ret_bool (by rw [HE.out, drop_some HC.out, List.all_cons, H.out]; rfl), hB1⟩
    · have hw : l.all Pu.ok = true := by rw [HE.out, drop_none hlt]; rfl
      have HW := Lib.hid hw
      clear hw
      go_wp2_with fail
      go_returns
      exact ⟨ret_bool HW.out.symm, hbr⟩
set_option maxHeartbeats 1000000 in
theorem checkListPu_any (v : Value) (l : List Pu) (most : Nat) (bad : Int) (w : World) (hs : SlAny PuAt 2 w v l) :
    Calls Try.prog 115 #[v, .int .i64 most, .func (.func 116) #[] #[], .int .i64 bad] w fun e w' => e = .returned (.int .i64 (listN most Pu.ok bad l)) ∧ Below w.heap.size w w' := by
  obtain ⟨a, cap, rfl, hlen, hcap⟩ := hs.form
  have HS := Lib.hid hs
  clear hs
  by_cases hm : most < l.length
  · have hm' : (most : Int) < (l.length : Int) := by omega
    have HM := Lib.hid hm
    go_enter Try.func115, Try.ntmps115
    go_wp2_with fail
    go_returns
    exact ⟨ret_int (by unfold listN; rw [if_pos HM.out]), by go_grown⟩
  · have hm' : ¬ (most : Int) < (l.length : Int) := by omega
    have HM := Lib.hid hm
    go_enter Try.func115, Try.ntmps115
    go_wp2_with fail
    refine (allPu_any _ l _ HS.out).mono ?_
    rintro e w1 ⟨rfl, hb1⟩
    by_cases h : l.all Pu.ok = true
    · rw [h]
      have H := Lib.hid h
      clear h
      go_wp2_with fail
      go_returns
      exact ⟨ret_int (by unfold listN; rw [if_neg HM.out, if_pos H.out]), by go_grown⟩
    · rw [show l.all Pu.ok = false by simpa using h]
      have H := Lib.hid h
      clear h
      go_wp2_with fail
      go_returns
      exact ⟨ret_int (by unfold listN; rw [if_neg HM.out, if_neg H.out]), by go_grown⟩
set_option maxHeartbeats 1000000 in
theorem checkBags_any (v q u : Value) (ls : List Ld) (ps : List Pu) (ms : List Li) (w : World) (hv : SlLd w v ls) (hq : SlPu w q ps) (hu : SlLi w u ms) :
    Calls Try.prog 82 #[v, q, u] w fun e w' => e = .returned (.int .i64 (bagsN ls ps ms)) ∧ Below w.heap.size w w' := by
  obtain ⟨ad, cap, rfl, hlen, hcap⟩ := hv.form
  obtain ⟨aq, capq, rfl, hlenq, hcapq⟩ := hq.form
  have HV := Lib.hid hv
  have HU := Lib.hid hu
  have HQ := Lib.hid hq
  obtain ⟨n, hn⟩ : ∃ n, bothN ls ms = n := ⟨_, rfl⟩
  have HN := Lib.hid hn
  clear hv hu hq hn
  by_cases h0 : n = 0
  rotate_left 1
  · have HR := Lib.hid (show bagsN ls ps ms = n by unfold bagsN; rw [HN.out, if_neg h0])
    go_enter Try.func82, Try.ntmps82
    go_wp2_with fail
    refine (checkBoth_any _ u ls ms _ HV.out HU.out).mono ?_
    rintro e w1 ⟨rfl, hb1⟩
    rw [HN.out]
    go_wp2_with fail
    go_returns
    exact ⟨ret_int HR.out.symm, hb1⟩
  subst h0
  have h2 : (ls.length : Int) + (ps.length : Int) ≤ 2000000000000 := by omega
  by_cases h40 : (40 : Int) < (ls.length : Int) + (ps.length : Int)
  · have HR := Lib.hid (show bagsN ls ps ms = 4 by unfold bagsN; rw [HN.out, if_pos rfl, if_pos (by omega)])
    go_enter Try.func82, Try.ntmps82
    go_wp2_with fail
    refine (checkBoth_any _ u ls ms _ HV.out HU.out).mono ?_
    rintro e w1 ⟨rfl, hb1⟩
    rw [HN.out]
    go_wp2_with fail
    go_returns
    exact ⟨ret_int HR.out.symm, hb1⟩
  · obtain ⟨m, hm⟩ : ∃ m, listN 10 Pu.ok 40 ps = m := ⟨_, rfl⟩
    have HM := Lib.hid hm
    have HR := Lib.hid (show bagsN ls ps ms = m by unfold bagsN; rw [HN.out, if_pos rfl, if_neg (by omega), HM.out])
    clear hm
    go_enter Try.func82, Try.ntmps82
    go_wp2_with fail
    refine (checkBoth_any _ u ls ms _ HV.out HU.out).mono ?_
    rintro e w1 ⟨rfl, hb1⟩
    rw [HN.out]
    go_wp2_with fail
    refine (checkListPu_any _ ps 10 40 _ (puLater HQ.out hb1)).mono ?_
    rintro e w2 ⟨rfl, hb2⟩
    rw [HM.out]
    have hB2 := two hb1 hb2
    clear hb1 hb2
    go_wp2_with fail
    go_returns
    exact ⟨ret_int HR.out.symm, hB2⟩
end Go.Proofs.Ytldnpnplgfkebaa
/- Package trim: what loads leave of a limit (slack.holds). -/
namespace Go.Proofs.Ytldnpnplgfkebaa
open Go.RowKit

abbrev skV (a b m : Int) : Value := .agg #[.int .i64 a, .int .i64 b, .int .i64 m]
set_option maxRecDepth 100000 in
set_option maxHeartbeats 4000000 in
theorem holds_any (a b m : Int) (q : Value) (ps : List Pu) (w : World) (hq : SlPu w q ps) (h50 : ps.length ≤ 50) (hs : ScB a b) (hp : ∀ p, p ∈ ps → PuB p) :
    Calls Try.prog 86 #[skV a b m, q] w fun e w' => e = .returned (.bool (decide (sumE (valE a b) ps ≤ m))) ∧ Below w.heap.size w w' := by
  have HQ := Lib.hid hq
  have HS := Lib.hid hs
  have HP := Lib.hid hp
  obtain ⟨M, hM⟩ : ∃ M, sumE (valE a b) ps = M := ⟨_, rfl⟩
  have HM := Lib.hid hM
  have hmf := makeFunc_run
  rw [hM]
  clear hq hs hp hM
  by_cases hle : M ≤ m
  all_goals
    go_enter Try.func86, Try.ntmps86
    go_wp2_with fail
    obtain ⟨W, hW⟩ : ∃ W, w.alloc (.cells #[.int .i64 a, .int .i64 b, .int .i64 m] 140) = W := ⟨_, rfl⟩
    have hbW : Below w.heap.size w W := by subst hW; go_grown
    obtain ⟨x0, x1, x2⟩ := show Three W w.heap.size a b m by subst hW; exact ⟨by go_cell, by go_cell, by go_cell⟩
    have HQW := Lib.hid (puLater HQ.out hbW)
    rw [hW]
    clear hW
    have hA : Below W.heap.size W W := Below.refl _ _
    go_region_held3 (fun w' => w'.cell? ⟨w.heap.size, 0, none⟩ = some (.int .i64 a) ∧ w'.cell? ⟨w.heap.size, 1, none⟩ = some (.int .i64 b) ∧ w'.cell? ⟨w.heap.size, 2, none⟩ = some (.int .i64 m))
      (first | (go_split_ands; (repeat' apply And.intro) <;> first | assumption | exact cell_later hb (by assumption)) | go_keep)
      (first
        | (go_at_call 68; refine (totalPuts_any a b q ps _ (puLater HQW.out (by first | exact hA | exact hA.drew)) h50 HS.out HP.out).mono ?_; rintro e wx ⟨rfl, hb⟩; rw [HM.out]; have hA : Below W.heap.size W wx := (by first | exact chain hA hb | exact chainD hA hb)))
    go_wp2_with fail
    have hBf := hbW.trans (hA.mono hbW.size)
    go_returns
    exact ⟨ret_bool (by simp [hle]), by go_grown⟩
end Go.Proofs.Ytldnpnplgfkebaa
/- Package trim: slices.Contains over ints; without. -/
namespace Go.Proofs.Ytldnpnplgfkebaa
open Go.RowKit

theorem contains_any (v : Value) (zs : List Int) (x : Int) (w : World) (hv : SlI w v zs) :
    Calls Try.prog 120 #[v, .int .i64 x] w fun e w' => e = .returned (.bool (zs.contains x)) ∧ w' = w := by
  rcases hv with ⟨rfl, rfl⟩ | ⟨b, off, cap, rfl, h2, h3, h4, h5⟩
  · exact (Try.slices_Contains_int_empty none 0 x w).mono fun e w' ⟨h1, h2⟩ => ⟨h1, h2⟩
  · refine (Try.slices_Contains_int b off zs.length cap zs x w (Nat.le_refl _) (by omega) (fun j hj => ?_)).mono fun e w' ⟨h1, h2⟩ => ⟨by rw [h1, List.take_length], h2⟩
    have := h5 j zs[j] (List.getElem?_eq_getElem hj)
    unfold IntAt at this
    rw [Nat.mul_one] at this
    rw [this, List.getD_eq_getElem?_getD, List.getElem?_eq_getElem hj]
    rfl
/-- The puts from number i on that are not among those dropped. -/
def keptP (zs : List Int) : Nat → List Pu → List Pu
  | _, [] => []
  | i, p :: ps => if zs.contains (i : Int) then keptP zs (i + 1) ps else p :: keptP zs (i + 1) ps
theorem keptP_len (zs : List Int) : ∀ (ps : List Pu) (i : Nat), (keptP zs i ps).length ≤ ps.length
  | [], _ => by simp [keptP]
  | p :: ps, i => by
    have := keptP_len zs ps (i + 1)
    unfold keptP
    split
    · simp; omega
    · simp; omega
theorem keptP_mem (zs : List Int) : ∀ (ps : List Pu) (i : Nat) (p : Pu), p ∈ keptP zs i ps → p ∈ ps
  | [], _, p, h => by simp [keptP] at h
  | q :: ps, i, p, h => by
    unfold keptP at h
    split at h
    · exact List.mem_cons_of_mem _ (keptP_mem zs ps (i + 1) p h)
    · rcases List.mem_cons.1 h with rfl | h
      · exact List.mem_cons_self ..
      · exact List.mem_cons_of_mem _ (keptP_mem zs ps (i + 1) p h)
/-- The loop's head: what has been kept, and what is left. -/
def WiHead (zs : List Int) (ps : List Pu) (w wr : World) (v5 v10 : Value) : Prop := ∃ (k : Nat) (ks : List Pu), k ≤ ps.length ∧ v10 = .int .i64 k ∧ ks ++ keptP zs k (ps.drop k) = keptP zs 0 ps ∧ ks.length ≤ k ∧ wr.ownsRow w.heap.size 89 2 v5 ks.length (spP ks) ∧ Below w.heap.size w wr
set_option maxRecDepth 100000 in
set_option maxHeartbeats 8000000 in
theorem without_any (v u : Value) (ps : List Pu) (zs : List Int) (w : World) (hv : SlPu w v ps) (hu : SlI w u zs) (h50 : ps.length ≤ 1000) :
    Calls Try.prog 85 #[v, u] w fun e w' => ∃ r, e = .returned r ∧ SlPu w' r (keptP zs 0 ps) ∧ Below w.heap.size w w' := by
  obtain ⟨ad, cap, rfl, hlen, hcap⟩ := hv.form
  obtain ⟨i0, hi, hz0, hz1, hz2⟩ := info_parts (P := Try.prog) (e := 89) (z := .agg #[.int .i64 0, .int .i64 0]) (size := 2) (bytes := 16) (by kernel_rfl)
  have HI := Lib.hid hi
  have HZ0 := Lib.hid hz0
  have HZ1 := Lib.hid hz1
  have HZ2 := Lib.hid hz2
  have HV := Lib.hid hv
  have HU := Lib.hid hu
  clear hv hu hi hz0 hz1 hz2
  go_enter Try.func85, Try.ntmps85
  go_wp2_with fail
  go_loopw [5, 10] (fun v5 v10 wr => WiHead zs ps w wr v5 v10) (fun _ v10 _ => ps.length - (intOf v10).toNat)
  case atStart => exact ⟨0, [], by omega, rfl, rfl, by simp, own_no _ _ _ _, Below.refl _ _⟩
  case round =>
    obtain ⟨k, ks, hk, rfl, hzs, hkl, how, hbr⟩ := hrel
    have HO := Lib.hid how
    have HZs := Lib.hid hzs
    clear how hzs
    by_cases hlt : k < ps.length
    rotate_left 1
    · have HF := Lib.hid (show ks = keptP zs 0 ps by rw [← HZs.out, drop_none hlt, keptP, List.append_nil])
      go_wp2_with fail
      go_returns
      exact ⟨_, rfl, by rw [← HF.out]; exact SlPu.of HO.out (by omega), hbr⟩
    obtain ⟨bk, off, c, rfl, hb, hc, hat⟩ := HV.out.at hlt
    obtain ⟨c0, c1⟩ := PuAt.later hat (show Below w.heap.size w wr from hbr)
    have hlt' : (k : Int) < (ps.length : Int) := by omega
    have hk0 : (0 : Int) ≤ (k : Int) := by omega
    have HC := Lib.hid hc
    have hsz := hbr.size
    clear hc hat
    obtain ⟨t, ht⟩ : ∃ t, zs.contains (k : Int) = t := ⟨_, rfl⟩
    have HT := Lib.hid ht
    clear ht
    go_wp2_with fail
    refine (contains_any u zs (k : Int) _ (inLater HU.out (by go_grown))).mono ?_
    rintro e w1 ⟨rfl, hw1⟩
    rw [HT.out]
    have hb1 : Below wr.heap.size wr w1 := by rw [hw1]; go_grown
    have d0 : w1.cell? ⟨wr.heap.size, 0, none⟩ = some (.int .i64 c.p) := by rw [hw1]; go_cell
    have d1 : w1.cell? ⟨wr.heap.size, 1, none⟩ = some (.int .i64 c.w) := by rw [hw1]; go_cell
    have hB1 : Below w.heap.size w w1 := hbr.trans (hb1.mono hbr.size)
    have HO1 := Lib.hid (own_below HO.out hb1)
    clear hw1 hb1 HO
    cases t
    · have hz9 : ks ++ [c] ++ keptP zs (k + 1) (ps.drop (k + 1)) = keptP zs 0 ps := by
        rw [← HZs.out, drop_some HC.out, keptP, HT.out]
        simp
      have HZ9 := Lib.hid hz9
      have hown2 := HO1.out
      have hs1 := hB1.size
      clear hz9 HZs HO1
      go_wp2_with (at_builtin; refine wpList_append_own _ rfl _ _ 42 rfl w.heap.size 89 i0 (.agg #[.int .i64 0, .int .i64 0]) 2 16 Try.underlying42 HI.out HZ0.out HZ1.out HZ2.out rfl (by decide) _ _ _ rfl (hown2.alloc _) ⟨w1.heap.size, 0, none⟩ 1 1 [.int .i64 c.p, .int .i64 c.w] rfl rfl ?c1 ?c2 ?c3 ?c4 ?c5 ?_)
      case c1 => exact two_new _ _ _ _
      case c2 =>
        intro u hu
        simp at hu
        rcases hu with rfl | rfl <;> rfl
      case c3 => unfold maxLen; omega
      case c4 => omega
      case c5 => simp; omega
      intro v' w2 hown' hgrow hnil
      obtain ⟨hb2, hz2⟩ := grown_below hown2 (Below.refl w.heap.size w1) hs1 hgrow
      have hBf : Below w.heap.size w w2 := hB1.trans hb2
      have HOf : Hid (w2.ownsRow w.heap.size 89 2 v' (ks ++ [c]).length (spP (ks ++ [c]))) := Lib.hid (by rw [spP_app, List.length_append]; exact hown')
      clear hown' hgrow hnil hown2 hb2 hB1
      go_wp2_with fail
      go_roundw
      case rel => exact ⟨k + 1, ks ++ [c], by omega, by go_num, HZ9.out, by rw [List.length_append]; simp; omega, HOf.out, hBf⟩
      case measure => simp [intOf]; omega
    · have HZ9 := Lib.hid (show ks ++ keptP zs (k + 1) (ps.drop (k + 1)) = keptP zs 0 ps by
        rw [← HZs.out, drop_some HC.out, keptP, HT.out]
        simp)
      clear HZs
      go_wp2_with fail
      go_roundw
      case rel => exact ⟨k + 1, ks, by omega, by go_num, HZ9.out, by omega, HO1.out, hB1⟩
      case measure => simp [intOf]; omega
end Go.Proofs.Ytldnpnplgfkebaa
