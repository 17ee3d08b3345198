/- Package trim: all, checkList, over loads, limits and frames; CheckLoads, CheckLimits, CheckFrames. -/
import Derived.Test.YtldnpnplgfkebaaTCheck
namespace Go.Proofs.Ytldnpnplgfkebaa
open Go.RowKit

set_option maxHeartbeats 2000000 in
theorem allLd_any (v : Value) (l : List Ld) (w : World) (hs : SlAny LdAt 4 w v l) :
    Calls Try.prog 103 #[v, .func (.func 52) #[] #[]] w fun e w' => e = .returned (.bool (l.all Ld.ok)) ∧ Below w.heap.size w w' := by
  obtain ⟨a, cap, rfl, hlen, hcap⟩ := hs.form
  have HS := Lib.hid hs
  clear hs
  go_enter Try.func103, Try.ntmps103
  go_wp2_with fail
  go_loopw [9] (fun v9 wr => AllHead Ld.ok l w wr v9) (fun v9 _ => l.length - (intOf v9).toNat)
  case atStart => exact ⟨0, by omega, rfl, rfl, Below.refl _ _⟩
  case round =>
    obtain ⟨k, hk, rfl, he, hbr⟩ := hrel
    have HE := Lib.hid he
    clear he
    by_cases hlt : k < l.length
    · obtain ⟨b, off, c, rfl, hb, hc, hat⟩ := HS.out.at hlt
      obtain ⟨c0, c1, c2, c3⟩ := LdAt.later hat (show Below w.heap.size w wr from hbr)
      have hlt' : (k : Int) < (l.length : Int) := by omega
      have hk0 : (0 : Int) ≤ (k : Int) := by omega
      have HC := Lib.hid hc
      clear hc hat
      go_wp2_with fail
      refine (isLoad_any c _).mono ?_
      rintro e w1 ⟨rfl, hb1⟩
      have hB1 : Below w.heap.size w w1 := hbr.trans ((two (W := wr) (by go_grown) hb1).mono hbr.size)
      clear hb1
      by_cases h : c.ok = true
      · rw [h]
        have H := Lib.hid h
        clear h
        go_wp2_with fail
        go_roundw
        case rel => exact ⟨k + 1, by omega, by go_num, by rw [HE.out, drop_some HC.out, List.all_cons, H.out]; rfl, hB1⟩
        case measure => simp [intOf]; omega
      · rw [show c.ok = false by simpa using h]
        have H := Lib.hid (show c.ok = false by simpa using h)
        clear h
        go_wp2_with fail
        go_returns
        exact ⟨ret_bool (by rw [HE.out, drop_some HC.out, List.all_cons, H.out]; rfl), hB1⟩
    · have hw : l.all Ld.ok = true := by rw [HE.out, drop_none hlt]; rfl
      have HW := Lib.hid hw
      clear hw
      go_wp2_with fail
      go_returns
      exact ⟨ret_bool HW.out.symm, hbr⟩
set_option maxHeartbeats 1000000 in
theorem checkListLd_any (v : Value) (l : List Ld) (most : Nat) (bad : Int) (w : World) (hs : SlAny LdAt 4 w v l) :
    Calls Try.prog 51 #[v, .int .i64 most, .func (.func 52) #[] #[], .int .i64 bad] w fun e w' => e = .returned (.int .i64 (listN most Ld.ok bad l)) ∧ Below w.heap.size w w' := by
  obtain ⟨a, cap, rfl, hlen, hcap⟩ := hs.form
  have HS := Lib.hid hs
  clear hs
  by_cases hm : most < l.length
  · have hm' : (most : Int) < (l.length : Int) := by omega
    have HM := Lib.hid hm
    go_enter Try.func51, Try.ntmps51
    go_wp2_with fail
    go_returns
    exact ⟨ret_int (by unfold listN; rw [if_pos HM.out]), by go_grown⟩
  · have hm' : ¬ (most : Int) < (l.length : Int) := by omega
    have HM := Lib.hid hm
    go_enter Try.func51, Try.ntmps51
    go_wp2_with fail
    refine (allLd_any _ l _ HS.out).mono ?_
    rintro e w1 ⟨rfl, hb1⟩
    by_cases h : l.all Ld.ok = true
    · rw [h]
      have H := Lib.hid h
      clear h
      go_wp2_with fail
      go_returns
      exact ⟨ret_int (by unfold listN; rw [if_neg HM.out, if_pos H.out]), by go_grown⟩
    · rw [show l.all Ld.ok = false by simpa using h]
      have H := Lib.hid h
      clear h
      go_wp2_with fail
      go_returns
      exact ⟨ret_int (by unfold listN; rw [if_neg HM.out, if_neg H.out]), by go_grown⟩
set_option maxHeartbeats 400000 in
theorem checkLd_any (v : Value) (l : List Ld) (w : World) (hs : SlAny LdAt 4 w v l) :
    Calls Try.prog 16 #[v] w fun e w' => e = .returned (.int .i64 (loadsN l)) ∧ Below w.heap.size w w' := by
  have HS := Lib.hid hs
  clear hs
  go_enter Try.func16, Try.ntmps16
  go_wp2_with fail
  refine (checkListLd_any _ l 40 40 _ HS.out).mono ?_
  rintro e w1 ⟨rfl, hb1⟩
  obtain ⟨n, hn⟩ : ∃ n, listN 40 Ld.ok 40 l = n := ⟨_, rfl⟩
  rw [hn]
  have HN := Lib.hid hn
  clear hn
  go_wp2_with fail
  go_returns
  exact ⟨ret_int HN.out.symm, hb1⟩
set_option maxHeartbeats 2000000 in
theorem allLi_any (v : Value) (l : List Li) (w : World) (hs : SlAny LiAt 3 w v l) :
    Calls Try.prog 104 #[v, .func (.func 55) #[] #[]] w fun e w' => e = .returned (.bool (l.all Li.ok)) ∧ Below w.heap.size w w' := by
  obtain ⟨a, cap, rfl, hlen, hcap⟩ := hs.form
  have HS := Lib.hid hs
  clear hs
  go_enter Try.func104, Try.ntmps104
  go_wp2_with fail
  go_loopw [9] (fun v9 wr => AllHead Li.ok l w wr v9) (fun v9 _ => l.length - (intOf v9).toNat)
  case atStart => exact ⟨0, by omega, rfl, rfl, Below.refl _ _⟩
  case round =>
    obtain ⟨k, hk, rfl, he, hbr⟩ := hrel
    have HE := Lib.hid he
    clear he
    by_cases hlt : k < l.length
    · obtain ⟨b, off, c, rfl, hb, hc, hat⟩ := HS.out.at hlt
      obtain ⟨c0, c1, c2⟩ := LiAt.later hat (show Below w.heap.size w wr from hbr)
      have hlt' : (k : Int) < (l.length : Int) := by omega
      have hk0 : (0 : Int) ≤ (k : Int) := by omega
      have HC := Lib.hid hc
      clear hc hat
      go_wp2_with fail
      refine (isLimit_any c _).mono ?_
      rintro e w1 ⟨rfl, hb1⟩
      have hB1 : Below w.heap.size w w1 := hbr.trans ((two (W := wr) (by go_grown) hb1).mono hbr.size)
      clear hb1
      by_cases h : c.ok = true
      · rw [h]
        have H := Lib.hid h
        clear h
        go_wp2_with fail
        go_roundw
        case rel => exact ⟨k + 1, by omega, by go_num, by rw [HE.out, drop_some HC.out, List.all_cons, H.out]; rfl, hB1⟩
        case measure => simp [intOf]; omega
      · rw [show c.ok = false by simpa using h]
        have H := Lib.hid (show c.ok = false by simpa using h)
        clear h
        go_wp2_with fail
        go_returns
        exact ⟨ret_bool (by rw [HE.out, drop_some HC.out, List.all_cons, H.out]; rfl), hB1⟩
    · have hw : l.all Li.ok = true := by rw [HE.out, drop_none hlt]; rfl
      have HW := Lib.hid hw
      clear hw
      go_wp2_with fail
      go_returns
      exact ⟨ret_bool HW.out.symm, hbr⟩
set_option maxHeartbeats 1000000 in
theorem checkListLi_any (v : Value) (l : List Li) (most : Nat) (bad : Int) (w : World) (hs : SlAny LiAt 3 w v l) :
    Calls Try.prog 54 #[v, .int .i64 most, .func (.func 55) #[] #[], .int .i64 bad] w fun e w' => e = .returned (.int .i64 (listN most Li.ok bad l)) ∧ Below w.heap.size w w' := by
  obtain ⟨a, cap, rfl, hlen, hcap⟩ := hs.form
  have HS := Lib.hid hs
  clear hs
  by_cases hm : most < l.length
  · have hm' : (most : Int) < (l.length : Int) := by omega
    have HM := Lib.hid hm
    go_enter Try.func54, Try.ntmps54
    go_wp2_with fail
    go_returns
    exact ⟨ret_int (by unfold listN; rw [if_pos HM.out]), by go_grown⟩
  · have hm' : ¬ (most : Int) < (l.length : Int) := by omega
    have HM := Lib.hid hm
    go_enter Try.func54, Try.ntmps54
    go_wp2_with fail
    refine (allLi_any _ l _ HS.out).mono ?_
    rintro e w1 ⟨rfl, hb1⟩
    by_cases h : l.all Li.ok = true
    · rw [h]
      have H := Lib.hid h
      clear h
      go_wp2_with fail
      go_returns
      exact ⟨ret_int (by unfold listN; rw [if_neg HM.out, if_pos H.out]), by go_grown⟩
    · rw [show l.all Li.ok = false by simpa using h]
      have H := Lib.hid h
      clear h
      go_wp2_with fail
      go_returns
      exact ⟨ret_int (by unfold listN; rw [if_neg HM.out, if_neg H.out]), by go_grown⟩
set_option maxHeartbeats 400000 in
theorem checkLi_any (v : Value) (l : List Li) (w : World) (hs : SlAny LiAt 3 w v l) :
    Calls Try.prog 18 #[v] w fun e w' => e = .returned (.int .i64 (limitsN l)) ∧ Below w.heap.size w w' := by
  have HS := Lib.hid hs
  clear hs
  go_enter Try.func18, Try.ntmps18
  go_wp2_with fail
  refine (checkListLi_any _ l 12 41 _ HS.out).mono ?_
  rintro e w1 ⟨rfl, hb1⟩
  obtain ⟨n, hn⟩ : ∃ n, listN 12 Li.ok 41 l = n := ⟨_, rfl⟩
  rw [hn]
  have HN := Lib.hid hn
  clear hn
  go_wp2_with fail
  go_returns
  exact ⟨ret_int HN.out.symm, hb1⟩
set_option maxHeartbeats 2000000 in
theorem allFr_any (v : Value) (l : List Fr) (w : World) (hs : SlAny FrAt 3 w v l) :
    Calls Try.prog 105 #[v, .func (.func 58) #[] #[]] w fun e w' => e = .returned (.bool (l.all Fr.ok)) ∧ Below w.heap.size w w' := by
  obtain ⟨a, cap, rfl, hlen, hcap⟩ := hs.form
  have HS := Lib.hid hs
  clear hs
  go_enter Try.func105, Try.ntmps105
  go_wp2_with fail
  go_loopw [9] (fun v9 wr => AllHead Fr.ok l w wr v9) (fun v9 _ => l.length - (intOf v9).toNat)
  case atStart => exact ⟨0, by omega, rfl, rfl, Below.refl _ _⟩
  case round =>
    obtain ⟨k, hk, rfl, he, hbr⟩ := hrel
    have HE := Lib.hid he
    clear he
    by_cases hlt : k < l.length
    · obtain ⟨b, off, c, rfl, hb, hc, hat⟩ := HS.out.at hlt
      obtain ⟨c0, c1, c2⟩ := FrAt.later hat (show Below w.heap.size w wr from hbr)
      have hlt' : (k : Int) < (l.length : Int) := by omega
      have hk0 : (0 : Int) ≤ (k : Int) := by omega
      have HC := Lib.hid hc
      clear hc hat
      go_wp2_with fail
      refine (isFrame_any c _).mono ?_
      rintro e w1 ⟨rfl, hb1⟩
      have hB1 : Below w.heap.size w w1 := hbr.trans ((two (W := wr) (by go_grown) hb1).mono hbr.size)
      clear hb1
      by_cases h : c.ok = true
      · rw [h]
        have H := Lib.hid h
        clear h
        go_wp2_with fail
        go_roundw
        case rel => exact ⟨k + 1, by omega, by go_num, by rw [HE.out, drop_some HC.out, List.all_cons, H.out]; rfl, hB1⟩
        case measure => simp [intOf]; omega
      · rw [show c.ok = false by simpa using h]
        have H := Lib.hid (show c.ok = false by simpa using h)
        clear h
        go_wp2_with fail
        go_returns
        exact ⟨ret_bool (by rw [HE.out, drop_some HC.out, List.all_cons, H.out]; rfl), hB1⟩
    · have hw : l.all Fr.ok = true := by rw [HE.out, drop_none hlt]; rfl
      have HW := Lib.hid hw
      clear hw
      go_wp2_with fail
      go_returns
      exact ⟨ret_bool HW.out.symm, hbr⟩
set_option maxHeartbeats 1000000 in
theorem checkListFr_any (v : Value) (l : List Fr) (most : Nat) (bad : Int) (w : World) (hs : SlAny FrAt 3 w v l) :
    Calls Try.prog 57 #[v, .int .i64 most, .func (.func 58) #[] #[], .int .i64 bad] w fun e w' => e = .returned (.int .i64 (listN most Fr.ok bad l)) ∧ Below w.heap.size w w' := by
  obtain ⟨a, cap, rfl, hlen, hcap⟩ := hs.form
  have HS := Lib.hid hs
  clear hs
  by_cases hm : most < l.length
  · have hm' : (most : Int) < (l.length : Int) := by omega
    have HM := Lib.hid hm
    go_enter Try.func57, Try.ntmps57
    go_wp2_with fail
    go_returns
    exact ⟨ret_int (by unfold listN; rw [if_pos HM.out]), by go_grown⟩
  · have hm' : ¬ (most : Int) < (l.length : Int) := by omega
    have HM := Lib.hid hm
    go_enter Try.func57, Try.ntmps57
    go_wp2_with fail
    refine (allFr_any _ l _ HS.out).mono ?_
    rintro e w1 ⟨rfl, hb1⟩
    by_cases h : l.all Fr.ok = true
    · rw [h]
      have H := Lib.hid h
      clear h
      go_wp2_with fail
      go_returns
      exact ⟨ret_int (by unfold listN; rw [if_neg HM.out, if_pos H.out]), by go_grown⟩
    · rw [show l.all Fr.ok = false by simpa using h]
      have H := Lib.hid h
      clear h
      go_wp2_with fail
      go_returns
      exact ⟨ret_int (by unfold listN; rw [if_neg HM.out, if_neg H.out]), by go_grown⟩
set_option maxHeartbeats 400000 in
theorem checkFr_any (v : Value) (l : List Fr) (w : World) (hs : SlAny FrAt 3 w v l) :
    Calls Try.prog 20 #[v] w fun e w' => e = .returned (.int .i64 (framesN l)) ∧ Below w.heap.size w w' := by
  have HS := Lib.hid hs
  clear hs
  go_enter Try.func20, Try.ntmps20
  go_wp2_with fail
  refine (checkListFr_any _ l 12 42 _ HS.out).mono ?_
  rintro e w1 ⟨rfl, hb1⟩
  obtain ⟨n, hn⟩ : ∃ n, listN 12 Fr.ok 42 l = n := ⟨_, rfl⟩
  rw [hn]
  have HN := Lib.hid hn
  clear hn
  go_wp2_with fail
  go_returns
  exact ⟨ret_int HN.out.symm, hb1⟩
end Go.Proofs.Ytldnpnplgfkebaa
