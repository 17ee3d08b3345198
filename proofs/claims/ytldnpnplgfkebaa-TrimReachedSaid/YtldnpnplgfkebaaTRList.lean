/- The reference of layer 4: within, spanned, place, Limit; CheckLoads, CheckLimits, CheckFrames. -/
import Derived.Test.YtldnpnplgfkebaaTSl
namespace Go.Proofs.Ytldnpnplgfkebaa
open Go.RowKit

set_option maxHeartbeats 400000 in
theorem rwithin_any (n lo hi : Int) (w : World) :
    Calls Try.prog 60 #[.int .i64 n, .int .i64 lo, .int .i64 hi] w fun e w' => e = .returned (.bool (inB n lo hi)) ∧ w = w' := by
  go_enter Try.func60, Try.ntmps60
  go_wp2
  all_goals (go_returns; exact ⟨ret_bool (by unfold inB; simp; omega), rfl⟩)
set_option maxHeartbeats 400000 in
theorem rplace_any (n : Int) (w : World) : Calls Try.prog 59 #[.int .i64 n] w fun e w' => e = .returned (.bool (inB n (-20000) 20000)) ∧ w = w' := by
  go_enter Try.func59, Try.ntmps59
  go_wp2_with fail
  refine (rwithin_any n (-20000) 20000 _).mono ?_
  rintro e w1 ⟨rfl, rfl⟩
  obtain ⟨u, hu⟩ : ∃ u, inB n (-20000) 20000 = u := ⟨_, rfl⟩
  rw [hu]
  go_wp2_with fail
  go_returns
  exact ⟨ret_bool hu.symm, rfl⟩
set_option maxHeartbeats 400000 in
theorem rspanned_any (a b m : Int) (w : World) (h0 : 0 ≤ m) (h1 : m ≤ 1073741824) :
    Calls Try.prog 53 #[sp a b, .int .i64 m] w fun e w' => e = .returned (.bool (spB a b (-m) m)) ∧ Below w.heap.size w w' := by
  go_enter Try.func53, Try.ntmps53
  go_wp2
  all_goals (go_returns; exact ⟨ret_bool (by unfold spB; rw [Bool.eq_iff_iff]; simp; try omega), by go_grown⟩)
set_option maxHeartbeats 1000000 in
theorem rLimit_any (l : Li) (w : World) : Calls Try.prog 56 #[liV l] w fun e w' => e = .returned (.bool l.ok) ∧ Below w.heap.size w w' := by
  go_enter Try.func56, Try.ntmps56
  go_wp2_with fail
  refine (rwithin_any _ _ _ _).mono ?_
  rintro e w1 ⟨rfl, rfl⟩
  by_cases h1 : inB l.a (-1000) 1000 = true
  rotate_left 1
  · rw [show inB l.a (-1000) 1000 = false by simpa using h1]
    have H1 := Lib.hid (show inB l.a (-1000) 1000 = false by simpa using h1)
    clear h1
    go_wp2_with fail
    go_returns
    exact ⟨ret_bool (by unfold Li.ok; rw [H1.out]; simp), by go_grown⟩
  rw [h1]
  have H1 := Lib.hid h1
  clear h1
  go_wp2_with fail
  refine (rwithin_any _ _ _ _).mono ?_
  rintro e w1 ⟨rfl, rfl⟩
  by_cases h2 : inB l.b (-1000) 1000 = true
  rotate_left 1
  · rw [show inB l.b (-1000) 1000 = false by simpa using h2]
    have H2 := Lib.hid (show inB l.b (-1000) 1000 = false by simpa using h2)
    clear h2
    go_wp2_with fail
    go_returns
    exact ⟨ret_bool (by unfold Li.ok; rw [H1.out, H2.out]; simp), by go_grown⟩
  rw [h2]
  have H2 := Lib.hid h2
  clear h2
  go_wp2_with fail
  refine (rwithin_any _ _ _ _).mono ?_
  rintro e w1 ⟨rfl, rfl⟩
  obtain ⟨u, hu⟩ : ∃ u, inB l.c (-1000000000000000000) 1000000000000000000 = u := ⟨_, rfl⟩
  rw [hu]
  have H3 := Lib.hid hu
  clear hu
  go_wp2_with fail
  go_returns
  exact ⟨ret_bool (by unfold Li.ok; rw [H1.out, H2.out, H3.out]; simp), by go_grown⟩
end Go.Proofs.Ytldnpnplgfkebaa
/- The reference of layer 4: CheckLoads, CheckLimits, CheckFrames; Great. -/
namespace Go.Proofs.Ytldnpnplgfkebaa
open Go.RowKit

set_option maxHeartbeats 2000000 in
theorem rcheckLd_any (v : Value) (l : List Ld) (w : World) (hs : SlAny LdAt 4 w v l) :
    Calls Try.prog 17 #[v] w fun e w' => e = .returned (.int .i64 (loadsN l)) ∧ Below w.heap.size w w' := by
  obtain ⟨a, cap, rfl, hlen, hcap⟩ := hs.form
  have HS := Lib.hid hs
  clear hs
  by_cases hm : 40 < l.length
  · have hm' : (40 : Int) < (l.length : Int) := by omega
    have HM := Lib.hid hm
    go_enter Try.func17, Try.ntmps17
    go_wp2_with fail
    go_returns
    exact ⟨ret_int (by unfold loadsN listN; rw [if_pos HM.out]), by go_grown⟩
  have hm' : ¬ (40 : Int) < (l.length : Int) := by omega
  have HM := Lib.hid hm
  go_enter Try.func17, Try.ntmps17
  go_wp2_with fail
  go_loopw [3] (fun v3 wr => AllHead Ld.ok l w wr v3) (fun v3 _ => l.length - (intOf v3).toNat)
  case atStart => exact ⟨0, by omega, rfl, rfl, Below.refl _ _⟩
  case round =>
    obtain ⟨k, hk, rfl, he, hbr⟩ := hrel
    have HE := Lib.hid he
    clear he
    by_cases hlt : k < l.length
    rotate_left 1
    · have hw : l.all Ld.ok = true := by rw [HE.out, drop_none hlt]; rfl
      have HW := Lib.hid hw
      clear hw
      go_wp2_with fail
      go_returns
      exact ⟨ret_int (by unfold loadsN listN; rw [if_neg HM.out, if_pos HW.out]), hbr⟩
    obtain ⟨b, off, c, rfl, hb, hc, hat⟩ := HS.out.at hlt
    obtain ⟨c0, c1, c2, c3⟩ := LdAt.later hat (show Below w.heap.size w wr from hbr)
    have hlt' : (k : Int) < (l.length : Int) := by omega
    have hk0 : (0 : Int) ≤ (k : Int) := by omega
    have HC := Lib.hid hc
    clear hc hat
    go_wp2_with fail
    refine (rspanned_any c.a0 c.a1 20000 _ (by omega) (by omega)).mono ?_
    rintro e w1 ⟨rfl, hb1⟩
    have hB1 : Below w.heap.size w w1 := hbr.trans ((two (W := wr) (by go_grown) hb1).mono hbr.size)
    have e2 := cell_later hb1 c2
    have e3 := cell_later hb1 c3
    have hb' : b < w1.heap.size := World.block_lt_of_cell? _ _ e2
    clear hb1 c0 c1 c2 c3
    by_cases h1 : spB c.a0 c.a1 (-20000) 20000 = true
    rotate_left 1
    · skip
      rw [show spB c.a0 c.a1 (-20000) 20000 = false by simpa using h1]
      have H1 := Lib.hid (show spB c.a0 c.a1 (-20000) 20000 = false by simpa using h1)
      clear h1
      go_wp2_with fail
      go_returns
      exact ⟨ret_int (by unfold loadsN listN; rw [if_neg HM.out, HE.out, drop_some HC.out, List.all_cons]; unfold Ld.ok; simp [H1.out]), by go_grown⟩
    rw [h1]
    have H1 := Lib.hid h1
    clear h1
    go_wp2_with fail
    refine (rspanned_any c.w0 c.w1 1073741824 _ (by omega) (by omega)).mono ?_
    rintro e w2 ⟨rfl, hb2⟩
    have hB2 : Below w.heap.size w w2 := hB1.trans ((two (W := w1) (by go_grown) hb2).mono hB1.size)
    clear hb2 e2 e3 hB1 hb'
    by_cases h2 : spB c.w0 c.w1 (-1073741824) 1073741824 = true
    rotate_left 1
    · skip
      rw [show spB c.w0 c.w1 (-1073741824) 1073741824 = false by simpa using h2]
      have H2 := Lib.hid (show spB c.w0 c.w1 (-1073741824) 1073741824 = false by simpa using h2)
      clear h2
      go_wp2_with fail
      go_returns
      exact ⟨ret_int (by unfold loadsN listN; rw [if_neg HM.out, HE.out, drop_some HC.out, List.all_cons]; unfold Ld.ok; simp [H2.out]), by go_grown⟩
    rw [h2]
    have H2 := Lib.hid h2
    clear h2
    go_wp2_with fail
    go_roundw
    case rel => exact ⟨k + 1, by omega, by go_num, by rw [HE.out, drop_some HC.out, List.all_cons, show c.ok = true by unfold Ld.ok; simp [H1.out, H2.out]]; rfl, by go_grown⟩
    case measure => simp [intOf]; omega
set_option maxHeartbeats 2000000 in
theorem rcheckLi_any (v : Value) (l : List Li) (w : World) (hs : SlAny LiAt 3 w v l) :
    Calls Try.prog 19 #[v] w fun e w' => e = .returned (.int .i64 (limitsN l)) ∧ Below w.heap.size w w' := by
  obtain ⟨a, cap, rfl, hlen, hcap⟩ := hs.form
  have HS := Lib.hid hs
  clear hs
  by_cases hm : 12 < l.length
  · have hm' : (12 : Int) < (l.length : Int) := by omega
    have HM := Lib.hid hm
    go_enter Try.func19, Try.ntmps19
    go_wp2_with fail
    go_returns
    exact ⟨ret_int (by unfold limitsN listN; rw [if_pos HM.out]), by go_grown⟩
  have hm' : ¬ (12 : Int) < (l.length : Int) := by omega
  have HM := Lib.hid hm
  go_enter Try.func19, Try.ntmps19
  go_wp2_with fail
  go_loopw [3] (fun v3 wr => AllHead Li.ok l w wr v3) (fun v3 _ => l.length - (intOf v3).toNat)
  case atStart => exact ⟨0, by omega, rfl, rfl, Below.refl _ _⟩
  case round =>
    obtain ⟨k, hk, rfl, he, hbr⟩ := hrel
    have HE := Lib.hid he
    clear he
    by_cases hlt : k < l.length
    rotate_left 1
    · have hw : l.all Li.ok = true := by rw [HE.out, drop_none hlt]; rfl
      have HW := Lib.hid hw
      clear hw
      go_wp2_with fail
      go_returns
      exact ⟨ret_int (by unfold limitsN listN; rw [if_neg HM.out, if_pos HW.out]), hbr⟩
    obtain ⟨b, off, c, rfl, hb, hc, hat⟩ := HS.out.at hlt
    obtain ⟨c0, c1, c2⟩ := LiAt.later hat (show Below w.heap.size w wr from hbr)
    have hlt' : (k : Int) < (l.length : Int) := by omega
    have hk0 : (0 : Int) ≤ (k : Int) := by omega
    have HC := Lib.hid hc
    clear hc hat
    go_wp2_with fail
    refine (rLimit_any c _).mono ?_
    rintro e w1 ⟨rfl, hb1⟩
    have hB1 : Below w.heap.size w w1 := hbr.trans ((two (W := wr) (by go_grown) hb1).mono hbr.size)
    clear hb1 c0 c1 c2
    by_cases h1 : c.ok = true
    rotate_left 1
    · rw [show c.ok = false by simpa using h1]
      have H1 := Lib.hid (show c.ok = false by simpa using h1)
      clear h1
      go_wp2_with fail
      go_returns
      exact ⟨ret_int (by unfold limitsN listN; rw [if_neg HM.out, HE.out, drop_some HC.out, List.all_cons, H1.out]; rfl), by go_grown⟩
    rw [h1]
    have H1 := Lib.hid h1
    clear h1
    go_wp2_with fail
    go_roundw
    case rel => exact ⟨k + 1, by omega, by go_num, by rw [HE.out, drop_some HC.out, List.all_cons, H1.out]; rfl, by go_grown⟩
    case measure => simp [intOf]; omega
set_option maxHeartbeats 2000000 in
theorem rcheckFr_any (v : Value) (l : List Fr) (w : World) (hs : SlAny FrAt 3 w v l) :
    Calls Try.prog 21 #[v] w fun e w' => e = .returned (.int .i64 (framesN l)) ∧ Below w.heap.size w w' := by
  obtain ⟨a, cap, rfl, hlen, hcap⟩ := hs.form
  have HS := Lib.hid hs
  clear hs
  by_cases hm : 12 < l.length
  · have hm' : (12 : Int) < (l.length : Int) := by omega
    have HM := Lib.hid hm
    go_enter Try.func21, Try.ntmps21
    go_wp2_with fail
    go_returns
    exact ⟨ret_int (by unfold framesN listN; rw [if_pos HM.out]), by go_grown⟩
  have hm' : ¬ (12 : Int) < (l.length : Int) := by omega
  have HM := Lib.hid hm
  go_enter Try.func21, Try.ntmps21
  go_wp2_with fail
  go_loopw [3] (fun v3 wr => AllHead Fr.ok l w wr v3) (fun v3 _ => l.length - (intOf v3).toNat)
  case atStart => exact ⟨0, by omega, rfl, rfl, Below.refl _ _⟩
  case round =>
    obtain ⟨k, hk, rfl, he, hbr⟩ := hrel
    have HE := Lib.hid he
    clear he
    by_cases hlt : k < l.length
    rotate_left 1
    · have hw : l.all Fr.ok = true := by rw [HE.out, drop_none hlt]; rfl
      have HW := Lib.hid hw
      clear hw
      go_wp2_with fail
      go_returns
      exact ⟨ret_int (by unfold framesN listN; rw [if_neg HM.out, if_pos HW.out]), hbr⟩
    obtain ⟨b, off, c, rfl, hb, hc, hat⟩ := HS.out.at hlt
    obtain ⟨c0, c1, c2⟩ := FrAt.later hat (show Below w.heap.size w wr from hbr)
    have hlt' : (k : Int) < (l.length : Int) := by omega
    have hk0 : (0 : Int) ≤ (k : Int) := by omega
    have HC := Lib.hid hc
    clear hc hat
    go_wp2_with fail
    refine (rplace_any c.p _).mono ?_
    rintro e w1 ⟨rfl, rfl⟩
    have hbw : b < wr.heap.size := World.block_lt_of_cell? _ _ c1
    by_cases h1 : inB c.p (-20000) 20000 = true
    rotate_left 1
    · skip
      rw [show inB c.p (-20000) 20000 = false by simpa using h1]
      have H1 := Lib.hid (show inB c.p (-20000) 20000 = false by simpa using h1)
      clear h1
      go_wp2_with fail
      go_returns
      exact ⟨ret_int (by unfold framesN listN; rw [if_neg HM.out, HE.out, drop_some HC.out, List.all_cons]; unfold Fr.ok; simp [H1.out]), by go_grown⟩
    rw [h1]
    have H1 := Lib.hid h1
    clear h1
    go_wp2_with fail
    refine (rwithin_any c.s _ _ _).mono ?_
    rintro e w1 ⟨rfl, rfl⟩
    by_cases h2 : inB c.s 0 1000000000000 = true
    rotate_left 1
    · skip
      rw [show inB c.s 0 1000000000000 = false by simpa using h2]
      have H2 := Lib.hid (show inB c.s 0 1000000000000 = false by simpa using h2)
      clear h2
      go_wp2_with fail
      go_returns
      exact ⟨ret_int (by unfold framesN listN; rw [if_neg HM.out, HE.out, drop_some HC.out, List.all_cons]; unfold Fr.ok; simp [H2.out]), by go_grown⟩
    rw [h2]
    have H2 := Lib.hid h2
    clear h2
    go_wp2_with fail
    refine (rwithin_any c.b _ _ _).mono ?_
    rintro e w1 ⟨rfl, rfl⟩
    by_cases h3 : inB c.b 0 10000000000000000 = true
    rotate_left 1
    · skip
      rw [show inB c.b 0 10000000000000000 = false by simpa using h3]
      have H3 := Lib.hid (show inB c.b 0 10000000000000000 = false by simpa using h3)
      clear h3
      go_wp2_with fail
      go_returns
      exact ⟨ret_int (by unfold framesN listN; rw [if_neg HM.out, HE.out, drop_some HC.out, List.all_cons]; unfold Fr.ok; simp [H3.out]), by go_grown⟩
    rw [h3]
    have H3 := Lib.hid h3
    clear h3
    go_wp2_with fail
    go_roundw
    case rel => exact ⟨k + 1, by omega, by go_num, by rw [HE.out, drop_some HC.out, List.all_cons, show c.ok = true by unfold Fr.ok; simp [H1.out, H2.out, H3.out]]; rfl, by go_grown⟩
    case measure => simp [intOf]; omega

/-- Whether something is great. -/
def greatB (a b c d : Int) : Bool := decide (50 < a) || decide (50 < b) || decide (50 < c) || decide (50 < d)
set_option maxHeartbeats 400000 in
theorem great_any (a b c d : Int) (w : World) :
    Calls Try.prog 15 #[.int .i64 a, .int .i64 b, .int .i64 c, .int .i64 d] w fun e w' => e = .returned (.bool (greatB a b c d)) ∧ w = w' := by
  go_enter Try.func15, Try.ntmps15
  go_wp2
  all_goals (go_returns; exact ⟨ret_bool (by unfold greatB; simp [*]), rfl⟩)
end Go.Proofs.Ytldnpnplgfkebaa
