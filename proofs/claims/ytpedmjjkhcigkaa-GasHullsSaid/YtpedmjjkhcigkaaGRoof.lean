/- Package gas: Blow and Roof. -/
import Derived.Test.YtpedmjjkhcigkaaGBlow
namespace Go.Proofs.Ytpedmjjkhcigkaa
open Go.RowKit

/-- The specification's amounts. -/
def rblowP (rm gs w0 w1 bg ls ms p0 p1 t0 t1 : Int) : Int × Int := (blowLo rm gs w0 ls p1 t0, blowHi rm gs w1 bg ms p0 t1)
theorem blow_same {rm gs w0 w1 bl bg ls ms p0 p1 t0 t1 : Int} (hh : hullB rm gs w0 w1 bl bg ls ms = true) (ha : airB p0 p1 t0 t1 = true) :
    (blowP rm gs w0 w1 bg ls ms p0 p1 t0 t1).1 = (rblowP rm gs w0 w1 bg ls ms p0 p1 t0 t1).1 ∧
    ((blowP rm gs w0 w1 bg ls ms p0 p1 t0 t1).2 = (rblowP rm gs w0 w1 bg ls ms p0 p1 t0 t1).2 ∨
      ((blowP rm gs w0 w1 bg ls ms p0 p1 t0 t1).2 < (blowP rm gs w0 w1 bg ls ms p0 p1 t0 t1).1 ∧ (rblowP rm gs w0 w1 bg ls ms p0 p1 t0 t1).2 < (rblowP rm gs w0 w1 bg ls ms p0 p1 t0 t1).1)) := by
  have h1 : (blowP rm gs w0 w1 bg ls ms p0 p1 t0 t1).1 = blowLo rm gs w0 ls p1 t0 := blow_lo hh ha rfl
  have h2 := blow_hi (bl := bl) (ls := ls) (ms := ms) (p1 := p1) (t0 := t0) (w0 := w0) hh ha rfl
  have h3 : 0 ≤ blowLo rm gs w0 ls p1 t0 := by unfold blowLo; omega
  have e2 : (blowP rm gs w0 w1 bg ls ms p0 p1 t0 t1).2 = min (fl (blowX rm gs ms p0 p1 t0 t1 w0 w1).1.1 (blowX rm gs ms p0 p1 t0 t1 w0 w1).1.2) bg := rfl
  have e3 : (rblowP rm gs w0 w1 bg ls ms p0 p1 t0 t1).1 = blowLo rm gs w0 ls p1 t0 := rfl
  have e4 : (rblowP rm gs w0 w1 bg ls ms p0 p1 t0 t1).2 = blowHi rm gs w1 bg ms p0 t1 := rfl
  rw [h1, e2, e3, e4]
  refine ⟨rfl, ?_⟩
  rcases h2 with h2 | ⟨h2, h4⟩
  · exact .inl h2
  · exact .inr ⟨Int.lt_of_lt_of_le h2 h3, Int.lt_of_lt_of_le h4 h3⟩
/-- What Blow returns of amounts. -/
def amtE (P : Int × Int) (n : Int) : Ending := if n = 0 then (if P.2 < P.1 then .returned (.tuple #[sp 0 0, .int .i64 6]) else .returned (.tuple #[sp P.1 P.2, .int .i64 0])) else .returned (.tuple #[sp 0 0, .int .i64 n])
def blowE (rm gs w0 w1 bl bg ls ms p0 p1 t0 t1 : Int) : Ending := amtE (blowP rm gs w0 w1 bg ls ms p0 p1 t0 t1) (tightN rm gs w0 w1 bl bg ls ms p0 p1 t0 t1)
def rblowE (rm gs w0 w1 bl bg ls ms p0 p1 t0 t1 : Int) : Ending := amtE (rblowP rm gs w0 w1 bg ls ms p0 p1 t0 t1) (tightN rm gs w0 w1 bl bg ls ms p0 p1 t0 t1)
theorem blowE_same (rm gs w0 w1 bl bg ls ms p0 p1 t0 t1 : Int) : rblowE rm gs w0 w1 bl bg ls ms p0 p1 t0 t1 = blowE rm gs w0 w1 bl bg ls ms p0 p1 t0 t1 := by
  unfold blowE rblowE amtE
  by_cases h0 : tightN rm gs w0 w1 bl bg ls ms p0 p1 t0 t1 = 0
  · rw [if_pos h0, if_pos h0]
    obtain ⟨hh, ha⟩ := tight_ok h0
    obtain ⟨h1, h2⟩ := blow_same hh ha
    rcases h2 with h2 | ⟨h2, h3⟩
    · rw [h1, h2]
    · rw [if_pos h2, if_pos h3]
  · rw [if_neg h0, if_neg h0]

set_option maxRecDepth 100000 in
set_option maxHeartbeats 4000000 in
theorem blowQ_any (rm gs w0 w1' bl bg ls ms p0 p1 t0 t1 : Int) (w : World) :
    Calls Try.prog 33 #[hullV rm gs w0 w1' bl bg ls ms, airV p0 p1 t0 t1] w fun e w' => e = blowE rm gs w0 w1' bl bg ls ms p0 p1 t0 t1 ∧ Below w.heap.size w w' := by
  obtain ⟨n, hn⟩ : ∃ n, tightN rm gs w0 w1' bl bg ls ms p0 p1 t0 t1 = n := ⟨_, rfl⟩
  have HN := Lib.hid hn
  have HV : Hid (n = 0 → hullB rm gs w0 w1' bl bg ls ms = true ∧ airB p0 p1 t0 t1 = true) := Lib.hid (fun h => tight_ok (hn.trans h))
  unfold blowE amtE
  rw [hn]
  clear hn
  by_cases h0 : n = 0
  · subst h0
    rw [if_pos rfl]
    obtain ⟨P, hP⟩ : ∃ P, blowP rm gs w0 w1' bg ls ms p0 p1 t0 t1 = P := ⟨_, rfl⟩
    obtain ⟨lo, hi⟩ := P
    rw [hP]
    have HP := Lib.hid hP
    clear hP
    obtain ⟨Z, hZ⟩ : ∃ Z, (if (lo, hi).2 < (lo, hi).1 then Ending.returned (.tuple #[sp 0 0, .int .i64 6]) else .returned (.tuple #[sp (lo, hi).1 (lo, hi).2, .int .i64 0])) = Z := ⟨_, rfl⟩
    rw [hZ]
    have HZ := Lib.hid hZ
    clear hZ
    have hA := (HV.out rfl)
    have HA := Lib.hid hA
    clear HV hA
    go_enter Try.func33, Try.ntmps33
    go_wp2_with fail
    refine (checkHullIn_any rm gs w0 w1' bl bg ls ms p0 p1 t0 t1 _).mono ?_
    rintro e w1 ⟨rfl, hb1⟩
    rw [HN.out]
    have hB1 : Below w.heap.size w w1 := (after (w := w) (by go_grown) hb1).1
    have K1 := Lib.hid (show Eight w1 w.heap.size rm gs w0 w1' bl bg ls ms from Eight.later ⟨by go_cell, by go_cell, by go_cell, by go_cell, by go_cell, by go_cell, by go_cell, by go_cell⟩ hb1)
    have A1 := Lib.hid (show Four w1 (w.heap.size + 1) p0 p1 t0 t1 from Four.later ⟨by go_cell, by go_cell, by go_cell, by go_cell⟩ hb1)
    have N1 := Lib.hid (show NewBox w1 (w.heap.size + 1 + 1) from NewBox.later ⟨by go_cell, by go_cell, by go_cell, by go_cell⟩ hb1)
    clear hb1
    obtain ⟨c0, c1, c2, c3, c4, c5, c6, c7⟩ := K1.out
    obtain ⟨a0, a1, a2, a3⟩ := A1.out
    go_wp2_with fail
    refine (blow_any rm gs w0 w1' bl bg ls ms p0 p1 t0 t1 _ HA.out.1 HA.out.2).mono ?_
    rintro e w2 ⟨rfl, hb2⟩
    rw [HP.out]
    have hB2 : Below w.heap.size w w2 := hB1.trans (hb2.mono hB1.size)
    have N2 := Lib.hid (N1.out.later hb2)
    clear hb2 hB1 c0 c1 c2 c3 c4 c5 c6 c7 a0 a1 a2 a3 N1 A1 K1
    go_wp2_with fail
    refine (isNone_any lo hi _).mono ?_
    rintro e w3 ⟨rfl, hb3⟩
    have hbb3 : Below w2.heap.size w2 w3 := two (by go_grown) hb3
    have hB3 : Below w.heap.size w w3 := hB2.trans (hbb3.mono hB2.size)
    obtain ⟨s0, s1⟩ := show Two2 w3 w2.heap.size lo hi from Two2.later ⟨by go_cell, by go_cell⟩ hb3
    obtain ⟨l0, l1, lf0, lf1⟩ := N2.out.later hbb3
    clear hb3 hbb3 hB2 N2
    by_cases hq : hi < lo
    · rw [show decide (hi < lo) = true by simpa using hq]
      have e1 : Z = .returned (.tuple #[sp 0 0, .int .i64 6]) := by rw [← HZ.out, if_pos hq]
      have E1 := Lib.hid e1
      clear HZ e1
      go_wp2_with fail
      exact bodyPost_ret (v := .tuple #[sp 0 0, .int .i64 6]) (by simp [results, Try.results33, go_sem, *]) rfl ⟨E1.out.symm, by go_grown⟩
    · rw [show decide (hi < lo) = false by simpa using hq]
      have e1 : Z = .returned (.tuple #[sp lo hi, .int .i64 0]) := by rw [← HZ.out, if_neg hq]
      have E1 := Lib.hid e1
      clear HZ e1
      go_wp2_with fail
      exact bodyPost_ret (v := .tuple #[sp lo hi, .int .i64 0]) (by simp [results, Try.results33, go_sem, *]) rfl ⟨E1.out.symm, by go_grown⟩
  · rw [if_neg h0]
    go_enter Try.func33, Try.ntmps33
    go_wp2_with fail
    refine (checkHullIn_any rm gs w0 w1' bl bg ls ms p0 p1 t0 t1 _).mono ?_
    rintro e w1 ⟨rfl, hb1⟩
    rw [HN.out]
    have hB1 : Below w.heap.size w w1 := (after (w := w) (by go_grown) hb1).1
    have K1 := Lib.hid (show Eight w1 w.heap.size rm gs w0 w1' bl bg ls ms from Eight.later ⟨by go_cell, by go_cell, by go_cell, by go_cell, by go_cell, by go_cell, by go_cell, by go_cell⟩ hb1)
    have A1 := Lib.hid (show Four w1 (w.heap.size + 1) p0 p1 t0 t1 from Four.later ⟨by go_cell, by go_cell, by go_cell, by go_cell⟩ hb1)
    have N1 := Lib.hid (show NewBox w1 (w.heap.size + 1 + 1) from NewBox.later ⟨by go_cell, by go_cell, by go_cell, by go_cell⟩ hb1)
    clear hb1
    obtain ⟨l0, l1, lf0, lf1⟩ := N1.out
    clear HV HN K1 A1
    go_wp2_with fail
    exact bodyPost_ret (v := .tuple #[sp 0 0, .int .i64 n]) (by simp [results, Try.results33, go_sem, *]) rfl ⟨rfl, by go_grown⟩

/-- The first number of so many, from p on, that will do. -/
def roofN (ok : Int → Bool) : Nat → Int → Int × Int
  | 0, _ => (0, 6)
  | k + 1, p => if ok p then (p, 0) else roofN ok k (p + 1)
theorem roofN_same {ok ok' : Int → Bool} : ∀ (k : Nat) (p : Int), (∀ q, p ≤ q → q < p + k → ok q = ok' q) → roofN ok k p = roofN ok' k p
  | 0, _, _ => rfl
  | k + 1, p, h => by
    unfold roofN
    rw [h p (by omega) (by omega), roofN_same k (p + 1) (fun q h1 h2 => h q (by omega) (by omega))]
/-- Whether at a pressure some amount will do. -/
def okP (rm gs w0 w1 bg ls ms t0 t1 p : Int) : Bool := !decide ((blowP rm gs w0 w1 bg ls ms p p t0 t1).2 < (blowP rm gs w0 w1 bg ls ms p p t0 t1).1)
def rokP (rm gs w0 w1 bg ls ms t0 t1 p : Int) : Bool := !decide ((rblowP rm gs w0 w1 bg ls ms p p t0 t1).2 < (rblowP rm gs w0 w1 bg ls ms p p t0 t1).1)
theorem air_at {p t0 t1 : Int} (h : spB t0 t1 1500 3500 = true) (h1 : 1000 ≤ p) (h2 : p ≤ 12000) : airB p p t0 t1 = true := by
  unfold airB
  rw [h, Bool.and_true]
  unfold spB
  simp
  omega
theorem ok_same {rm gs w0 w1 bl bg ls ms t0 t1 : Int} (hh : hullB rm gs w0 w1 bl bg ls ms = true) (ht : spB t0 t1 1500 3500 = true) :
    roofN (rokP rm gs w0 w1 bg ls ms t0 t1) 11001 1000 = roofN (okP rm gs w0 w1 bg ls ms t0 t1) 11001 1000 := by
  refine roofN_same 11001 1000 (fun q h1 h2 => ?_)
  obtain ⟨e1, e2⟩ := blow_same hh (air_at ht h1 (by omega))
  unfold okP rokP
  rcases e2 with e2 | ⟨e2, e3⟩
  · rw [e1, e2]
  · simp [e2, e3]
/-- The error of a hull and temperatures. -/
def roofErr (rm gs w0 w1 bl bg ls ms t0 t1 : Int) : Int := if hullB rm gs w0 w1 bl bg ls ms then (if spB t0 t1 1500 3500 then 0 else 2) else 33
def rfE (r : Int × Int) (n : Int) : Ending := if n = 0 then .returned (.tuple #[.int .i64 r.1, .int .i64 r.2]) else .returned (.tuple #[.int .i64 0, .int .i64 n])
def roofE (rm gs w0 w1 bl bg ls ms t0 t1 : Int) : Ending := rfE (roofN (okP rm gs w0 w1 bg ls ms t0 t1) 11001 1000) (roofErr rm gs w0 w1 bl bg ls ms t0 t1)
/-- The loops' head. -/
def RoHead (ok : Int → Bool) (x y : Int) (w wr : World) (v : Value) (rm gs w0 w1 bl bg ls ms t0 t1 : Int) : Prop := ∃ (k : Nat) (p : Int), v = .int .i64 p ∧ p + k = 12001 ∧ k ≤ 11001 ∧ roofN ok k p = (x, y) ∧ Below w.heap.size w wr ∧ Eight wr w.heap.size rm gs w0 w1 bl bg ls ms ∧ Two2 wr (w.heap.size + 1) t0 t1

set_option maxRecDepth 100000 in
set_option maxHeartbeats 8000000 in
theorem roof_any (rm gs w0 w1' bl bg ls ms t0 t1 : Int) (w : World) :
    Calls Try.prog 35 #[hullV rm gs w0 w1' bl bg ls ms, sp t0 t1] w fun e w' => e = roofE rm gs w0 w1' bl bg ls ms t0 t1 ∧ Below w.heap.size w w' := by
  unfold roofE rfE roofErr
  by_cases hh : hullB rm gs w0 w1' bl bg ls ms = true
  · by_cases ht : spB t0 t1 1500 3500 = true
    · rw [if_pos hh, if_pos ht, if_pos rfl]
      obtain ⟨R, hR⟩ : ∃ R, roofN (okP rm gs w0 w1' bg ls ms t0 t1) 11001 1000 = R := ⟨_, rfl⟩
      obtain ⟨x, y⟩ := R
      rw [hR]
      have HR := Lib.hid hR
      have HH := Lib.hid hh
      have HT := Lib.hid ht
      have HC := Lib.hid (hullN_yes hh)
      clear hR hh ht
      go_enter Try.func35, Try.ntmps35
      go_wp2_with fail
      refine (checkHull_any rm gs w0 w1' bl bg ls ms _).mono ?_
      rintro e w1 ⟨rfl, hb1⟩
      rw [HC.out]
      have hB1 : Below w.heap.size w w1 := (after (w := w) (by go_grown) hb1).1
      have K1 := Lib.hid (show Eight w1 w.heap.size rm gs w0 w1' bl bg ls ms from Eight.later ⟨by go_cell, by go_cell, by go_cell, by go_cell, by go_cell, by go_cell, by go_cell, by go_cell⟩ hb1)
      have A1 := Lib.hid (show Two2 w1 (w.heap.size + 1) t0 t1 from Two2.later ⟨by go_cell, by go_cell⟩ hb1)
      clear hb1
      obtain ⟨a0, a1⟩ := A1.out
      go_wp2_with fail
      refine (isTemp_any t0 t1 _).mono ?_
      rintro e w2 ⟨rfl, hb2⟩
      rw [HT.out]
      have hB2 : Below w.heap.size w w2 := hB1.trans (hb2.mono hB1.size)
      have K2 := Lib.hid (K1.out.later hb2)
      have A2 := Lib.hid (A1.out.later hb2)
      clear hb2 hB1 K1 A1 a0 a1
      go_wp2_with fail
      go_loopw [7] (fun v7 wr => RoHead (okP rm gs w0 w1' bg ls ms t0 t1) x y w wr v7 rm gs w0 w1' bl bg ls ms t0 t1) (fun v7 _ => (12001 - intOf v7).toNat)
      case atStart => exact ⟨11001, 1000, rfl, by omega, by omega, HR.out, hB2, K2.out, A2.out⟩
      case round =>
        clear K2 A2 hB2 HR
        obtain ⟨k, p, rfl, hp, hk, hr, hbr, hk8, ht2⟩ := hrel
        have HE := Lib.hid hr
        have HB := Lib.hid hbr
        have K := Lib.hid hk8
        have A := Lib.hid ht2
        clear hr hbr hk8 ht2
        rcases k with _ | k
        · obtain rfl : p = 12001 := by omega
          have he := HE.out
          unfold roofN at he
          simp only [Prod.mk.injEq] at he
          obtain ⟨rfl, rfl⟩ := he
          have hb := HB.out
          clear HE
          go_wp2_with fail
          exact bodyPost_ret (v := .tuple #[.int .i64 0, .int .i64 6]) (by simp [results, Try.results35, go_sem, *]) rfl ⟨rfl, by go_grown⟩
        · have hp1 : p ≤ 12000 := by omega
          have hp0 : 1000 ≤ p := by omega
          obtain ⟨c0, c1, c2, c3, c4, c5, c6, c7⟩ := K.out
          obtain ⟨a0, a1⟩ := A.out
          have q1 := World.block_lt_of_cell? _ _ c0
          have q2 := World.block_lt_of_cell? _ _ a0
          obtain ⟨P, hP⟩ : ∃ P, blowP rm gs w0 w1' bg ls ms p p t0 t1 = P := ⟨_, rfl⟩
          obtain ⟨lo, hi⟩ := P
          have HP := Lib.hid hP
          have HO : Hid (okP rm gs w0 w1' bg ls ms t0 t1 p = !decide (hi < lo)) := Lib.hid (by unfold okP; rw [hP])
          clear hP
          have hs := HB.out.size
          go_wp2_with fail
          refine (blow_any rm gs w0 w1' bl bg ls ms p p t0 t1 _ HH.out (air_at HT.out hp0 hp1)).mono ?_
          rintro e w3 ⟨rfl, hb3⟩
          rw [HP.out]
          have hbb3 : Below wr.heap.size wr w3 := two (by go_grown) hb3
          clear hb3 c0 c1 c2 c3 c4 c5 c6 c7 a0 a1 q1 q2
          go_wp2_with fail
          refine (isNone_any lo hi _).mono ?_
          rintro e w4 ⟨rfl, hb4⟩
          have hbb4 : Below wr.heap.size wr w4 := chain hbb3 hb4
          have hB4 := HB.out.trans (hbb4.mono HB.out.size)
          clear hbb3 hb4
          by_cases hq : hi < lo
          · rw [show decide (hi < lo) = true by simpa using hq]
            have he : roofN (okP rm gs w0 w1' bg ls ms t0 t1) k (p + 1) = (x, y) := by
              have h := HE.out
              unfold roofN at h
              rw [HO.out, if_neg (by simp; exact hq)] at h
              exact h
            have HE2 := Lib.hid he
            clear he HE HO
            go_wp2_with fail
            go_roundw
            case rel => exact ⟨k, p + 1, by go_num, by omega, by omega, HE2.out, hB4, K.out.later hbb4, A.out.later hbb4⟩
            case measure => simp [intOf]; omega
          · rw [show decide (hi < lo) = false by simpa using hq]
            have he : (p, 0) = (x, y) := by
              have h := HE.out
              unfold roofN at h
              rw [HO.out, if_pos (by simp; omega)] at h
              exact h
            simp only [Prod.mk.injEq] at he
            obtain ⟨rfl, rfl⟩ := he
            clear HE HO
            go_wp2_with fail
            exact bodyPost_ret (v := .tuple #[.int .i64 p, .int .i64 0]) (by simp [results, Try.results35, go_sem, *]) rfl ⟨rfl, by go_grown⟩
    · have ht' : spB t0 t1 1500 3500 = false := by simpa using ht
      rw [if_pos hh, ht', if_neg (by simp), if_neg (by simp)]
      have HC := Lib.hid (hullN_yes hh)
      have HT := Lib.hid ht'
      clear hh ht ht'
      go_enter Try.func35, Try.ntmps35
      go_wp2_with fail
      refine (checkHull_any rm gs w0 w1' bl bg ls ms _).mono ?_
      rintro e w1 ⟨rfl, hb1⟩
      rw [HC.out]
      have hB1 : Below w.heap.size w w1 := (after (w := w) (by go_grown) hb1).1
      obtain ⟨a0, a1⟩ := show Two2 w1 (w.heap.size + 1) t0 t1 from Two2.later ⟨by go_cell, by go_cell⟩ hb1
      clear hb1
      go_wp2_with fail
      refine (isTemp_any t0 t1 _).mono ?_
      rintro e w2 ⟨rfl, hb2⟩
      rw [HT.out]
      have hB2 : Below w.heap.size w w2 := hB1.trans (hb2.mono hB1.size)
      clear hb2 hB1 a0 a1
      go_wp2_with fail
      exact bodyPost_ret (v := .tuple #[.int .i64 0, .int .i64 2]) (by simp [results, Try.results35, go_sem, *]) rfl ⟨rfl, by go_grown⟩
  · have hh' : hullB rm gs w0 w1' bl bg ls ms = false := by simpa using hh
    rw [if_neg hh, if_neg (by omega)]
    have HC := Lib.hid (hullN_no hh')
    clear hh hh'
    go_enter Try.func35, Try.ntmps35
    go_wp2_with fail
    refine (checkHull_any rm gs w0 w1' bl bg ls ms _).mono ?_
    rintro e w1 ⟨rfl, hb1⟩
    rw [HC.out]
    have hB1 : Below w.heap.size w w1 := (after (w := w) (by go_grown) hb1).1
    clear hb1
    go_wp2_with fail
    exact bodyPost_ret (v := .tuple #[.int .i64 0, .int .i64 33]) (by simp [results, Try.results35, go_sem, *]) rfl ⟨rfl, by go_grown⟩
end Go.Proofs.Ytpedmjjkhcigkaa
