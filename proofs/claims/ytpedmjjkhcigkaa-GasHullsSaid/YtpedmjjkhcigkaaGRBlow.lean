/- The reference of layer 3: Blow and Roof. (Written by wip/genrroof.py out of GRoof.) -/
import Derived.Test.YtpedmjjkhcigkaaGRRoof
namespace Go.Proofs.Ytpedmjjkhcigkaa
open Go.RowKit

set_option maxRecDepth 100000 in
set_option maxHeartbeats 4000000 in
theorem rblowQ_any (rm gs w0 w1' bl bg ls ms p0 p1 t0 t1 : Int) (w : World) :
    Calls Try.prog 34 #[hullV rm gs w0 w1' bl bg ls ms, airV p0 p1 t0 t1] w fun e w' => e = rblowE rm gs w0 w1' bl bg ls ms p0 p1 t0 t1 ∧ Below w.heap.size w w' := by
  obtain ⟨n, hn⟩ : ∃ n, tightN rm gs w0 w1' bl bg ls ms p0 p1 t0 t1 = n := ⟨_, rfl⟩
  have HN := Lib.hid hn
  have HV : Hid (n = 0 → hullB rm gs w0 w1' bl bg ls ms = true ∧ airB p0 p1 t0 t1 = true) := Lib.hid (fun h => tight_ok (hn.trans h))
  unfold rblowE amtE
  rw [hn]
  clear hn
  by_cases h0 : n = 0
  · subst h0
    rw [if_pos rfl]
    obtain ⟨P, hP⟩ : ∃ P, rblowP rm gs w0 w1' bg ls ms p0 p1 t0 t1 = P := ⟨_, rfl⟩
    obtain ⟨lo, hi⟩ := P
    rw [hP]
    have HP := Lib.hid hP
    clear hP
    obtain ⟨Z, hZ⟩ : ∃ Z, (if (lo, hi).2 < (lo, hi).1 then Ending.returned (.tuple #[sp 0 0, .int .i64 6]) else .returned (.tuple #[sp (lo, hi).1 (lo, hi).2, .int .i64 0])) = Z := ⟨_, rfl⟩
    rw [hZ]
    have HZ := Lib.hid hZ
    clear hZ
    have hA := (HV.out rfl)
    have HA := Lib.hid hA
    clear HV hA
    go_enter Try.func34, Try.ntmps34
    go_wp2_with fail
    refine (rtight_any rm gs w0 w1' bl bg ls ms p0 p1 t0 t1 _).mono ?_
    rintro e w1 ⟨rfl, hb1⟩
    rw [HN.out]
    have hB1 : Below w.heap.size w w1 := (after (w := w) (by go_grown) hb1).1
    have K1 := Lib.hid (show Eight w1 w.heap.size rm gs w0 w1' bl bg ls ms from Eight.later ⟨by go_cell, by go_cell, by go_cell, by go_cell, by go_cell, by go_cell, by go_cell, by go_cell⟩ hb1)
    have A1 := Lib.hid (show Four w1 (w.heap.size + 1) p0 p1 t0 t1 from Four.later ⟨by go_cell, by go_cell, by go_cell, by go_cell⟩ hb1)
    have N1 := Lib.hid (show NewBox w1 (w.heap.size + 1 + 1) from NewBox.later ⟨by go_cell, by go_cell, by go_cell, by go_cell⟩ hb1)
    clear hb1
    obtain ⟨c0, c1, c2, c3, c4, c5, c6, c7⟩ := K1.out
    obtain ⟨a0, a1, a2, a3⟩ := A1.out
    go_wp2_with fail
    refine (rblown_any rm gs w0 w1' bl bg ls ms p0 p1 t0 t1 _ HA.out.1 HA.out.2).mono ?_
    rintro e w2 ⟨rfl, hb2⟩
    rw [HP.out]
    have hB2 : Below w.heap.size w w2 := hB1.trans (hb2.mono hB1.size)
    have N2 := Lib.hid (N1.out.later hb2)
    obtain ⟨l0, l1, lf0, lf1⟩ := N2.out
    have q1 := World.block_lt_of_cell? _ _ l0
    clear hb2 hB1 c0 c1 c2 c3 c4 c5 c6 c7 a0 a1 a2 a3 N1 A1 K1
    by_cases hq : hi < lo
    · have hd : decide (hi < lo) = true := by simpa using hq
      have hs := hB2.size
      have e1 : Z = .returned (.tuple #[sp 0 0, .int .i64 6]) := by rw [← HZ.out, if_pos hq]
      have E1 := Lib.hid e1
      clear HZ e1
      go_wp2_with fail
      exact bodyPost_ret (v := .tuple #[sp 0 0, .int .i64 6]) (by simp [results, Try.results34, go_sem, *]) rfl ⟨E1.out.symm, by go_grown⟩
    · have hd : decide (hi < lo) = false := by simpa using hq
      have hs := hB2.size
      have e1 : Z = .returned (.tuple #[sp lo hi, .int .i64 0]) := by rw [← HZ.out, if_neg hq]
      have E1 := Lib.hid e1
      clear HZ e1
      go_wp2_with fail
      exact bodyPost_ret (v := .tuple #[sp lo hi, .int .i64 0]) (by simp [results, Try.results34, go_sem, *]) rfl ⟨E1.out.symm, by go_grown⟩
  · rw [if_neg h0]
    go_enter Try.func34, Try.ntmps34
    go_wp2_with fail
    refine (rtight_any rm gs w0 w1' bl bg ls ms p0 p1 t0 t1 _).mono ?_
    rintro e w1 ⟨rfl, hb1⟩
    rw [HN.out]
    have hB1 : Below w.heap.size w w1 := (after (w := w) (by go_grown) hb1).1
    have K1 := Lib.hid (show Eight w1 w.heap.size rm gs w0 w1' bl bg ls ms from Eight.later ⟨by go_cell, by go_cell, by go_cell, by go_cell, by go_cell, by go_cell, by go_cell, by go_cell⟩ hb1)
    have A1 := Lib.hid (show Four w1 (w.heap.size + 1) p0 p1 t0 t1 from Four.later ⟨by go_cell, by go_cell, by go_cell, by go_cell⟩ hb1)
    have N1 := Lib.hid (show NewBox w1 (w.heap.size + 1 + 1) from NewBox.later ⟨by go_cell, by go_cell, by go_cell, by go_cell⟩ hb1)
    clear hb1
    obtain ⟨l0, l1, lf0, lf1⟩ := N1.out
    clear HV HN K1 A1
    go_wp2_with fail
    exact bodyPost_ret (v := .tuple #[sp 0 0, .int .i64 n]) (by simp [results, Try.results34, go_sem, *]) rfl ⟨rfl, by go_grown⟩

set_option maxRecDepth 100000 in
set_option maxHeartbeats 8000000 in
theorem rroof_any (rm gs w0 w1' bl bg ls ms t0 t1 : Int) (w : World) :
    Calls Try.prog 36 #[hullV rm gs w0 w1' bl bg ls ms, sp t0 t1] w fun e w' => e = roofE rm gs w0 w1' bl bg ls ms t0 t1 ∧ Below w.heap.size w w' := by
  unfold roofE rfE roofErr
  by_cases hh : hullB rm gs w0 w1' bl bg ls ms = true
  · by_cases ht : spB t0 t1 1500 3500 = true
    · rw [if_pos hh, if_pos ht, if_pos rfl, ← ok_same hh ht]
      obtain ⟨R, hR⟩ : ∃ R, roofN (rokP rm gs w0 w1' bg ls ms t0 t1) 11001 1000 = R := ⟨_, rfl⟩
      obtain ⟨x, y⟩ := R
      rw [hR]
      have HR := Lib.hid hR
      have HH := Lib.hid hh
      have HT := Lib.hid ht
      have HC := Lib.hid hh
      clear hR hh ht
      go_enter Try.func36, Try.ntmps36
      go_wp2_with fail
      refine (rHull_any rm gs w0 w1' bl bg ls ms _).mono ?_
      rintro e w1 ⟨rfl, hb1⟩
      rw [HC.out]
      have hB1 : Below w.heap.size w w1 := (after (w := w) (by go_grown) hb1).1
      have K1 := Lib.hid (show Eight w1 w.heap.size rm gs w0 w1' bl bg ls ms from Eight.later ⟨by go_cell, by go_cell, by go_cell, by go_cell, by go_cell, by go_cell, by go_cell, by go_cell⟩ hb1)
      have A1 := Lib.hid (show Two2 w1 (w.heap.size + 1) t0 t1 from Two2.later ⟨by go_cell, by go_cell⟩ hb1)
      clear hb1
      obtain ⟨a0, a1⟩ := A1.out
      go_wp2_with fail
      refine (rTemp_any t0 t1 _).mono ?_
      rintro e w2 ⟨rfl, hb2⟩
      rw [HT.out]
      have hB2 : Below w.heap.size w w2 := hB1.trans (hb2.mono hB1.size)
      have K2 := Lib.hid (K1.out.later hb2)
      have A2 := Lib.hid (A1.out.later hb2)
      clear hb2 hB1 K1 A1 a0 a1
      go_wp2_with fail
      go_loopw [6] (fun v7 wr => RoHead (rokP rm gs w0 w1' bg ls ms t0 t1) x y w wr v7 rm gs w0 w1' bl bg ls ms t0 t1) (fun v7 _ => (12001 - intOf v7).toNat)
      case atStart => exact ⟨11001, 1000, rfl, by omega, by omega, HR.out, hB2, K2.out, A2.out⟩
      case round =>
        clear K2 A2 hB2 HR
        obtain ⟨k, p, rfl, hp, hk, hr, hbr, hk8, ht2⟩ := hrel
        have HE := Lib.hid hr
        have HB := Lib.hid hbr
        have K := Lib.hid hk8
        have A := Lib.hid ht2
        clear hr hbr hk8 ht2
        rcases k with _ | k
        · obtain rfl : p = 12001 := by omega
          have he := HE.out
          unfold roofN at he
          simp only [Prod.mk.injEq] at he
          obtain ⟨rfl, rfl⟩ := he
          have hb := HB.out
          clear HE
          go_wp2_with fail
          exact bodyPost_ret (v := .tuple #[.int .i64 0, .int .i64 6]) (by simp [results, Try.results36, go_sem, *]) rfl ⟨rfl, by go_grown⟩
        · have hp1 : p ≤ 12000 := by omega
          have hp0 : 1000 ≤ p := by omega
          obtain ⟨c0, c1, c2, c3, c4, c5, c6, c7⟩ := K.out
          obtain ⟨a0, a1⟩ := A.out
          have q1 := World.block_lt_of_cell? _ _ c0
          have q2 := World.block_lt_of_cell? _ _ a0
          obtain ⟨P, hP⟩ : ∃ P, rblowP rm gs w0 w1' bg ls ms p p t0 t1 = P := ⟨_, rfl⟩
          obtain ⟨lo, hi⟩ := P
          have HP := Lib.hid hP
          have HO : Hid (rokP rm gs w0 w1' bg ls ms t0 t1 p = !decide (hi < lo)) := Lib.hid (by unfold rokP; rw [hP])
          clear hP
          have hs := HB.out.size
          go_wp2_with fail
          refine (rblown_any rm gs w0 w1' bl bg ls ms p p t0 t1 _ HH.out (air_at HT.out hp0 hp1)).mono ?_
          rintro e w3 ⟨rfl, hb3⟩
          rw [HP.out]
          have hbb3 : Below wr.heap.size wr w3 := two (by go_grown) hb3
          clear hb3 c0 c1 c2 c3 c4 c5 c6 c7 a0 a1 q1 q2
          have hB4 := HB.out.trans (hbb3.mono HB.out.size)
          have hbb4 := hbb3
          clear hbb3
          have hs4 := hB4.size
          by_cases hq : hi < lo
          · have hd : decide (lo ≤ hi) = false := by simpa using hq
            have he : roofN (rokP rm gs w0 w1' bg ls ms t0 t1) k (p + 1) = (x, y) := by
              have h := HE.out
              unfold roofN at h
              rw [HO.out, if_neg (by simp; exact hq)] at h
              exact h
            have HE2 := Lib.hid he
            clear he HE HO
            go_wp2_with fail
            exact ⟨⟨k, p + 1, rfl, by omega, by omega, HE2.out, by go_grown, (K.out.later hbb4).later (by go_grown), (A.out.later hbb4).later (by go_grown)⟩, by simp [intOf]; omega⟩
          · have hd : decide (lo ≤ hi) = true := by simpa using hq
            have he : (p, 0) = (x, y) := by
              have h := HE.out
              unfold roofN at h
              rw [HO.out, if_pos (by simp; omega)] at h
              exact h
            simp only [Prod.mk.injEq] at he
            obtain ⟨rfl, rfl⟩ := he
            clear HE HO
            go_wp2_with fail
            exact bodyPost_ret (v := .tuple #[.int .i64 p, .int .i64 0]) (by simp [results, Try.results36, go_sem, *]) rfl ⟨rfl, by go_grown⟩
    · have ht' : spB t0 t1 1500 3500 = false := by simpa using ht
      rw [if_pos hh, ht', if_neg (by simp), if_neg (by simp)]
      have HC := Lib.hid hh
      have HT := Lib.hid ht'
      clear hh ht ht'
      go_enter Try.func36, Try.ntmps36
      go_wp2_with fail
      refine (rHull_any rm gs w0 w1' bl bg ls ms _).mono ?_
      rintro e w1 ⟨rfl, hb1⟩
      rw [HC.out]
      have hB1 : Below w.heap.size w w1 := (after (w := w) (by go_grown) hb1).1
      obtain ⟨a0, a1⟩ := show Two2 w1 (w.heap.size + 1) t0 t1 from Two2.later ⟨by go_cell, by go_cell⟩ hb1
      clear hb1
      go_wp2_with fail
      refine (rTemp_any t0 t1 _).mono ?_
      rintro e w2 ⟨rfl, hb2⟩
      rw [HT.out]
      have hB2 : Below w.heap.size w w2 := hB1.trans (hb2.mono hB1.size)
      clear hb2 hB1 a0 a1
      go_wp2_with fail
      exact bodyPost_ret (v := .tuple #[.int .i64 0, .int .i64 2]) (by simp [results, Try.results36, go_sem, *]) rfl ⟨rfl, by go_grown⟩
  · have hh' : hullB rm gs w0 w1' bl bg ls ms = false := by simpa using hh
    rw [if_neg hh, if_neg (by omega)]
    have HC := Lib.hid hh'
    clear hh hh'
    go_enter Try.func36, Try.ntmps36
    go_wp2_with fail
    refine (rHull_any rm gs w0 w1' bl bg ls ms _).mono ?_
    rintro e w1 ⟨rfl, hb1⟩
    rw [HC.out]
    have hB1 : Below w.heap.size w w1 := (after (w := w) (by go_grown) hb1).1
    clear hb1
    go_wp2_with fail
    exact bodyPost_ret (v := .tuple #[.int .i64 0, .int .i64 33]) (by simp [results, Try.results36, go_sem, *]) rfl ⟨rfl, by go_grown⟩
end Go.Proofs.Ytpedmjjkhcigkaa
