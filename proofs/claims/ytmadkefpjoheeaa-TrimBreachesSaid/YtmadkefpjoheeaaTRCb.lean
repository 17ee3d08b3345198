/- The reference of layer 4: CheckBreach. -/
import Derived.Test.YtmadkefpjoheeaaTRBr2
namespace Go.Proofs.Ytmadkefpjoheeaa
open Go.RowKit

theorem rwithin_same (n lo hi : Int) (w : World) : Calls Try.prog 60 #[.int .i64 n, .int .i64 lo, .int .i64 hi] w fun e w' => e = .returned (.bool (inB n lo hi)) ∧ w' = w :=
  (rwithin_any n lo hi w).mono fun _ _ ⟨h, e⟩ => ⟨h, e.symm⟩
def RcbHead (ps : List Pu) (ls : List Ld) (i : Int) (q : Value) (w wr : World) (v : Value) : Prop := ∃ k : Nat, k ≤ ps.length ∧ v = .int .i64 k ∧ choB ps ls = choB (ps.drop k) (ls.drop k) ∧ Below w.heap.size w wr ∧ PairV wr w.heap.size (.int .i64 i) q
set_option maxRecDepth 100000 in
set_option maxHeartbeats 8000000 in
theorem rcheckBreach_any (v u q : Value) (ls : List Ld) (ms : List Li) (i : Int) (ps : List Pu) (w : World) (hv : SlLd w v ls) (hu : SlLi w u ms) (hq : SlPu w q ps) :
    Calls Try.prog 31 #[v, u, brV i q] w fun e w' => e = .returned (.int .i64 (cbN ls ms i ps)) ∧ Below w.heap.size w w' := by
  obtain ⟨ad, cap, rfl, hlen, hcap⟩ := hu.form
  obtain ⟨av, capv, rfl, hlv, hcv⟩ := hv.form
  obtain ⟨aq, capq, rfl, hlq, hcq⟩ := hq.form
  have HV := Lib.hid hv
  have HU := Lib.hid hu
  have HQ := Lib.hid hq
  obtain ⟨n, hn⟩ : ∃ n, bothN ls ms = n := ⟨_, rfl⟩
  have HN := Lib.hid hn
  clear hv hu hq
  by_cases h0 : n = 0
  rotate_left 1
  · clear hn
    have HR := Lib.hid (show cbN ls ms i ps = n by unfold cbN; rw [HN.out, if_neg h0])
    go_enter Try.func31, Try.ntmps31
    go_wp2_with fail
    refine (rasked_any _ _ ls ms _ (ldLater HV.out (by go_grown)) (liLater HU.out (by go_grown))).mono ?_
    rintro e w1 ⟨rfl, hb1⟩
    rw [HN.out]
    have hB1 : Below w.heap.size w w1 := (after (w := w) (by go_grown) hb1).1
    clear hb1
    go_wp2_with fail
    go_returns
    exact ⟨ret_int HR.out.symm, hB1⟩
  subst h0
  obtain ⟨h40, hok, h12, hmok⟩ := bothN_ok hn
  have HL := Lib.hid (loads_bound hok)
  have HMo := Lib.hid hmok
  clear hn hok hmok
  go_enter Try.func31, Try.ntmps31
  go_wp2_with fail
  refine (rasked_any _ _ ls ms _ (ldLater HV.out (by go_grown)) (liLater HU.out (by go_grown))).mono ?_
  rintro e w1 ⟨rfl, hb1⟩
  rw [HN.out]
  have hB1 : Below w.heap.size w w1 := (after (w := w) (by go_grown) hb1).1
  have K1 := Lib.hid (show PairV w1 w.heap.size (.int .i64 i) (.slice aq ps.length capq) from PairV.later ⟨by go_cell, by go_cell⟩ hb1)
  clear hb1
  obtain ⟨k0, k1⟩ := K1.out
  go_wp2_with fail
  refine (rwithin_any i 0 ((ms.length : Int) - 1) _).mono ?_
  rintro e w2 ⟨rfl, rfl⟩
  by_cases h1 : inB i 0 ((ms.length : Int) - 1) = true
  rotate_left 1
  · have H1 := Lib.hid (show inB i 0 ((ms.length : Int) - 1) = false by simpa using h1)
    rw [H1.out]
    have HR := Lib.hid (show cbN ls ms i ps = 47 by unfold cbN; rw [HN.out, if_pos rfl, H1.out]; rfl)
    clear h1
    go_wp2_with fail
    go_returns
    exact ⟨ret_int HR.out.symm, hB1⟩
  rw [h1]
  have H1 := Lib.hid h1
  obtain ⟨i0, i1⟩ := inB_iff.1 h1
  clear h1
  by_cases hlen : ps.length = ls.length
  rotate_left 1
  · have hne : ((ps.length : Int) != (ls.length : Int)) = true := by simp; omega
    have H2 := Lib.hid (show choiceB ps ls = false by unfold choiceB; simp [hlen])
    have HR := Lib.hid (show cbN ls ms i ps = 47 by unfold cbN; rw [HN.out, if_pos rfl, H1.out, H2.out]; rfl)
    clear hlen
    go_wp2_with fail
    go_returns
    exact ⟨ret_int HR.out.symm, hB1⟩
  have hne : ((ps.length : Int) != (ls.length : Int)) = false := by simp; omega
  have HLe := Lib.hid hlen
  clear hlen
  go_wp2_with fail
  clear k0 k1
  go_loopw [8] (fun v8 wr => RcbHead ps ls i (.slice aq ps.length capq) w wr v8) (fun v8 _ => ps.length - (intOf v8).toNat)
  case atStart => exact ⟨0, by omega, rfl, rfl, hB1, K1.out⟩
  case round =>
    obtain ⟨k, hk, rfl, he, hbr, hkk⟩ := hrel
    have HE := Lib.hid he
    have HK := Lib.hid hkk
    clear he hkk K1 hB1
    by_cases hlt : k < ps.length
    · obtain ⟨b, off, p, rfl, hb, hp, hpat⟩ := HQ.out.at hlt
      obtain ⟨b', off', c, rfl, hb', hc, hcat⟩ := HV.out.at (show k < ls.length by have := HLe.out; omega)
      obtain ⟨p0, p1⟩ := PuAt.later hpat (show Below w.heap.size w wr from hbr)
      obtain ⟨c0, c1, c2, c3⟩ := LdAt.later hcat (show Below w.heap.size w wr from hbr)
      have hlt' : (k : Int) < (ps.length : Int) := by omega
      have hlt2 : (k : Int) < (ls.length : Int) := by have := HLe.out; omega
      have hk0 : (0 : Int) ≤ (k : Int) := by omega
      have hkt : ((k : Int).toNat) = k := by omega
      have HP := Lib.hid hp
      have HC := Lib.hid hc
      obtain ⟨k0, k1⟩ := HK.out
      clear hp hc hpat hcat
      by_cases h1 : inB p.p c.a0 c.a1 = true
      rotate_left 1
      · have h1' : inB p.p c.a0 c.a1 = false := by simpa using h1
        have HR := Lib.hid (show cbN ls ms i ps = 47 by
          have : choiceB ps ls = false := by unfold choiceB; rw [HE.out, drop_some HP.out, drop_some HC.out, choB, h1']; simp
          unfold cbN; rw [HN.out, if_pos rfl, H1.out, this]; rfl)
        clear h1
        go_wp2_with fail
        go_quiet ((go_at_call 60; exact Calls.quiet_of_same (rwithin_same _ _ _ _)))
        have hbq : Below w.heap.size w (wr.drewN nq) := below_drewN hbr nq
        have hkq := HK.out.later (below_drewN (Below.refl wr.heap.size wr) nq)
        go_wp2_with fail
        go_returns
        exact ⟨ret_int HR.out.symm, hbq⟩
      by_cases h2 : inB p.w c.w0 c.w1 = true
      rotate_left 1
      · have h2' : inB p.w c.w0 c.w1 = false := by simpa using h2
        have HR := Lib.hid (show cbN ls ms i ps = 47 by
          have : choiceB ps ls = false := by unfold choiceB; rw [HE.out, drop_some HP.out, drop_some HC.out, choB, h1, h2']; simp
          unfold cbN; rw [HN.out, if_pos rfl, H1.out, this]; rfl)
        clear h2
        go_wp2_with fail
        go_quiet ((go_at_call 60; exact Calls.quiet_of_same (rwithin_same _ _ _ _)))
        have hbq : Below w.heap.size w (wr.drewN nq) := below_drewN hbr nq
        have hkq := HK.out.later (below_drewN (Below.refl wr.heap.size wr) nq)
        go_wp2_with fail
        go_returns
        exact ⟨ret_int HR.out.symm, hbq⟩
      have he9 : choB ps ls = choB (ps.drop (k + 1)) (ls.drop (k + 1)) := by rw [HE.out, drop_some HP.out, drop_some HC.out, choB, h1, h2]; rfl
      have HE9 := Lib.hid he9
      clear he9
      go_wp2_with fail
      go_quiet ((go_at_call 60; exact Calls.quiet_of_same (rwithin_same _ _ _ _)))
      have hbq : Below w.heap.size w (wr.drewN nq) := below_drewN hbr nq
      have hkq := HK.out.later (below_drewN (Below.refl wr.heap.size wr) nq)
      go_wp2_with fail
      go_roundw
      case rel => exact ⟨k + 1, by omega, by go_num, HE9.out, hbq, hkq⟩
      case measure => simp [intOf]; omega
    · have h2 : choiceB ps ls = true := by unfold choiceB; rw [HE.out, drop_none hlt]; simp [choB, HLe.out]
      have hnl : ¬ (k : Int) < (ls.length : Int) := by have := HLe.out; omega
      obtain ⟨hpl, hpb⟩ := cho_bound h2 HL.out
      have H2 := Lib.hid h2
      have HPB := Lib.hid hpb
      clear h2 hpb
      obtain ⟨kn, hkn⟩ : ∃ kn : Nat, i = kn := ⟨i.toNat, by omega⟩
      subst hkn
      have hkl : kn < ms.length := by omega
      obtain ⟨b, off, x, rfl, hb, hc, hat⟩ := HU.out.at hkl
      obtain ⟨c0, c1, c2⟩ := LiAt.later hat (show Below w.heap.size w wr from hbr)
      have HS := Lib.hid (limits_ok HMo.out (List.mem_of_getElem? hc)).1
      obtain ⟨M, hM⟩ : ∃ M, sumE (valE x.a x.b) ps = M := ⟨_, rfl⟩
      have HM := Lib.hid hM
      have HR := Lib.hid (show cbN ls ms kn ps = if M ≤ x.c then 47 else 0 by
        unfold cbN
        rw [HN.out, if_pos rfl, H1.out, H2.out]
        rw [show ms.getD (kn : Int).toNat default = x by rw [Int.toNat_natCast, List.getD_eq_getElem?_getD, hc]; rfl, hM]
        rfl)
      obtain ⟨k0, k1⟩ := HK.out
      have hkl' : (kn : Int) < (ms.length : Int) := by omega
      have hkn0 : (0 : Int) ≤ (kn : Int) := by omega
      have hknt : ((kn : Int).toNat) = kn := by omega
      have hps : ps.length ≤ 50 := by omega
      have HQW := Lib.hid (puLater HQ.out hbr)
      clear hc hat hM hpl
      by_cases hle : M ≤ x.c
      all_goals
        rw [show (if M ≤ x.c then (47 : Int) else 0) = _ from by first | exact if_pos hle | exact if_neg hle] at HR
        go_wp2_with fail
        have hA : Below wr.heap.size wr wr := Below.refl _ _
        go_region_held3 (fun w' => w'.cell? ⟨w.heap.size, 0, none⟩ = some (.int .i64 kn) ∧ w'.cell? ⟨w.heap.size, 1, none⟩ = some (.slice aq ps.length capq) ∧ w'.cell? ⟨b, off + kn * 3, none⟩ = some (.int .i64 x.a) ∧ w'.cell? ⟨b, off + kn * 3 + 1, none⟩ = some (.int .i64 x.b) ∧ w'.cell? ⟨b, off + kn * 3 + 2, none⟩ = some (.int .i64 x.c))
          (first | (go_split_ands; (repeat' apply And.intro) <;> first | assumption | exact cell_later hb (by assumption)) | go_keep)
          (first
            | (go_at_call 71; refine (rvalue_any _ ps x _ (puLater HQW.out (by first | exact hA | exact hA.drew)) hps HS.out HPB.out).mono ?_; rintro e wx ⟨rfl, hb⟩; rw [HM.out]; have hA : Below wr.heap.size wr wx := (by first | exact chain hA hb | exact chainD hA hb)))
        go_wp2_with fail
        have hBf := hbr.trans (hA.mono hbr.size)
        go_returns
        exact ⟨ret_int HR.out.symm, by go_grown⟩
end Go.Proofs.Ytmadkefpjoheeaa
