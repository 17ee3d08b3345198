/- The reference of layer 4: asked, broken, Breach. -/
import Derived.Test.YtldnpnplgfkebaaTCb2
import Derived.Test.YtldnpnplgfkebaaTRWo
namespace Go.Proofs.Ytldnpnplgfkebaa
open Go.RowKit

set_option maxHeartbeats 1000000 in
theorem rasked_any (v u : Value) (ls : List Ld) (ms : List Li) (w : World) (hv : SlLd w v ls) (hu : SlLi w u ms) :
    Calls Try.prog 73 #[v, u] w fun e w' => e = .returned (.int .i64 (bothN ls ms)) ∧ Below w.heap.size w w' := by
  have HV := Lib.hid hv
  have HU := Lib.hid hu
  obtain ⟨n, hn⟩ : ∃ n, loadsN ls = n := ⟨_, rfl⟩
  obtain ⟨m, hm⟩ : ∃ n, limitsN ms = n := ⟨_, rfl⟩
  have HN := Lib.hid hn
  have HM := Lib.hid hm
  unfold bothN
  rw [hn, hm]
  clear hv hu hn hm
  by_cases h0 : n = 0
  · subst h0
    rw [if_pos rfl]
    go_enter Try.func73, Try.ntmps73
    go_wp2_with fail
    refine (rcheckLd_any v ls _ HV.out).mono ?_
    rintro e w1 ⟨rfl, hb1⟩
    rw [HN.out]
    go_wp2_with fail
    refine (rcheckLi_any u ms _ (liLater HU.out hb1)).mono ?_
    rintro e w2 ⟨rfl, hb2⟩
    rw [HM.out]
    have hB2 := two hb1 hb2
    clear hb1 hb2
    go_wp2_with fail
    go_returns
    exact ⟨rfl, hB2⟩
  · rw [if_neg h0]
    go_enter Try.func73, Try.ntmps73
    go_wp2_with fail
    refine (rcheckLd_any v ls _ HV.out).mono ?_
    rintro e w1 ⟨rfl, hb1⟩
    rw [HN.out]
    go_wp2_with fail
    go_returns
    exact ⟨rfl, hb1⟩
def RkHead (ls : List Ld) (ms : List Li) (w wr : World) (v : Value) : Prop := ∃ k : Nat, k ≤ ms.length ∧ v = .int .i64 k ∧ brk ls 0 ms = brk ls k (ms.drop k) ∧ Below w.heap.size w wr
set_option maxRecDepth 100000 in
set_option maxHeartbeats 8000000 in
theorem rbroken_any (v u : Value) (ls : List Ld) (ms : List Li) (w : World) (hv : SlLd w v ls) (hu : SlLi w u ms) (h50 : ls.length ≤ 50) (hl : ∀ l, l ∈ ls → LdB l) (hm : ms.all Li.ok = true) :
    Calls Try.prog 74 #[v, u] w fun e w' => e = .returned (.int .i64 (brk ls 0 ms)) ∧ Below w.heap.size w w' := by
  obtain ⟨ad, cap, rfl, hlen, hcap⟩ := hu.form
  have HV := Lib.hid hv
  have HU := Lib.hid hu
  have HL := Lib.hid hl
  have HMo := Lib.hid hm
  clear hv hu hl hm
  go_enter Try.func74, Try.ntmps74
  go_wp2_with fail
  go_loopw [5] (fun v5 wr => RkHead ls ms w wr v5) (fun v5 _ => ms.length - (intOf v5).toNat)
  case atStart => exact ⟨0, by omega, rfl, rfl, Below.refl _ _⟩
  case round =>
    obtain ⟨k, hk, rfl, he, hbr⟩ := hrel
    have HE := Lib.hid he
    clear he
    by_cases hlt : k < ms.length
    rotate_left 1
    · have he := HE.out
      rw [drop_none hlt] at he
      have HF := Lib.hid (show brk ls 0 ms = -1 from he)
      clear he
      go_wp2_with fail
      go_returns
      exact ⟨ret_int HF.out.symm, hbr⟩
    obtain ⟨bk, off, x, rfl, hb, hc, hat⟩ := HU.out.at hlt
    obtain ⟨c0, c1, c2⟩ := LiAt.later hat (show Below w.heap.size w wr from hbr)
    have hlt' : (k : Int) < (ms.length : Int) := by omega
    have hk0 : (0 : Int) ≤ (k : Int) := by omega
    have hkt : ((k : Int).toNat) = k := by omega
    have HC := Lib.hid hc
    have HS := Lib.hid (limits_ok HMo.out (List.mem_of_getElem? hc)).1
    have HVW := Lib.hid (ldLater HV.out hbr)
    obtain ⟨M, hM⟩ : ∃ M, mostL x.a x.b ls = M := ⟨_, rfl⟩
    have HM := Lib.hid hM
    clear hc hat hM
    by_cases hgt : x.c < M
    · have HG := Lib.hid hgt
      go_wp2_with fail
      have hA : Below wr.heap.size wr wr := Below.refl _ _
      go_region_held3 (fun w' => w'.cell? ⟨bk, off + k * 3, none⟩ = some (.int .i64 x.a) ∧ w'.cell? ⟨bk, off + k * 3 + 1, none⟩ = some (.int .i64 x.b) ∧ w'.cell? ⟨bk, off + k * 3 + 2, none⟩ = some (.int .i64 x.c))
        (first | (go_split_ands; (repeat' apply And.intro) <;> first | assumption | exact cell_later hb (by assumption)) | go_keep)
        (first
          | (go_at_call 70; refine (rworst_any v ls x _ (ldLater HVW.out (by first | exact hA | exact hA.drew)) h50 HS.out HL.out).mono ?_; rintro e wx ⟨ux, rfl, hux, hb⟩; have hA : Below wr.heap.size wr wx := (by first | exact chain hA hb | exact chainD hA hb); have HUX := Lib.hid hux; have hD : Below wx.heap.size wx wx := Below.refl _ _)
          | (go_at_call 71; refine (rvalue_any _ (ls.map (worstP x.a x.b)) x _ (by first | exact HUX.out | exact puLater HUX.out (by first | exact hD | exact hD.drew)) (by rw [List.length_map]; exact h50) HS.out (worsts_bound HL.out)).mono ?_; rintro e wx ⟨rfl, hb⟩; rw [sum_worst, HM.out]; have hA : Below wr.heap.size wr wx := (by first | exact chain hA hb | exact chainD hA hb)))
      go_wp2_with fail
      have hB := hbr.trans (hA.mono hbr.size)
      go_returns
      exact ⟨ret_int (by rw [HE.out, drop_some HC.out, brk, HM.out, if_pos HG.out]), by go_grown⟩
    · have hgt' : ¬ x.c < M := hgt
      have HG := Lib.hid (show M ≤ x.c by omega)
      go_wp2_with fail
      have hA : Below wr.heap.size wr wr := Below.refl _ _
      go_region_held3 (fun w' => w'.cell? ⟨bk, off + k * 3, none⟩ = some (.int .i64 x.a) ∧ w'.cell? ⟨bk, off + k * 3 + 1, none⟩ = some (.int .i64 x.b) ∧ w'.cell? ⟨bk, off + k * 3 + 2, none⟩ = some (.int .i64 x.c))
        (first | (go_split_ands; (repeat' apply And.intro) <;> first | assumption | exact cell_later hb (by assumption)) | go_keep)
        (first
          | (go_at_call 70; refine (rworst_any v ls x _ (ldLater HVW.out (by first | exact hA | exact hA.drew)) h50 HS.out HL.out).mono ?_; rintro e wx ⟨ux, rfl, hux, hb⟩; have hA : Below wr.heap.size wr wx := (by first | exact chain hA hb | exact chainD hA hb); have HUX := Lib.hid hux; have hD : Below wx.heap.size wx wx := Below.refl _ _)
          | (go_at_call 71; refine (rvalue_any _ (ls.map (worstP x.a x.b)) x _ (by first | exact HUX.out | exact puLater HUX.out (by first | exact hD | exact hD.drew)) (by rw [List.length_map]; exact h50) HS.out (worsts_bound HL.out)).mono ?_; rintro e wx ⟨rfl, hb⟩; rw [sum_worst, HM.out]; have hA : Below wr.heap.size wr wx := (by first | exact chain hA hb | exact chainD hA hb)))
      go_wp2_with fail
      have hB := hbr.trans (hA.mono hbr.size)
      go_roundw
      case rel => exact ⟨k + 1, by omega, by go_num, by rw [HE.out, drop_some HC.out, brk, HM.out, if_neg (by have := HG.out; omega)], by go_grown⟩
      case measure => simp [intOf]; omega
end Go.Proofs.Ytldnpnplgfkebaa
