/- The reference of layer 4: corners, Value. -/
import Derived.Test.YtldnpnplgfkebaaTWo
import Derived.Test.YtldnpnplgfkebaaTRList
namespace Go.Proofs.Ytldnpnplgfkebaa
open Go.RowKit

set_option maxHeartbeats 1000000 in
theorem rcorners_any (l : Ld) (w : World) : Calls Try.prog 63 #[ldV l] w (ChP 4 (cornersP l) w) := by
  go_enter Try.func63, Try.ntmps63
  go_wp2_with fail
  go_returns
  refine ⟨_, rfl, .inr ⟨_, 0, 4, rfl, by simp [cornersP], by simp [cornersP], by simp, ?_⟩, by go_grown⟩
  intro i c hi
  rcases i with _ | _ | _ | _ | i
  · simp [cornersP] at hi; subst hi; exact ⟨by go_cell, by go_cell⟩
  · simp [cornersP] at hi; subst hi; exact ⟨by go_cell, by go_cell⟩
  · simp [cornersP] at hi; subst hi; exact ⟨by go_cell, by go_cell⟩
  · simp [cornersP] at hi; subst hi; exact ⟨by go_cell, by go_cell⟩
  · simp [cornersP] at hi
def RvHead (a b : Int) (ps : List Pu) (x : Li) (w wr : World) (u v : Value) : Prop := ∃ k : Nat, k ≤ ps.length ∧ u = .int .i64 (sumE (valE a b) (ps.take k)) ∧ v = .int .i64 k ∧ Below w.heap.size w wr ∧ Three wr w.heap.size x.a x.b x.c
set_option maxHeartbeats 2000000 in
theorem rvalue_any (v : Value) (ps : List Pu) (x : Li) (w : World) (hv : SlPu w v ps) (h50 : ps.length ≤ 50) (hs : ScB x.a x.b) (hp : ∀ p, p ∈ ps → PuB p) :
    Calls Try.prog 71 #[v, liV x] w fun e w' => e = .returned (.int .i64 (sumE (valE x.a x.b) ps)) ∧ Below w.heap.size w w' := by
  obtain ⟨ad, cap, rfl, hlen, hcap⟩ := hv.form
  have HV := Lib.hid hv
  have HS := Lib.hid hs
  have HL := Lib.hid hp
  clear hv hs hp
  go_enter Try.func71, Try.ntmps71
  go_wp2_with fail
  go_loopw [5, 6] (fun v5 v6 wr => RvHead x.a x.b ps x w wr v5 v6) (fun _ v6 _ => ps.length - (intOf v6).toNat)
  case atStart => exact ⟨0, by omega, rfl, rfl, by go_grown, ⟨by go_cell, by go_cell, by go_cell⟩⟩
  case round =>
    obtain ⟨k, hk, rfl, rfl, hbr, h3⟩ := hrel
    have H3 := Lib.hid h3
    clear h3
    by_cases hlt : k < ps.length
    · obtain ⟨bk, off, c, rfl, hb, hc, hat⟩ := HV.out.at hlt
      obtain ⟨c0, c1⟩ := PuAt.later hat (show Below w.heap.size w wr from hbr)
      obtain ⟨x0, x1, x2⟩ := H3.out
      have hlt' : (k : Int) < (ps.length : Int) := by omega
      have hk0 : (0 : Int) ≤ (k : Int) := by omega
      have hbd := vals_take (k := k) HS.out HL.out h50
      obtain ⟨hX, hbm⟩ := val_bound HS.out (HL.out c (List.mem_of_getElem? hc))
      have HC := Lib.hid (sum_take (f := valE x.a x.b) hc)
      obtain ⟨T, hT⟩ : ∃ X, sumE (valE x.a x.b) (ps.take k) = X := ⟨_, rfl⟩
      rw [hT] at hbd HC
      rw [hT]
      obtain ⟨Y, hY⟩ : ∃ Y, valE x.a x.b c = Y := ⟨_, rfl⟩
      rw [hY] at hbm HC
      obtain ⟨X, hXX⟩ : ∃ X, x.b * c.p = X := ⟨_, rfl⟩
      have hY' : c.w * (x.a + X) = Y := by rw [← hXX]; exact hY
      rw [hXX] at hX
      obtain ⟨a0, a1, b0, b1⟩ := HS.out
      have e1 : IntKind.i64.wrap (x.b * c.p) = X := by rw [hXX]; exact IntWalk.i64_in _ ⟨by omega, by omega⟩
      have e0 : IntKind.i64.wrap (x.a + X) = x.a + X := IntWalk.i64_in _ ⟨by omega, by omega⟩
      have e2 : IntKind.i64.wrap (c.w * (x.a + X)) = Y := by rw [hY']; exact IntWalk.i64_in _ ⟨by omega, by omega⟩
      have e3 : IntKind.i64.wrap (T + Y) = T + Y := IntWalk.i64_in _ ⟨by omega, by omega⟩
      have hkt : ((k : Int).toNat) = k := by omega
      clear hc hat hT hY hY' hXX hbd hbm hX a0 a1 b0 b1
      go_wp2_with fail
      go_quiet (fail)
      have hBq : Below w.heap.size w (wr.drewN nq) := below_drewN hbr _
      have hqq : Three (wr.drewN nq) w.heap.size x.a x.b x.c := H3.out.later (below_drewN (Below.refl _ _) _)
      clear e0 e1 e2
      go_wp2_with fail
      go_roundw
      case rel => exact ⟨k + 1, by omega, by rw [HC.out], by go_num, hBq, hqq⟩
      case measure => simp [intOf]; omega
    · have HX := Lib.hid (sum_full (f := valE x.a x.b) hlt)
      obtain ⟨X, hX⟩ : ∃ X, sumE (valE x.a x.b) (ps.take k) = X := ⟨_, rfl⟩
      rw [hX] at HX
      rw [hX]
      clear hX
      go_wp2_with fail
      go_returns
      exact ⟨ret_int HX.out, hbr⟩
end Go.Proofs.Ytldnpnplgfkebaa
