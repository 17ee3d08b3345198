/- math/bits.Div64: (hi * 2^64 + lo) / y and its rest. -/
import Derived.Test.YtflgdckeinappaaBase
import Derived.Test.YtflgdckeinappaaShelf
import Derived.Test.YtflgdckeinappaaDivPrep
import Derived.Deep.CutBlock
import Derived.Deep.DeepCutAuto
namespace Go.Proofs.Ytflgdckeinappaa
open Go.RowKit

theorem below_drewN {B : Nat} {a w : World} (h : Below B a w) (n : Nat) : Below B a (w.drewN n) := h.trans ⟨rfl, rfl, rfl, Nat.le_refl _, fun _ _ => rfl⟩

set_option maxHeartbeats 400000 in
theorem div64_low (lo y : Int) (w : World) (h0 : 0 ≤ lo) (h1 : lo ≤ 18446744073709551615) (h2 : 1 ≤ y) (h3 : y ≤ 1099511627776) :
    Calls Try.prog 151 #[.int .u64 0, .int .u64 lo, .int .u64 y] w fun e w' => e = .returned (.tuple #[.int .u64 (lo / y), .int .u64 (lo % y)]) ∧ Below w.heap.size w w' := by
  have hy0 : (y == 0) = false := by simp; omega
  have hy1 : ¬ y ≤ 0 := by omega
  go_enter Try.func151, Try.ntmps151
  go_wp2_with fail
  go_quiet (fail)
  go_wp2_with fail
  go_returns
  exact ⟨rfl, below_drewN (Below.refl _ _) _⟩

theorem ret_uu {k : IntKind} {a b a' b' : Int} (h1 : a = a') (h2 : b = b') : Ending.returned (.tuple #[.int k a, .int k b]) = .returned (.tuple #[.int k a', .int k b']) := by rw [h1, h2]
/-- A round's end, or the loop's. -/
def Digit (n1 n0 h u : Int) (v15 v16 : Value) : Prop := ∃ q r : Int, Dig n1 n0 h u q r ∧ r < 4294967296 ∧ v15 = .int .u64 q ∧ v16 = .int .u64 r

set_option maxHeartbeats 400000 in
theorem div64_high (hi lo y : Int) (w : World) (hh : 1 ≤ hi) (hhy : hi < y) (h0 : 0 ≤ lo) (h1 : lo ≤ 18446744073709551615) (h3 : y ≤ 1099511627776) :
    Calls Try.prog 151 #[.int .u64 hi, .int .u64 lo, .int .u64 y] w fun e w' => e = .returned (.tuple #[.int .u64 ((hi * 18446744073709551616 + lo) / y), .int .u64 ((hi * 18446744073709551616 + lo) % y)]) ∧ Below w.heap.size w w' := by
  have hy0 : (y == 0) = false := by simp; omega
  have hy1 : ¬ y ≤ hi := by omega
  have hy2 : (hi == 0) = false := by simp; omega
  go_enter Try.func151, Try.ntmps151
  go_wp2_with fail
  refine (Try.bits_LeadingZeros64 _ _ (by omega) (by omega)).mono ?_
  rintro e w1 ⟨rfl, rfl⟩
  obtain ⟨s, hs⟩ : ∃ s : Int, s = 64 - (Lib.bitLen y.toNat : Int) := ⟨_, rfl⟩
  rw [← hs]
  obtain ⟨hs1, hs2, P, V, n1, n0, H, h, L, u1, u0, pt, hP, e1, e2, e3, e4, e5, e6, e7, e8⟩ := prep hi lo y s hh hhy h0 h1 h3 hs
  have Hs := Lib.hid hs
  have HP := Lib.hid hP
  have Pt := Lib.hid pt
  clear hs hP pt
  obtain ⟨na1, na2, nb1, nb2, nc1, nc2, nd1, nd2⟩ := Pt.out.norm
  have hv1 := Pt.out.v1
  have hv2 := Pt.out.v2
  have hn1 : 1 ≤ n1 := by omega
  have d0 := Dig.start Pt.out.norm
  have hq0 := d0.q0
  have hqB := d0.qB
  have hr0 := d0.r0
  have hr1 : h - h / n1 * n1 < 4294967296 := by have := Int.lt_ediv_add_one_mul_self h (by omega : 0 < n1); rw [Int.add_mul, Int.one_mul] at this; omega
  obtain ⟨m, hm⟩ : ∃ m : Int, h / n1 * n1 = m := ⟨_, rfl⟩
  have f1 : IntKind.u64.wrap m = m := IntWalk.u64_in _ ⟨by rw [← hm]; exact Int.mul_nonneg hq0 (by omega), by omega⟩
  rw [hm] at hr0 hr1 d0
  have D0 := Lib.hid d0
  clear d0
  go_upto_block 0 with fail
  go_cut [15, 16] from 67 to 85 (fun v15 v16 wy => v15 = .int .u64 ((h * 4294967296 + u1) / (n1 * 4294967296 + n0)) ∧ (∃ r : Int, v16 = .int .u64 r) ∧ w1 = wy)
  case first =>
    go_wp2_with fail
    go_loop [15, 16] (fun v15 v16 => Digit n1 n0 h u1 v15 v16) (fun v15 _ => (intOf v15).toNat)
    case atStart => exact ⟨_, _, D0.out, hr1, rfl, rfl⟩
    case round =>
      obtain ⟨q, r, d, hr, rfl, rfl⟩ := hrel
      have D := Lib.hid d
      clear d
      have hq0 := D.out.q0
      have hqB := D.out.qB
      have hr0 := D.out.r0
      by_cases t1 : 4294967296 ≤ q
      · obtain ⟨nx, nq⟩ := D.out.next Pt.out.norm (.inl t1)
        have NX := Lib.hid nx
        clear nx
        by_cases t2 : 4294967296 ≤ r + n1
        · go_wp2_with fail
          go_meet
          case rel => exact ⟨by rw [NX.out.out Pt.out.norm (by omega) t2], ⟨_, rfl⟩, rfl⟩
        · go_wp2_with fail
          go_round
          case rel => exact ⟨q - 1, r + n1, NX.out, by omega, rfl, rfl⟩
          case measure => simp [intOf]; omega
      · obtain ⟨z, hz⟩ : ∃ z : Int, q * n0 = z := ⟨_, rfl⟩
        have hz0 : 0 ≤ q * n0 := Int.mul_nonneg hq0 (by omega)
        have hz1 : q * n0 ≤ 4294967296 * 4294967296 - 1 := by
          have : q * n0 ≤ 4294967295 * n0 := Int.mul_le_mul_of_nonneg_right (by omega) (by omega)
          omega
        rw [hz] at hz0 hz1
        have f2 : IntKind.u64.wrap z = z := IntWalk.u64_in _ ⟨hz0, by omega⟩
        by_cases t3 : 4294967296 * r + u1 < z
        · obtain ⟨nx, nq⟩ := D.out.next Pt.out.norm (.inr (by rw [hz]; exact t3))
          have NX := Lib.hid nx
          clear nx
          by_cases t2 : 4294967296 ≤ r + n1
          · go_wp2_with fail
            go_meet
            case rel => exact ⟨by rw [NX.out.out Pt.out.norm (by omega) t2], ⟨_, rfl⟩, rfl⟩
          · go_wp2_with fail
            go_round
            case rel => exact ⟨q - 1, r + n1, NX.out, by omega, rfl, rfl⟩
            case measure => simp [intOf]; omega
        · go_wp2_with fail
          go_meet
          case rel => exact ⟨by rw [D.out.exact Pt.out.norm (by rw [hz]; omega)], ⟨_, rfl⟩, rfl⟩
  case rest =>
    obtain ⟨rfl, ⟨r1, rfl⟩, rfl⟩ := hcut
    have q1ge := Pt.out.norm.quo_ge
    have q1lt := Pt.out.norm.quo_lt
    obtain ⟨t0, t1⟩ := rem_bd Pt.out.norm
    obtain ⟨q1, hq1⟩ : ∃ q1 : Int, (h * 4294967296 + u1) / (n1 * 4294967296 + n0) = q1 := ⟨_, rfl⟩
    rw [hq1] at q1ge q1lt t0 t1 ⊢
    have hV1 := Pt.out.V1
    rw [← hV1] at t0 t1
    obtain ⟨t, ht⟩ : ∃ t : Int, t = h * 4294967296 + u1 - q1 * V := ⟨_, rfl⟩
    rw [← ht] at t0 t1
    have f4 : IntKind.u64.wrap (IntKind.u64.wrap (IntKind.u64.wrap (h * 4294967296) + u1) - IntKind.u64.wrap (q1 * V)) = t := by
      simp only [IntKind.wrap_u64]
      generalize q1 * V = X at *
      omega
    have nt : Norm n1 n0 t u0 := ⟨na1, na2, nb1, nb2, t0, by omega, hv1, hv2⟩
    have NT := Lib.hid nt
    have Hq1 := Lib.hid hq1
    have Ht := Lib.hid ht
    clear hq1 ht nt
    have d2 := Dig.start NT.out
    have gq0 := d2.q0
    have gqB := d2.qB
    have gr0 := d2.r0
    have gr1 : t - t / n1 * n1 < 4294967296 := by have := Int.lt_ediv_add_one_mul_self t (by omega : 0 < n1); rw [Int.add_mul, Int.one_mul] at this; omega
    obtain ⟨m2, hm2⟩ : ∃ m2 : Int, t / n1 * n1 = m2 := ⟨_, rfl⟩
    have f6 : IntKind.u64.wrap m2 = m2 := IntWalk.u64_in _ ⟨by rw [← hm2]; exact Int.mul_nonneg gq0 (by omega), by omega⟩
    rw [hm2] at gr0 gr1 d2
    have D2 := Lib.hid d2
    have HV1 := Lib.hid hV1
    clear d2 hV1 D0 hq0 hqB hr0 hr1 f1 hm
    go_upto_block 2 with fail
    go_cut [18, 16] from 102 to 120 (fun v18 v16 wy => v18 = .int .u64 ((t * 4294967296 + u0) / (n1 * 4294967296 + n0)) ∧ (∃ r : Int, v16 = .int .u64 r) ∧ w1 = wy)
    case first =>
      go_wp2_with fail
      go_loop [18, 16] (fun v18 v16 => Digit n1 n0 t u0 v18 v16) (fun v18 _ => (intOf v18).toNat)
      case atStart => exact ⟨_, _, D2.out, gr1, rfl, rfl⟩
      case round =>
        obtain ⟨q, r, d, hr, rfl, rfl⟩ := hrel
        have D := Lib.hid d
        clear d
        have hq0 := D.out.q0
        have hqB := D.out.qB
        have hr0 := D.out.r0
        by_cases t1 : 4294967296 ≤ q
        · obtain ⟨nx, nq⟩ := D.out.next NT.out (.inl t1)
          have NX := Lib.hid nx
          clear nx
          by_cases t2 : 4294967296 ≤ r + n1
          · go_wp2_with fail
            go_meet
            case rel => exact ⟨by rw [NX.out.out NT.out (by omega) t2], ⟨_, rfl⟩, rfl⟩
          · go_wp2_with fail
            go_round
            case rel => exact ⟨q - 1, r + n1, NX.out, by omega, rfl, rfl⟩
            case measure => simp [intOf]; omega
        · obtain ⟨z, hz⟩ : ∃ z : Int, q * n0 = z := ⟨_, rfl⟩
          have hz0 : 0 ≤ q * n0 := Int.mul_nonneg hq0 (by omega)
          have hz1 : q * n0 ≤ 4294967296 * 4294967296 - 1 := by
            have : q * n0 ≤ 4294967295 * n0 := Int.mul_le_mul_of_nonneg_right (by omega) (by omega)
            omega
          rw [hz] at hz0 hz1
          have f2 : IntKind.u64.wrap z = z := IntWalk.u64_in _ ⟨hz0, by omega⟩
          by_cases t3 : 4294967296 * r + u0 < z
          · obtain ⟨nx, nq⟩ := D.out.next NT.out (.inr (by rw [hz]; exact t3))
            have NX := Lib.hid nx
            clear nx
            by_cases t2 : 4294967296 ≤ r + n1
            · go_wp2_with fail
              go_meet
              case rel => exact ⟨by rw [NX.out.out NT.out (by omega) t2], ⟨_, rfl⟩, rfl⟩
            · go_wp2_with fail
              go_round
              case rel => exact ⟨q - 1, r + n1, NX.out, by omega, rfl, rfl⟩
              case measure => simp [intOf]; omega
          · go_wp2_with fail
            go_meet
            case rel => exact ⟨by rw [D.out.exact NT.out (by rw [hz]; omega)], ⟨_, rfl⟩, rfl⟩
    case rest =>
      obtain ⟨rfl, ⟨r2, rfl⟩, rfl⟩ := hcut
      have q0ge := NT.out.quo_ge
      have q0lt := NT.out.quo_lt
      obtain ⟨z0, z1⟩ := rem_bd NT.out
      obtain ⟨q0, hq0⟩ : ∃ q0 : Int, (t * 4294967296 + u0) / (n1 * 4294967296 + n0) = q0 := ⟨_, rfl⟩
      rw [hq0] at q0ge q0lt z0 z1 ⊢
      rw [← HV1.out] at z0 z1
      have f5 : IntKind.u64.wrap (IntKind.u64.wrap (IntKind.u64.wrap (t * 4294967296) + u0) - IntKind.u64.wrap (q0 * V)) = t * 4294967296 + u0 - q0 * V := by
        simp only [IntKind.wrap_u64]
        have := HV1.out
        generalize q0 * V = X at *
        omega
      obtain ⟨w0, w1'⟩ := whole (by omega : 0 < y) Pt.out.P0 Pt.out.V2 Pt.out.N Ht.out z0 z1
      rw [HP.out] at w1'
      have W0 := Lib.hid w0
      have Hq0 := Lib.hid hq0
      clear w0 hq0
      go_wp2_with fail
      go_returns
      exact ⟨ret_uu W0.out rfl, Below.refl _ _⟩
theorem div64_any (hi lo y : Int) (w : World) (hh : 0 ≤ hi) (hhy : hi < y) (h0 : 0 ≤ lo) (h1 : lo ≤ 18446744073709551615) (h3 : y ≤ 1099511627776) :
    Calls Try.prog 151 #[.int .u64 hi, .int .u64 lo, .int .u64 y] w fun e w' => e = .returned (.tuple #[.int .u64 ((hi * 18446744073709551616 + lo) / y), .int .u64 ((hi * 18446744073709551616 + lo) % y)]) ∧ Below w.heap.size w w' := by
  by_cases h : hi = 0
  · subst h
    have e : (0 : Int) * 18446744073709551616 + lo = lo := by omega
    rw [e]
    exact div64_low lo y w h0 h1 (by omega) h3
  · exact div64_high hi lo y w (by omega) hhy h0 h1 h3

end Go.Proofs.Ytflgdckeinappaa
