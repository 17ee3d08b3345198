/- The parts of a long division, as the walk spells them. -/
import Derived.Test.YtflgdckeinappaaDivMath
namespace Go.Proofs.Ytflgdckeinappaa

theorem bitLenAux_spec : ∀ (f x : Nat), x < 2 ^ f → x < 2 ^ Lib.bitLenAux f x ∧ (x ≠ 0 → 2 ^ Lib.bitLenAux f x ≤ 2 * x) := by
  intro f
  induction f with
  | zero => intro x hx; simp at hx; subst hx; simp [Lib.bitLenAux]
  | succ f ih =>
    intro x hx
    by_cases h0 : x = 0
    · subst h0; simp [Lib.bitLenAux]
    · have hx2 : x / 2 < 2 ^ f := by rw [Nat.pow_succ] at hx; omega
      obtain ⟨a, b⟩ := ih (x / 2) hx2
      have e : Lib.bitLenAux (f + 1) x = Lib.bitLenAux f (x / 2) + 1 := by simp [Lib.bitLenAux, h0]; omega
      rw [e, Nat.pow_succ]
      refine ⟨by omega, fun _ => ?_⟩
      by_cases h1 : x / 2 = 0
      · have : Lib.bitLenAux f 0 = 0 := by cases f <;> simp [Lib.bitLenAux]
        rw [h1, this]; omega
      · have := b h1; omega

structure Parts (hi lo y P V n1 n0 H h L u1 u0 : Int) : Prop where
  norm : Norm n1 n0 h u1
  v1 : 0 ≤ u0
  v2 : u0 < 4294967296
  P0 : 0 < P
  V1 : V = n1 * 4294967296 + n0
  V2 : V = y * P
  N : (hi * 18446744073709551616 + lo) * P = (h * 4294967296 + u1) * 4294967296 + u0

theorem land_mask (a : Int) (h0 : 0 ≤ a) (h1 : a < 18446744073709551616) : bits .and .u64 a 4294967295 = a % 4294967296 := by
  rw [u64_and a 4294967295 h0 h1 (by omega) (by omega)]
  have : (a.toNat &&& (4294967295 : Int).toNat) = a.toNat % 4294967296 := Nat.and_two_pow_sub_one_eq_mod a.toNat 32
  rw [this]; omega

theorem prep (hi lo y s : Int) (hh : 1 ≤ hi) (hhy : hi < y) (h0 : 0 ≤ lo) (h1 : lo ≤ 18446744073709551615) (h3 : y ≤ 1099511627776) (hs : s = 64 - (Lib.bitLen y.toNat : Int)) :
    1 ≤ s ∧ s ≤ 62 ∧ ∃ P V n1 n0 H h L u1 u0 : Int, Parts hi lo y P V n1 n0 H h L u1 u0 ∧ P = 2 ^ s.toNat ∧ IntKind.u64.wrap (y * 2 ^ s.toNat) = V ∧ V / 4294967296 = n1 ∧ bits .and .u64 V 4294967295 = n0 ∧
      IntKind.u64.wrap (hi * 2 ^ s.toNat) = H ∧ bits .or .u64 H (lo / 2 ^ (64 - s).toNat) = h ∧ IntKind.u64.wrap (lo * 2 ^ s.toNat) = L ∧ L / 4294967296 = u1 ∧ bits .and .u64 L 4294967295 = u0 := by
  obtain ⟨yn, rfl⟩ := Int.eq_ofNat_of_zero_le (by omega : 0 ≤ y)
  obtain ⟨hn, rfl⟩ := Int.eq_ofNat_of_zero_le (by omega : 0 ≤ hi)
  obtain ⟨ln, rfl⟩ := Int.eq_ofNat_of_zero_le h0
  simp only [Int.toNat_natCast] at hs
  obtain ⟨b1, b2⟩ := bitLenAux_spec 64 yn (by omega)
  have b2 := b2 (by omega)
  change yn < 2 ^ Lib.bitLen yn at b1
  change 2 ^ Lib.bitLen yn ≤ 2 * yn at b2
  have hl : Lib.bitLen yn ≤ 41 := Lib.bitLen_le yn 41 (by omega) (by omega)
  have hg : 2 ≤ Lib.bitLen yn := by
    rcases Nat.lt_or_ge (Lib.bitLen yn) 2 with hlt | hge
    · have : 2 ^ Lib.bitLen yn ≤ 2 ^ 1 := Nat.pow_le_pow_right (by omega) (by omega)
      omega
    · exact hge
  generalize Lib.bitLen yn = B at *
  obtain ⟨sn, rfl⟩ := Int.eq_ofNat_of_zero_le (by omega : 0 ≤ s)
  have hsB : sn + B = 64 := by omega
  have hsn : (64 - (sn : Int)).toNat = B := by omega
  simp only [Int.toNat_natCast, hsn]
  have hpow : 2 ^ sn * 2 ^ B = 18446744073709551616 := by rw [← Nat.pow_add, hsB]
  have hP : 0 < 2 ^ sn := Nat.pow_pos (by omega)
  have hB : 0 < 2 ^ B := Nat.pow_pos (by omega)
  have hyP : yn * 2 ^ sn < 18446744073709551616 := by rw [← hpow, Nat.mul_comm]; exact Nat.mul_lt_mul_of_pos_left b1 hP
  have hyP2 : 18446744073709551616 ≤ 2 * (yn * 2 ^ sn) := by rw [← hpow, ← Nat.mul_assoc, Nat.mul_comm (2 * yn)]; exact Nat.mul_le_mul_left _ b2
  have hhP : (hn + 1) * 2 ^ sn ≤ yn * 2 ^ sn := Nat.mul_le_mul_right _ (by omega)
  rw [Nat.add_mul, Nat.one_mul] at hhP
  have hdiv : ln / 2 ^ B < 2 ^ sn := by rw [Nat.div_lt_iff_lt_mul hB, hpow]; omega
  have hlo : ln * 2 ^ sn = (ln / 2 ^ B) * 18446744073709551616 + (ln * 2 ^ sn) % 18446744073709551616 := by
    have e : ln * 2 ^ sn / 18446744073709551616 = ln / 2 ^ B := by rw [← hpow, Nat.mul_comm (2 ^ sn), Nat.mul_div_mul_right _ _ hP]
    have := Nat.div_add_mod (ln * 2 ^ sn) 18446744073709551616
    rw [e] at this; omega
  have hcast : ((2 : Int) ^ sn) = ((2 ^ sn : Nat) : Int) := by rw [Int.natCast_pow]; rfl
  have hcastB : ((2 : Int) ^ B) = ((2 ^ B : Nat) : Int) := by rw [Int.natCast_pow]; rfl
  rw [hcast, hcastB]
  have hor : (hn * 2 ^ sn) ||| (ln / 2 ^ B) = hn * 2 ^ sn + ln / 2 ^ B := by
    have := Nat.shiftLeft_add_eq_or_of_lt hdiv hn
    rw [Nat.shiftLeft_eq] at this
    exact this.symm
  generalize hPn : 2 ^ sn = P at *
  generalize hBn : 2 ^ B = Q at *
  refine ⟨by omega, by omega, P, (yn * P : Nat), (yn * P / 4294967296 : Nat), (yn * P % 4294967296 : Nat), (hn * P : Nat), (hn * P + ln / Q : Nat), (ln * P % 18446744073709551616 : Nat), (ln * P % 18446744073709551616 / 4294967296 : Nat), (ln * P % 18446744073709551616 % 4294967296 : Nat), ⟨⟨?_, ?_, ?_, ?_, ?_, ?_, ?_, ?_⟩, ?_, ?_, ?_, ?_, ?_, ?_⟩, rfl, ?_, ?_, ?_, ?_, ?_, ?_, ?_, ?_⟩
  · generalize yn * P = X at *; omega
  · generalize yn * P = X at *; omega
  · omega
  · omega
  · omega
  · generalize yn * P = X at *; generalize hn * P = Y at *; omega
  · omega
  · omega
  · omega
  · omega
  · omega
  · omega
  · exact Int.natCast_mul yn P
  · have e : ((hn : Int) * 18446744073709551616 + (ln : Int)) * (P : Int) = ((hn * P : Nat) : Int) * 18446744073709551616 + ((ln * P : Nat) : Int) := by
      rw [Int.natCast_mul, Int.natCast_mul, Int.add_mul, Int.mul_assoc, Int.mul_comm 18446744073709551616, ← Int.mul_assoc]
    rw [e]
    generalize hn * P = Y at *
    generalize ln * P = Z at *
    omega
  · rw [← Int.natCast_mul]; exact IntWalk.u64_in _ ⟨by omega, by omega⟩
  · omega
  · rw [land_mask _ (by omega) (by omega)]; omega
  · rw [← Int.natCast_mul]; exact IntWalk.u64_in _ ⟨by omega, by generalize yn * P = X at *; generalize hn * P = Y at *; omega⟩
  · rw [← Int.natCast_ediv, u64_or_nat _ _ (by generalize yn * P = X at *; generalize hn * P = Y at *; omega) (by omega), hor]
  · rw [← Int.natCast_mul, IntKind.wrap_u64]; omega
  · omega
  · rw [land_mask _ (by omega) (by omega)]; omega
end Go.Proofs.Ytflgdckeinappaa
