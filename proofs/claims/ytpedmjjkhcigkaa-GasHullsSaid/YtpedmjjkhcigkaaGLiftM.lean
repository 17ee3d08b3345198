/- Package gas: what lifts, ceilings and valving come to. Numbers only. -/
import Derived.Test.YtpedmjjkhcigkaaGBoth
namespace Go.Proofs.Ytpedmjjkhcigkaa
open Go.RowKit

theorem fl_lim {n d N : Int} (hd : 1 ≤ d) (hN : 0 ≤ N) (h0 : -N ≤ n) (h1 : n ≤ N) : -N ≤ fl n d ∧ fl n d ≤ N := by
  unfold fl
  constructor
  · rw [Int.le_ediv_iff_mul_le (by omega)]
    have : N * 1 ≤ N * d := Int.mul_le_mul_of_nonneg_left hd hN
    rw [Int.neg_mul]
    omega
  · rcases Int.le_total 0 n with h | h
    · have := Int.ediv_le_self d h
      omega
    · have : n / d ≤ 0 := by
        have h2 : n / d < 1 := by rw [Int.ediv_lt_iff_lt_mul (by omega)]; omega
        omega
      omega
theorem cl_lim {n d N : Int} (hd : 1 ≤ d) (hN : 0 ≤ N) (h0 : -N ≤ n) (h1 : n ≤ N) : -N ≤ cl n d ∧ cl n d ≤ N := by
  have := fl_lim (n := -n) hd hN (by omega) (by omega)
  unfold cl
  unfold fl at this
  omega
theorem fl_add {a k d : Int} (hd : 1 ≤ d) : fl (k * d + a) d = k + fl a d := by
  unfold fl
  rw [Int.add_comm, Int.add_mul_ediv_right _ _ (by omega)]
  omega
theorem cl_add {a k d : Int} (hd : 1 ≤ d) : cl (k * d + a) d = k + cl a d := by
  unfold cl
  rw [show -(k * d + a) = -a + (-k) * d by rw [Int.neg_mul]; omega, Int.add_mul_ediv_right _ _ (by omega)]
  omega
theorem cl_sub {a k d : Int} (hd : 1 ≤ d) : cl (k * d - a) d = k - fl a d := by
  rw [show k * d - a = k * d + -a by omega, cl_add hd]
  unfold cl fl
  rw [Int.neg_neg]
  omega

/-- Lifts. -/
def liftR (he A : Int) : Mo → Int × Int := fun m => (25 * he * m.2.1 + 29 * A * m.2.2, m.2.1)
theorem lift_bound {he A p0 p1 t0 t1 w0 w1 : Int} (hh0 : 0 ≤ he) (hh1 : he ≤ 10000000) (hA0 : 0 ≤ A) (hA1 : A ≤ 20000000) (ht0 : 1500 ≤ t0) (ht : t0 ≤ t1) (ht1 : t1 ≤ 3500) (hw0 : -300 ≤ w0) (hw : w0 ≤ w1) (hw1 : w1 ≤ 300) :
    RBound (liftR he A) ((p0, t0, w0) :: mos p0 p1 t0 t1 w0 w1) (250000000 * 3500 + 580000000 * 300) 3500 := fun x hx => by
  obtain ⟨h1, h2, h3⟩ := mos_mem hx
  have a0 : 0 ≤ 25 * he * x.2.1 := Int.mul_nonneg (by omega) (by omega)
  have a1 : 25 * he * x.2.1 ≤ 250000000 * 3500 := Int.mul_le_mul (by omega) (by omega) (by omega) (by omega)
  obtain ⟨b0, b1⟩ := mul_lim2 (x := 29 * A) (y := x.2.2) (m := 580000000) (n := 300) (by omega) (by omega) (by omega) (by omega)
  refine ⟨?_, ?_, ?_, ?_⟩
  · show _ ≤ 25 * he * x.2.1 + 29 * A * x.2.2; omega
  · show 25 * he * x.2.1 + 29 * A * x.2.2 ≤ _; omega
  · show 1 ≤ x.2.1; omega
  · show x.2.1 ≤ _; omega
/-- The extremes of a cell's lifts. -/
abbrev liftX (he A p0 p1 t0 t1 w0 w1 : Int) : (Int × Int) × (Int × Int) := exOf (liftR he A) (p0, t0, w0) (mos p0 p1 t0 t1 w0 w1)
/-- What extremes come to, rounded outwards. -/
structure ExR (a b c d lo hi : Int) : Prop where
  b0 : 1 ≤ b
  b1 : b ≤ 4611686018427387904
  d0 : 1 ≤ d
  d1 : d ≤ 4611686018427387904
  fa : Fair a
  fc : Fair c
  lo : fl a b = lo
  hi : cl c d = hi
def liftLo (A t0 t1 w0 : Int) : Int := min (fl (29 * A * w0) t0) (fl (29 * A * w0) t1)
def liftHi (A t0 t1 w1 : Int) : Int := max (cl (29 * A * w1) t0) (cl (29 * A * w1) t1)
theorem lift_ex {rm he ar w0 w1 lk ow p0 p1 t0 t1 a b c d : Int} (hc : cellB rm he ar w0 w1 lk ow = true) (ha : airB p0 p1 t0 t1 = true) (hE : liftX he (he + ar) p0 p1 t0 t1 w0 w1 = ((a, b), (c, d))) :
    ExR a b c d (25 * he + liftLo (he + ar) t0 t1 w0) (25 * he + liftHi (he + ar) t0 t1 w1) := by
  obtain ⟨⟨r0, r1⟩, ⟨h0, h1⟩, ⟨a0', a1'⟩, x0, x1, x2⟩ := cell_ok hc
  obtain ⟨⟨p0', p1', p2'⟩, t0', t1', t2'⟩ := air_ok ha
  have hB := lift_bound (he := he) (A := he + ar) (p0 := p0) (p1 := p1) (t0 := t0) (t1 := t1) (w0 := w0) (w1 := w1) h0 h1 (by omega) (by omega) t0' t1' t2' x0 x1 x2
  obtain ⟨⟨e1, e2, e3, e4⟩, e5, e6, e7, e8⟩ := hB.ends hE
  have hfl : ∀ x : Mo, 1 ≤ x.2.1 → fl (liftR he (he + ar) x).1 (liftR he (he + ar) x).2 = 25 * he + fl (29 * (he + ar) * x.2.2) x.2.1 := fun x hx => fl_add hx
  have hcl : ∀ x : Mo, 1 ≤ x.2.1 → cl (liftR he (he + ar) x).1 (liftR he (he + ar) x).2 = 25 * he + cl (29 * (he + ar) * x.2.2) x.2.1 := fun x hx => cl_add hx
  refine ⟨e3, by omega, e7, by omega, ⟨by omega, by omega⟩, ⟨by omega, by omega⟩, ?_, ?_⟩
  · have := (ex_rounded hB.pos (f := fl) (fun h1 h2 h3 => fl_mono h1 h2 h3) (25 * he + liftLo (he + ar) t0 t1 w0)).1 ?_ ?_
    · have hE' : exOf (liftR he (he + ar)) (p0, t0, w0) (mos p0 p1 t0 t1 w0 w1) = _ := hE
      rw [hE'] at this; exact this
    · unfold liftLo
      rcases Int.le_total (fl (29 * (he + ar) * w0) t0) (fl (29 * (he + ar) * w0) t1) with h | h
      · exact ⟨(p0, t0, w0), mos_has (.inl rfl) (.inl rfl) (.inl rfl), by rw [hfl _ (by show 1 ≤ t0; omega), Int.min_eq_left h]⟩
      · exact ⟨(p0, t1, w0), mos_has (.inl rfl) (.inr rfl) (.inl rfl), by rw [hfl _ (by show 1 ≤ t1; omega), Int.min_eq_right h]⟩
    · intro x hx
      obtain ⟨g1, g2, g3⟩ := mos_mem hx
      rw [hfl x (by omega)]
      have hm : fl (29 * (he + ar) * w0) x.2.1 ≤ fl (29 * (he + ar) * x.2.2) x.2.1 := fl_mono (by omega) (by omega) (Int.mul_le_mul_of_nonneg_right (Int.mul_le_mul_of_nonneg_left (by omega) (by omega)) (by omega))
      unfold liftLo
      rcases g2 with g2 | g2 <;> rw [g2] at hm ⊢ <;> omega
  · have := (ex_rounded hB.pos (f := cl) (fun h1 h2 h3 => cl_mono h1 h2 h3) (25 * he + liftHi (he + ar) t0 t1 w1)).2 ?_ ?_
    · have hE' : exOf (liftR he (he + ar)) (p0, t0, w0) (mos p0 p1 t0 t1 w0 w1) = _ := hE
      rw [hE'] at this; exact this
    · unfold liftHi
      rcases Int.le_total (cl (29 * (he + ar) * w1) t0) (cl (29 * (he + ar) * w1) t1) with h | h
      · exact ⟨(p0, t1, w1), mos_has (.inl rfl) (.inr rfl) (.inr rfl), by rw [hcl _ (by show 1 ≤ t1; omega), Int.max_eq_right h]⟩
      · exact ⟨(p0, t0, w1), mos_has (.inl rfl) (.inl rfl) (.inr rfl), by rw [hcl _ (by show 1 ≤ t0; omega), Int.max_eq_left h]⟩
    · intro x hx
      obtain ⟨g1, g2, g3⟩ := mos_mem hx
      rw [hcl x (by omega)]
      have hm : cl (29 * (he + ar) * x.2.2) x.2.1 ≤ cl (29 * (he + ar) * w1) x.2.1 := cl_mono (by omega) (by omega) (Int.mul_le_mul_of_nonneg_right (Int.mul_le_mul_of_nonneg_left (by omega) (by omega)) (by omega))
      unfold liftHi
      rcases g2 with g2 | g2 <;> rw [g2] at hm ⊢ <;> omega

/-- Ceilings. -/
def ceilR (A rm : Int) : Mo → Int × Int := fun m => (A * (m.2.1 + m.2.2), rm)
abbrev ceilX (A rm p0 p1 t0 t1 w0 w1 : Int) : (Int × Int) × (Int × Int) := exOf (ceilR A rm) (p0, t0, w0) (mos p0 p1 t0 t1 w0 w1)
theorem ceil_bound {A rm p0 p1 t0 t1 w0 w1 : Int} (hA0 : 0 ≤ A) (hA1 : A ≤ 20000000) (hr0 : 1 ≤ rm) (hr1 : rm ≤ 10000000) (ht0 : 1500 ≤ t0) (ht : t0 ≤ t1) (ht1 : t1 ≤ 3500) (hw0 : -300 ≤ w0) (hw : w0 ≤ w1) (hw1 : w1 ≤ 300) :
    RBound (ceilR A rm) ((p0, t0, w0) :: mos p0 p1 t0 t1 w0 w1) (20000000 * 3800) 10000000 := fun x hx => by
  obtain ⟨h1, h2, h3⟩ := mos_mem hx
  have a : 0 ≤ A * (x.2.1 + x.2.2) := Int.mul_nonneg hA0 (by omega)
  have b : A * (x.2.1 + x.2.2) ≤ 20000000 * 3800 := Int.mul_le_mul hA1 (by omega) (by omega) (by omega)
  exact ⟨by show _ ≤ A * _; omega, b, hr0, hr1⟩
theorem ceil_ex {rm he ar w0 w1 lk ow p0 p1 t0 t1 a b c d : Int} (hc : cellB rm he ar w0 w1 lk ow = true) (ha : spB t0 t1 1500 3500 = true) (hE : ceilX (he + ar) rm p0 p1 t0 t1 w0 w1 = ((a, b), (c, d))) :
    ExR a b c d (fl ((he + ar) * (t0 + w0)) rm) (cl ((he + ar) * (t1 + w1)) rm) := by
  obtain ⟨⟨r0, r1⟩, ⟨h0, h1⟩, ⟨a0', a1'⟩, x0, x1, x2⟩ := cell_ok hc
  unfold spB at ha
  simp at ha
  obtain ⟨t0', t1', t2'⟩ := ha
  have hB := ceil_bound (A := he + ar) (rm := rm) (p0 := p0) (p1 := p1) (t0 := t0) (t1 := t1) (w0 := w0) (w1 := w1) (by omega) (by omega) r0 r1 t0' t1' t2' x0 x1 x2
  obtain ⟨⟨e1, e2, e3, e4⟩, e5, e6, e7, e8⟩ := hB.ends hE
  refine ⟨e3, by omega, e7, by omega, ⟨by omega, by omega⟩, ⟨by omega, by omega⟩, ?_, ?_⟩
  · refine ex_least hB.pos mono_fl hE (p0, t0, w0) (mos_has (.inl rfl) (.inl rfl) (.inl rfl)) (fun x hx => ?_)
    obtain ⟨g1, g2, g3⟩ := mos_mem hx
    exact Int.mul_le_mul_of_nonneg_right (Int.mul_le_mul_of_nonneg_left (by show t0 + w0 ≤ x.2.1 + x.2.2; omega) (by omega)) (by show 0 ≤ rm; omega)
  · refine ex_greatest hB.pos mono_cl hE (p0, t1, w1) (mos_has (.inl rfl) (.inr rfl) (.inr rfl)) (fun x hx => ?_)
    obtain ⟨g1, g2, g3⟩ := mos_mem hx
    exact Int.mul_le_mul_of_nonneg_right (Int.mul_le_mul_of_nonneg_left (by show x.2.1 + x.2.2 ≤ t1 + w1; omega) (by omega)) (by show 0 ≤ rm; omega)

/-- What is beyond the room. -/
def valvR (A rm : Int) : Mo → Int × Int := fun m => (A * (m.2.1 + m.2.2) - rm * m.1, m.2.1 + m.2.2)
abbrev valvX (A rm p0 p1 t0 t1 w0 w1 : Int) : (Int × Int) × (Int × Int) := exOf (valvR A rm) (p0, t0, w0) (mos p0 p1 t0 t1 w0 w1)
theorem valv_bound {A rm p0 p1 t0 t1 w0 w1 : Int} (hA0 : 0 ≤ A) (hA1 : A ≤ 20000000) (hr0 : 1 ≤ rm) (hr1 : rm ≤ 10000000) (hp0 : 0 ≤ p0) (hp : p0 ≤ p1) (hp1 : p1 ≤ 12000) (ht0 : 1500 ≤ t0) (ht : t0 ≤ t1) (ht1 : t1 ≤ 3500) (hw0 : -300 ≤ w0) (hw : w0 ≤ w1) (hw1 : w1 ≤ 300) :
    RBound (valvR A rm) ((p0, t0, w0) :: mos p0 p1 t0 t1 w0 w1) (20000000 * 3800 + 10000000 * 12000) 3800 := fun x hx => by
  obtain ⟨h1, h2, h3⟩ := mos_mem hx
  have a : 0 ≤ A * (x.2.1 + x.2.2) := Int.mul_nonneg hA0 (by omega)
  have b : A * (x.2.1 + x.2.2) ≤ 20000000 * 3800 := Int.mul_le_mul hA1 (by omega) (by omega) (by omega)
  have c : 0 ≤ rm * x.1 := Int.mul_nonneg (by omega) (by omega)
  have d : rm * x.1 ≤ 10000000 * 12000 := Int.mul_le_mul hr1 (by omega) (by omega) (by omega)
  refine ⟨?_, ?_, ?_, ?_⟩
  · show _ ≤ A * _ - rm * _; omega
  · show A * _ - rm * _ ≤ _; omega
  · show 1 ≤ x.2.1 + x.2.2; omega
  · show x.2.1 + x.2.2 ≤ _; omega
structure ValvX (a b c d lo hi : Int) : Prop where
  b0 : 1 ≤ b
  b1 : b ≤ 4611686018427387904
  d0 : 1 ≤ d
  d1 : d ≤ 4611686018427387904
  fa : Fair a
  fc : Fair c
  lo : cl a b = lo
  hi : cl c d = hi
theorem valv_cross {A P Q T U : Int} (h : Q * U ≤ P * T) : (A * U - P) * T ≤ (A * T - Q) * U := by
  rw [Int.sub_mul, Int.sub_mul, Int.mul_right_comm A U T]
  omega
theorem valv_ex {rm he ar w0 w1 lk ow p0 p1 t0 t1 a b c d : Int} (hc : cellB rm he ar w0 w1 lk ow = true) (ha : airB p0 p1 t0 t1 = true) (hE : valvX (he + ar) rm p0 p1 t0 t1 w0 w1 = ((a, b), (c, d))) :
    ValvX a b c d ((he + ar) - fl (rm * p1) (t0 + w0)) ((he + ar) - fl (rm * p0) (t1 + w1)) := by
  obtain ⟨⟨r0, r1⟩, ⟨h0, h1⟩, ⟨a0', a1'⟩, x0, x1, x2⟩ := cell_ok hc
  obtain ⟨⟨p0', p1', p2'⟩, t0', t1', t2'⟩ := air_ok ha
  have hB := valv_bound (A := he + ar) (rm := rm) (p0 := p0) (p1 := p1) (t0 := t0) (t1 := t1) (w0 := w0) (w1 := w1) (by omega) (by omega) r0 r1 (by omega) p1' p2' t0' t1' t2' x0 x1 x2
  obtain ⟨⟨e1, e2, e3, e4⟩, e5, e6, e7, e8⟩ := hB.ends hE
  refine ⟨e3, by omega, e7, by omega, ⟨by omega, by omega⟩, ⟨by omega, by omega⟩, ?_, ?_⟩
  · rw [← cl_sub (by omega)]
    refine ex_least hB.pos mono_cl hE (p1, t0, w0) (mos_has (.inr rfl) (.inl rfl) (.inl rfl)) (fun x hx => ?_)
    obtain ⟨g1, g2, g3⟩ := mos_mem hx
    exact valv_cross (Int.mul_le_mul (Int.mul_le_mul_of_nonneg_left (by show x.1 ≤ p1; omega) (by omega)) (by show t0 + w0 ≤ x.2.1 + x.2.2; omega) (by show 0 ≤ t0 + w0; omega) (Int.mul_nonneg (by omega) (by show 0 ≤ p1; omega)))
  · rw [← cl_sub (by omega)]
    refine ex_greatest hB.pos mono_cl hE (p0, t1, w1) (mos_has (.inl rfl) (.inr rfl) (.inr rfl)) (fun x hx => ?_)
    obtain ⟨g1, g2, g3⟩ := mos_mem hx
    exact valv_cross (Int.mul_le_mul (Int.mul_le_mul_of_nonneg_left (by show p0 ≤ x.1; omega) (by omega)) (by show x.2.1 + x.2.2 ≤ t1 + w1; omega) (by show 0 ≤ x.2.1 + x.2.2; omega) (Int.mul_nonneg (by omega) (by show 0 ≤ x.1; omega)))
end Go.Proofs.Ytpedmjjkhcigkaa
