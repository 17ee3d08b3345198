/- Package gas: what overpressures, and what the ballonet may hold, come to. Numbers only. -/
import Derived.Test.YtpedmjjkhcigkaaGLiftM
import Derived.Test.YtpedmjjkhcigkaaGHull
namespace Go.Proofs.Ytpedmjjkhcigkaa
open Go.RowKit

theorem hull_ok {rm gs w0 w1 bl bg ls ms : Int} (h : hullB rm gs w0 w1 bl bg ls ms = true) : (1 ≤ rm ∧ rm ≤ 10000000) ∧ (0 ≤ gs ∧ gs ≤ 10000000) ∧ (-300 ≤ w0 ∧ w0 ≤ w1 ∧ w1 ≤ 300) ∧ (0 ≤ bl ∧ bl ≤ bg ∧ bg ≤ 10000000) ∧ 0 ≤ ls ∧ ls ≤ ms ∧ ms ≤ 500 := by
  unfold hullB inB spB at h
  simp only [Bool.and_eq_true, decide_eq_true_eq] at h
  omega
theorem fl_sub {a k d : Int} (hd : 1 ≤ d) : fl (a - k * d) d = fl a d - k := by
  rw [show a - k * d = (-k) * d + a by rw [Int.neg_mul]; omega, fl_add hd]; omega
theorem cl_sub2 {a k d : Int} (hd : 1 ≤ d) : cl (a - k * d) d = cl a d - k := by
  rw [show a - k * d = (-k) * d + a by rw [Int.neg_mul]; omega, cl_add hd]; omega
theorem fl_le_cl {a b d : Int} (hd : 1 ≤ d) (h : a ≤ b) : fl a d ≤ cl b d := by
  have h1 : fl a d ≤ fl b d := fl_mono (by omega) (by omega) (Int.mul_le_mul_of_nonneg_right h (by omega))
  have h2 : b / d * d ≤ b := Int.ediv_mul_le b (by omega)
  have h3 : (-b) / d * d ≤ -b := Int.ediv_mul_le (-b) (by omega)
  have h4 : fl b d ≤ cl b d := by
    unfold fl cl
    have h5 : b / d * d ≤ (-((-b) / d)) * d := by rw [Int.neg_mul]; omega
    exact Int.le_of_mul_le_mul_right h5 (by omega)
  omega

/-- Overpressures. -/
def overR (rm gs bl : Int) : Mo → Int × Int := fun m => (gs * (m.2.1 + m.2.2) + bl * m.2.1 - m.1 * rm, rm)
abbrev overX (rm gs bl p0 p1 t0 t1 w0 w1 : Int) : (Int × Int) × (Int × Int) := exOf (overR rm gs bl) (p0, t0, w0) (mos p0 p1 t0 t1 w0 w1)
theorem over_bound {rm gs bl p0 p1 t0 t1 w0 w1 : Int} (hr0 : 1 ≤ rm) (hr1 : rm ≤ 10000000) (hg0 : 0 ≤ gs) (hg1 : gs ≤ 10000000) (hb0 : 0 ≤ bl) (hb1 : bl ≤ 10000000) (hp0 : 0 ≤ p0) (hp : p0 ≤ p1) (hp1 : p1 ≤ 12000) (ht0 : 1500 ≤ t0) (ht : t0 ≤ t1) (ht1 : t1 ≤ 3500) (hw0 : -300 ≤ w0) (hw : w0 ≤ w1) (hw1 : w1 ≤ 300) :
    RBound (overR rm gs bl) ((p0, t0, w0) :: mos p0 p1 t0 t1 w0 w1) (10000000 * 3800 + 10000000 * 3500 + 12000 * 10000000) 10000000 := fun x hx => by
  obtain ⟨h1, h2, h3⟩ := mos_mem hx
  have a : 0 ≤ gs * (x.2.1 + x.2.2) := Int.mul_nonneg hg0 (by omega)
  have b : gs * (x.2.1 + x.2.2) ≤ 10000000 * 3800 := Int.mul_le_mul hg1 (by omega) (by omega) (by omega)
  have c : 0 ≤ bl * x.2.1 := Int.mul_nonneg hb0 (by omega)
  have d : bl * x.2.1 ≤ 10000000 * 3500 := Int.mul_le_mul hb1 (by omega) (by omega) (by omega)
  have e : 0 ≤ x.1 * rm := Int.mul_nonneg (by omega) (by omega)
  have f : x.1 * rm ≤ 12000 * 10000000 := Int.mul_le_mul (by omega) hr1 (by omega) (by omega)
  refine ⟨?_, ?_, hr0, hr1⟩
  · show _ ≤ gs * (x.2.1 + x.2.2) + bl * x.2.1 - x.1 * rm; omega
  · show gs * (x.2.1 + x.2.2) + bl * x.2.1 - x.1 * rm ≤ _; omega
/-- The least, and the greatest, pressure, times the room. -/
def endLo (gs bl t0 w0 : Int) : Int := (gs + bl) * t0 + gs * w0
theorem over_num {gs bl p t u rm : Int} : gs * (t + u) + bl * t - p * rm = endLo gs bl t u - p * rm := by
  unfold endLo
  rw [Int.mul_add, Int.add_mul]
  omega
theorem over_ex {rm gs w0 w1 bl bg ls ms p0 p1 t0 t1 a b c d : Int} (hh : hullB rm gs w0 w1 bl bg ls ms = true) (ha : airB p0 p1 t0 t1 = true) (hE : overX rm gs bl p0 p1 t0 t1 w0 w1 = ((a, b), (c, d))) :
    ExR a b c d (fl (endLo gs bl t0 w0) rm - p1) (cl (endLo gs bl t1 w1) rm - p0) := by
  obtain ⟨⟨r0, r1⟩, ⟨g0, g1⟩, ⟨x0, x1, x2⟩, ⟨b0, b1, b2⟩, l0, l1, l2⟩ := hull_ok hh
  obtain ⟨⟨p0', p1', p2'⟩, t0', t1', t2'⟩ := air_ok ha
  have hB := over_bound (rm := rm) (gs := gs) (bl := bl) (p0 := p0) (p1 := p1) (t0 := t0) (t1 := t1) (w0 := w0) (w1 := w1) r0 r1 g0 g1 b0 (by omega) (by omega) p1' p2' t0' t1' t2' x0 x1 x2
  obtain ⟨⟨e1, e2, e3, e4⟩, e5, e6, e7, e8⟩ := hB.ends hE
  have hle : ∀ {t t' u u' p p' : Int}, 0 ≤ t → t ≤ t' → t + u ≤ t' + u' → p' ≤ p → 0 ≤ p' → gs * (t + u) + bl * t - p * rm ≤ gs * (t' + u') + bl * t' - p' * rm := fun h0 h1 h2 h3 h4 => by
    have k1 := Int.mul_le_mul_of_nonneg_left h2 g0
    have k2 := Int.mul_le_mul_of_nonneg_left h1 b0
    have k3 := Int.mul_le_mul_of_nonneg_right h3 (show 0 ≤ rm by omega)
    omega
  refine ⟨e3, by omega, e7, by omega, ⟨by omega, by omega⟩, ⟨by omega, by omega⟩, ?_, ?_⟩
  · rw [← fl_sub r0, ← over_num]
    refine ex_least hB.pos mono_fl hE (p1, t0, w0) (mos_has (.inr rfl) (.inl rfl) (.inl rfl)) (fun x hx => ?_)
    obtain ⟨h1, h2, h3⟩ := mos_mem hx
    exact Int.mul_le_mul_of_nonneg_right (hle (by show 0 ≤ t0; omega) (by show t0 ≤ x.2.1; omega) (by show t0 + w0 ≤ x.2.1 + x.2.2; omega) (by show x.1 ≤ p1; omega) (by show 0 ≤ x.1; omega)) (by show 0 ≤ rm; omega)
  · rw [← cl_sub2 r0, ← over_num]
    refine ex_greatest hB.pos mono_cl hE (p0, t1, w1) (mos_has (.inl rfl) (.inr rfl) (.inr rfl)) (fun x hx => ?_)
    obtain ⟨h1, h2, h3⟩ := mos_mem hx
    exact Int.mul_le_mul_of_nonneg_right (hle (by show 0 ≤ x.2.1; omega) (by show x.2.1 ≤ t1; omega) (by show x.2.1 + x.2.2 ≤ t1 + w1; omega) (by show p0 ≤ x.1; omega) (by show 0 ≤ p0; omega)) (by show 0 ≤ rm; omega)
theorem end_bound {gs bl t u : Int} (hg0 : 0 ≤ gs) (hg1 : gs ≤ 10000000) (hb0 : 0 ≤ bl) (hb1 : bl ≤ 10000000) (ht0 : 1500 ≤ t) (ht1 : t ≤ 3500) (hu0 : -300 ≤ u) (hu1 : u ≤ 300) :
    (0 ≤ (gs + bl) * t ∧ (gs + bl) * t ≤ 20000000 * 3500) ∧ (-(10000000 * 300) ≤ gs * u ∧ gs * u ≤ 10000000 * 300) :=
  ⟨⟨Int.mul_nonneg (by omega) (by omega), Int.mul_le_mul (by omega) (by omega) (by omega) (by omega)⟩, mul_lim2 hg0 hg1 hu0 hu1⟩
/-- Whether a hull holds. -/
def holdB (rm gs w0 w1 bl ls ms p0 p1 t0 t1 : Int) : Bool := decide ((ls + p1) * rm ≤ endLo gs bl t0 w0) && decide (endLo gs bl t1 w1 ≤ (ms + p0) * rm)
theorem hold_same {rm gs w0 w1 bl bg ls ms p0 p1 t0 t1 : Int} (hh : hullB rm gs w0 w1 bl bg ls ms = true) (ha : airB p0 p1 t0 t1 = true) :
    spB (fl (endLo gs bl t0 w0) rm - p1) (cl (endLo gs bl t1 w1) rm - p0) ls ms = holdB rm gs w0 w1 bl ls ms p0 p1 t0 t1 := by
  obtain ⟨⟨r0, r1⟩, ⟨g0, g1⟩, ⟨x0, x1, x2⟩, ⟨b0, b1, b2⟩, l0, l1, l2⟩ := hull_ok hh
  obtain ⟨⟨p0', p1', p2'⟩, t0', t1', t2'⟩ := air_ok ha
  have h1 : ls ≤ fl (endLo gs bl t0 w0) rm - p1 ↔ (ls + p1) * rm ≤ endLo gs bl t0 w0 := by
    have := Int.le_ediv_iff_mul_le (a := ls + p1) (b := endLo gs bl t0 w0) (c := rm) (by omega)
    unfold fl
    omega
  have h2 : cl (endLo gs bl t1 w1) rm - p0 ≤ ms ↔ endLo gs bl t1 w1 ≤ (ms + p0) * rm := by
    have := Int.le_ediv_iff_mul_le (a := -(ms + p0)) (b := -endLo gs bl t1 w1) (c := rm) (by omega)
    rw [Int.neg_mul] at this
    unfold cl
    omega
  have h3 : endLo gs bl t0 w0 ≤ endLo gs bl t1 w1 := by
    have k1 := Int.mul_le_mul_of_nonneg_left (show t0 ≤ t1 by omega) (show 0 ≤ gs + bl by omega)
    have k2 := Int.mul_le_mul_of_nonneg_left x1 g0
    unfold endLo
    omega
  have h4 := fl_le_cl r0 h3
  unfold spB holdB
  rw [Bool.eq_iff_iff, Bool.and_eq_true, decide_eq_true_eq, decide_eq_true_eq, decide_eq_true_eq, ← h1, ← h2]
  omega

/-- What the ballonet may hold. -/
def blowR (rm gs ov : Int) : Mo → Int × Int := fun m => ((m.1 + ov) * rm - gs * (m.2.1 + m.2.2), m.2.1)
abbrev blowX (rm gs ov p0 p1 t0 t1 w0 w1 : Int) : (Int × Int) × (Int × Int) := exOf (blowR rm gs ov) (p0, t0, w0) (mos p0 p1 t0 t1 w0 w1)
theorem blow_bound {rm gs ov p0 p1 t0 t1 w0 w1 : Int} (hr0 : 1 ≤ rm) (hr1 : rm ≤ 10000000) (hg0 : 0 ≤ gs) (hg1 : gs ≤ 10000000) (ho0 : 0 ≤ ov) (ho1 : ov ≤ 500) (hp0 : 0 ≤ p0) (hp : p0 ≤ p1) (hp1 : p1 ≤ 12000) (ht0 : 1500 ≤ t0) (ht : t0 ≤ t1) (ht1 : t1 ≤ 3500) (hw0 : -300 ≤ w0) (hw : w0 ≤ w1) (hw1 : w1 ≤ 300) :
    RBound (blowR rm gs ov) ((p0, t0, w0) :: mos p0 p1 t0 t1 w0 w1) (12500 * 10000000 + 10000000 * 3800) 3500 := fun x hx => by
  obtain ⟨h1, h2, h3⟩ := mos_mem hx
  have a : 0 ≤ gs * (x.2.1 + x.2.2) := Int.mul_nonneg hg0 (by omega)
  have b : gs * (x.2.1 + x.2.2) ≤ 10000000 * 3800 := Int.mul_le_mul hg1 (by omega) (by omega) (by omega)
  have e : 0 ≤ (x.1 + ov) * rm := Int.mul_nonneg (by omega) (by omega)
  have f : (x.1 + ov) * rm ≤ 12500 * 10000000 := Int.mul_le_mul (by omega) hr1 (by omega) (by omega)
  refine ⟨?_, ?_, ?_, ?_⟩
  · show _ ≤ (x.1 + ov) * rm - gs * (x.2.1 + x.2.2); omega
  · show (x.1 + ov) * rm - gs * (x.2.1 + x.2.2) ≤ _; omega
  · show 1 ≤ x.2.1; omega
  · show x.2.1 ≤ _; omega
theorem blow_num {rm gs ov p t u : Int} : (p + ov) * rm - gs * (t + u) = ((ov + p) * rm - gs * u) - gs * t := by
  rw [Int.mul_add, Int.add_comm p ov]
  omega
def blowLo (rm gs w0 ls p1 t0 : Int) : Int := max (cl ((ls + p1) * rm - gs * w0) t0 - gs) 0
/-- The specification's greatest amount. -/
def blowHi (rm gs w1 bg ms p0 t1 : Int) : Int := min (fl ((ms + p0) * rm - gs * w1) t1 - gs) bg
theorem cl_neg {n d : Int} (hd : 1 ≤ d) (h : n ≤ 0) : cl n d ≤ 0 := by
  have : 0 ≤ (-n) / d := Int.ediv_nonneg (by omega) (by omega)
  unfold cl; omega
theorem fl_neg {n d : Int} (hd : 1 ≤ d) (h : n < 0) : fl n d < 0 := by
  unfold fl
  rw [Int.ediv_lt_iff_lt_mul (by omega)]
  omega
theorem blow_lo {rm gs w0 w1 bl bg ls ms p0 p1 t0 t1 a b c d : Int} (hh : hullB rm gs w0 w1 bl bg ls ms = true) (ha : airB p0 p1 t0 t1 = true) (hE : blowX rm gs ls p0 p1 t0 t1 w0 w1 = ((a, b), (c, d))) :
    max (cl c d) 0 = blowLo rm gs w0 ls p1 t0 := by
  obtain ⟨⟨r0, r1⟩, ⟨g0, g1⟩, ⟨x0, x1, x2⟩, ⟨b0, b1, b2⟩, l0, l1, l2⟩ := hull_ok hh
  obtain ⟨⟨p0', p1', p2'⟩, t0', t1', t2'⟩ := air_ok ha
  have hB := blow_bound (rm := rm) (gs := gs) (ov := ls) (p0 := p0) (p1 := p1) (t0 := t0) (t1 := t1) (w0 := w0) (w1 := w1) r0 r1 g0 g1 l0 (by omega) (by omega) p1' p2' t0' t1' t2' x0 x1 x2
  have hcl : ∀ x : Mo, 1 ≤ x.2.1 → cl (blowR rm gs ls x).1 (blowR rm gs ls x).2 = cl ((ls + x.1) * rm - gs * x.2.2) x.2.1 - gs := fun x hx => by
    show cl ((x.1 + ls) * rm - gs * (x.2.1 + x.2.2)) x.2.1 = _
    rw [blow_num, cl_sub2 hx]
  have hN : ∀ x : Mo, x ∈ (p0, t0, w0) :: mos p0 p1 t0 t1 w0 w1 → (ls + x.1) * rm - gs * x.2.2 ≤ (ls + p1) * rm - gs * w0 := fun x hx => by
    obtain ⟨h1, h2, h3⟩ := mos_mem hx
    have k1 := Int.mul_le_mul_of_nonneg_right (show ls + x.1 ≤ ls + p1 by omega) (show 0 ≤ rm by omega)
    have k2 := Int.mul_le_mul_of_nonneg_left (show w0 ≤ x.2.2 by omega) g0
    omega
  unfold blowLo
  obtain ⟨_, y, hy, ey⟩ := exOf_mem hB.pos
  have hE' : exOf (blowR rm gs ls) (p0, t0, w0) (mos p0 p1 t0 t1 w0 w1) = _ := hE
  rw [hE'] at ey
  have hyt : 1 ≤ y.2.1 := by obtain ⟨h1, h2, h3⟩ := mos_mem hy; omega
  have ecl : cl c d = cl ((ls + y.1) * rm - gs * y.2.2) y.2.1 - gs := by
    rw [← hcl y hyt, ← ey]
  by_cases hn : 0 ≤ (ls + p1) * rm - gs * w0
  · have := (ex_rounded hB.pos (f := cl) (fun h1 h2 h3 => cl_mono h1 h2 h3) (cl ((ls + p1) * rm - gs * w0) t0 - gs)).2 ⟨(p1, t0, w0), mos_has (.inr rfl) (.inl rfl) (.inl rfl), hcl _ (by show 1 ≤ t0; omega)⟩ (fun x hx => by
      obtain ⟨h1, h2, h3⟩ := mos_mem hx
      rw [hcl x (by omega)]
      have k1 : cl ((ls + x.1) * rm - gs * x.2.2) x.2.1 ≤ cl ((ls + p1) * rm - gs * w0) x.2.1 := cl_mono (by omega) (by omega) (Int.mul_le_mul_of_nonneg_right (hN x hx) (by omega))
      have k2 : cl ((ls + p1) * rm - gs * w0) x.2.1 ≤ cl ((ls + p1) * rm - gs * w0) t0 := cl_mono (by omega) (by omega) (Int.mul_le_mul_of_nonneg_left (by omega) hn)
      omega)
    rw [hE'] at this
    rw [show cl c d = _ from this]
  · have k1 := cl_neg (n := (ls + y.1) * rm - gs * y.2.2) hyt (by have := hN y hy; omega)
    have k2 := cl_neg (n := (ls + p1) * rm - gs * w0) (d := t0) (by omega) (by omega)
    omega
theorem blow_hi {rm gs w0 w1 bl bg ls ms p0 p1 t0 t1 a b c d : Int} (hh : hullB rm gs w0 w1 bl bg ls ms = true) (ha : airB p0 p1 t0 t1 = true) (hE : blowX rm gs ms p0 p1 t0 t1 w0 w1 = ((a, b), (c, d))) :
    min (fl a b) bg = blowHi rm gs w1 bg ms p0 t1 ∨ (min (fl a b) bg < 0 ∧ blowHi rm gs w1 bg ms p0 t1 < 0) := by
  obtain ⟨⟨r0, r1⟩, ⟨g0, g1⟩, ⟨x0, x1, x2⟩, ⟨b0, b1, b2⟩, l0, l1, l2⟩ := hull_ok hh
  obtain ⟨⟨p0', p1', p2'⟩, t0', t1', t2'⟩ := air_ok ha
  have hB := blow_bound (rm := rm) (gs := gs) (ov := ms) (p0 := p0) (p1 := p1) (t0 := t0) (t1 := t1) (w0 := w0) (w1 := w1) r0 r1 g0 g1 (by omega) (by omega) (by omega) p1' p2' t0' t1' t2' x0 x1 x2
  have hfl : ∀ x : Mo, 1 ≤ x.2.1 → fl (blowR rm gs ms x).1 (blowR rm gs ms x).2 = fl ((ms + x.1) * rm - gs * x.2.2) x.2.1 - gs := fun x hx => by
    show fl ((x.1 + ms) * rm - gs * (x.2.1 + x.2.2)) x.2.1 = _
    rw [blow_num, fl_sub hx]
  have hN : ∀ x : Mo, x ∈ (p0, t0, w0) :: mos p0 p1 t0 t1 w0 w1 → (ms + p0) * rm - gs * w1 ≤ (ms + x.1) * rm - gs * x.2.2 := fun x hx => by
    obtain ⟨h1, h2, h3⟩ := mos_mem hx
    have k1 := Int.mul_le_mul_of_nonneg_right (show ms + p0 ≤ ms + x.1 by omega) (show 0 ≤ rm by omega)
    have k2 := Int.mul_le_mul_of_nonneg_left (show x.2.2 ≤ w1 by omega) g0
    omega
  have hE' : exOf (blowR rm gs ms) (p0, t0, w0) (mos p0 p1 t0 t1 w0 w1) = _ := hE
  unfold blowHi
  by_cases hn : 0 ≤ (ms + p0) * rm - gs * w1
  · have := (ex_rounded hB.pos (f := fl) (fun h1 h2 h3 => fl_mono h1 h2 h3) (fl ((ms + p0) * rm - gs * w1) t1 - gs)).1 ⟨(p0, t1, w1), mos_has (.inl rfl) (.inr rfl) (.inr rfl), hfl _ (by show 1 ≤ t1; omega)⟩ (fun x hx => by
      obtain ⟨h1, h2, h3⟩ := mos_mem hx
      rw [hfl x (by omega)]
      have k1 : fl ((ms + p0) * rm - gs * w1) x.2.1 ≤ fl ((ms + x.1) * rm - gs * x.2.2) x.2.1 := fl_mono (by omega) (by omega) (Int.mul_le_mul_of_nonneg_right (hN x hx) (by omega))
      have k2 : fl ((ms + p0) * rm - gs * w1) t1 ≤ fl ((ms + p0) * rm - gs * w1) x.2.1 := fl_mono (by omega) (by omega) (Int.mul_le_mul_of_nonneg_left (by omega) hn)
      omega)
    rw [hE'] at this
    exact .inl (by rw [show fl a b = _ from this])
  · right
    have hI := exOf_inv hB.pos
    have hlo := hI.lo (p0, t1, w1) (mos_has (.inl rfl) (.inr rfl) (.inr rfl))
    obtain ⟨⟨e1, e2, e3, e4⟩, _⟩ := hB.ends hE
    rw [hE'] at hlo
    have k1 : fl a b ≤ fl (blowR rm gs ms (p0, t1, w1)).1 (blowR rm gs ms (p0, t1, w1)).2 := fl_mono (by omega) (by show 0 < t1; omega) hlo
    rw [hfl _ (by show 1 ≤ t1; omega)] at k1
    have k2 := fl_neg (n := (ms + p0) * rm - gs * w1) (d := t1) (by omega) (by omega)
    have k3 : fl a b ≤ fl ((ms + p0) * rm - gs * w1) t1 - gs := k1
    omega
end Go.Proofs.Ytpedmjjkhcigkaa
