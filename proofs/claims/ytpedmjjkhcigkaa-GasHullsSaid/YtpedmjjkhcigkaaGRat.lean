/- Package gas: bounds of ratios, the moment of an extreme, what is valid. Numbers only. -/
import Derived.Test.YtpedmjjkhcigkaaGBox
namespace Go.Proofs.Ytpedmjjkhcigkaa
open Go.RowKit

/-- A box of two numbers. -/
structure Two2 (w : World) (B : Nat) (x y : Int) : Prop where
  a0 : w.cell? ⟨B, 0, none⟩ = some (.int .i64 x)
  a1 : w.cell? ⟨B, 1, none⟩ = some (.int .i64 y)
theorem Two2.later {w w1 : World} {B : Nat} {x y : Int} (k : Two2 w B x y) (hb : Below w.heap.size w w1) : Two2 w1 B x y := ⟨cell_later hb k.a0, cell_later hb k.a1⟩
/-- Volumes. -/
def volR (A : Int) : Mo → Int × Int := fun m => (A * (m.2.1 + m.2.2), m.1)
/-- Bounds of ratios at some moments. -/
def RBound (R : Mo → Int × Int) (ms : List Mo) (N D : Int) : Prop := ∀ x, x ∈ ms → -N ≤ (R x).1 ∧ (R x).1 ≤ N ∧ 1 ≤ (R x).2 ∧ (R x).2 ≤ D
theorem RBound.fairs {R : Mo → Int × Int} {ms : List Mo} {N D : Int} (h : RBound R ms N D) (hND : D * N ≤ 4611686018427387904) : Fairs R ms := fun x y hx hy => by
  obtain ⟨a0, a1, _, _⟩ := h x hx
  obtain ⟨_, _, b0, b1⟩ := h y hy
  obtain ⟨c0, c1⟩ := mul_lim2 (x := (R y).2) (y := (R x).1) (m := D) (n := N) (by omega) b1 a0 a1
  rw [Int.mul_comm (R y).2] at c0 c1
  exact ⟨by omega, by omega⟩
theorem RBound.pos {R : Mo → Int × Int} {ms : List Mo} {N D : Int} (h : RBound R ms N D) : ∀ x, x ∈ ms → 0 < (R x).2 := fun x hx => by have := h x hx; omega
theorem RBound.ends {R : Mo → Int × Int} {m : Mo} {ms : List Mo} {N D : Int} (h : RBound R (m :: ms) N D) {a b c d : Int} (hE : exOf R m ms = ((a, b), (c, d))) :
    (-N ≤ a ∧ a ≤ N ∧ 1 ≤ b ∧ b ≤ D) ∧ (-N ≤ c ∧ c ≤ N ∧ 1 ≤ d ∧ d ≤ D) := by
  obtain ⟨⟨x, hx, ex⟩, y, hy, ey⟩ := exOf_mem h.pos
  rw [hE] at ex ey
  have h1 := h x hx
  have h2 := h y hy
  rw [← ex] at h1
  rw [← ey] at h2
  exact ⟨h1, h2⟩
/-- Monotone. -/
def Mono (f : Int → Int → Int) : Prop := ∀ {a b c d : Int}, 0 < b → 0 < d → a * d ≤ c * b → f a b ≤ f c d
theorem mono_fl : Mono fl := fun h1 h2 h3 => fl_mono h1 h2 h3
theorem mono_cl : Mono cl := fun h1 h2 h3 => cl_mono h1 h2 h3
theorem ex_least {R : Mo → Int × Int} {m : Mo} {ms : List Mo} (hp : ∀ x, x ∈ m :: ms → 0 < (R x).2) {f : Int → Int → Int} (hf : Mono f) {a b c d : Int} (hE : exOf R m ms = ((a, b), (c, d))) (y : Mo) (hy : y ∈ m :: ms)
    (hall : ∀ x, x ∈ m :: ms → (R y).1 * (R x).2 ≤ (R x).1 * (R y).2) : f a b = f (R y).1 (R y).2 := by
  have := (ex_rounded hp hf (f (R y).1 (R y).2)).1 ⟨y, hy, rfl⟩ (fun x hx => hf (hp y hy) (hp x hx) (hall x hx))
  rw [hE] at this
  exact this
theorem ex_greatest {R : Mo → Int × Int} {m : Mo} {ms : List Mo} (hp : ∀ x, x ∈ m :: ms → 0 < (R x).2) {f : Int → Int → Int} (hf : Mono f) {a b c d : Int} (hE : exOf R m ms = ((a, b), (c, d))) (y : Mo) (hy : y ∈ m :: ms)
    (hall : ∀ x, x ∈ m :: ms → (R x).1 * (R y).2 ≤ (R y).1 * (R x).2) : f c d = f (R y).1 (R y).2 := by
  have := (ex_rounded hp hf (f (R y).1 (R y).2)).2 ⟨y, hy, rfl⟩ (fun x hx => hf (hp x hx) (hp y hy) (hall x hx))
  rw [hE] at this
  exact this

theorem cell_ok {rm he ar w0 w1 lk ow : Int} (h : cellB rm he ar w0 w1 lk ow = true) : (1 ≤ rm ∧ rm ≤ 10000000) ∧ (0 ≤ he ∧ he ≤ 10000000) ∧ (0 ≤ ar ∧ ar ≤ 10000000) ∧ -300 ≤ w0 ∧ w0 ≤ w1 ∧ w1 ≤ 300 := by
  unfold cellB inB spB at h
  simp only [Bool.and_eq_true, decide_eq_true_eq] at h
  omega
theorem air_ok {p0 p1 t0 t1 : Int} (h : airB p0 p1 t0 t1 = true) : (1000 ≤ p0 ∧ p0 ≤ p1 ∧ p1 ≤ 12000) ∧ 1500 ≤ t0 ∧ t0 ≤ t1 ∧ t1 ≤ 3500 := by
  unfold airB spB at h
  simp only [Bool.and_eq_true, decide_eq_true_eq] at h
  omega
/-- The error of a cell and air. -/
def bothN (rm he ar w0 w1 lk ow p0 p1 t0 t1 : Int) : Int := if cellB rm he ar w0 w1 lk ow then airN p0 p1 t0 t1 else 31
theorem both_ok {rm he ar w0 w1 lk ow p0 p1 t0 t1 : Int} (h : bothN rm he ar w0 w1 lk ow p0 p1 t0 t1 = 0) : cellB rm he ar w0 w1 lk ow = true ∧ airB p0 p1 t0 t1 = true := by
  unfold bothN airN at h
  split at h
  · split at h
    · exact ⟨by assumption, by assumption⟩
    · omega
  · omega

/-- The volumes' moments. -/
theorem vol_bound {A p0 p1 t0 t1 w0 w1 : Int} (hA0 : 0 ≤ A) (hA1 : A ≤ 20000000) (hp0 : 1 ≤ p0) (hp : p0 ≤ p1) (hp1 : p1 ≤ 12000) (ht0 : 1500 ≤ t0) (ht : t0 ≤ t1) (ht1 : t1 ≤ 3500) (hw0 : -300 ≤ w0) (hw : w0 ≤ w1) (hw1 : w1 ≤ 300) :
    RBound (volR A) ((p0, t0, w0) :: mos p0 p1 t0 t1 w0 w1) (20000000 * 3800) 12000 := fun x hx => by
  obtain ⟨h1, h2, h3⟩ := mos_mem hx
  have a : 0 ≤ A * (x.2.1 + x.2.2) := Int.mul_nonneg hA0 (by omega)
  have b : A * (x.2.1 + x.2.2) ≤ 20000000 * 3800 := Int.mul_le_mul hA1 (by omega) (by omega) (by omega)
  exact ⟨by show _ ≤ A * _; omega, b, by show 1 ≤ x.1; omega, by show x.1 ≤ _; omega⟩
theorem vol_least {A p0 p1 t0 t1 w0 w1 : Int} (hA0 : 0 ≤ A) (hp0 : 1 ≤ p0) (hp : p0 ≤ p1) (ht0 : 1500 ≤ t0) (ht : t0 ≤ t1) (hw0 : -300 ≤ w0) (hw : w0 ≤ w1) {x : Mo} (hx : x ∈ (p0, t0, w0) :: mos p0 p1 t0 t1 w0 w1) :
    A * (t0 + w0) * x.1 ≤ A * (x.2.1 + x.2.2) * p1 := by
  obtain ⟨h1, h2, h3⟩ := mos_mem hx
  exact Int.mul_le_mul (Int.mul_le_mul_of_nonneg_left (by omega) hA0) (by omega) (by omega) (Int.mul_nonneg hA0 (by omega))
theorem vol_greatest {A p0 p1 t0 t1 w0 w1 : Int} (hA0 : 0 ≤ A) (hp0 : 1 ≤ p0) (hp : p0 ≤ p1) (ht0 : 1500 ≤ t0) (ht : t0 ≤ t1) (hw0 : -300 ≤ w0) (hw : w0 ≤ w1) {x : Mo} (hx : x ∈ (p0, t0, w0) :: mos p0 p1 t0 t1 w0 w1) :
    A * (x.2.1 + x.2.2) * p0 ≤ A * (t1 + w1) * x.1 := by
  obtain ⟨h1, h2, h3⟩ := mos_mem hx
  exact Int.mul_le_mul (Int.mul_le_mul_of_nonneg_left (by omega) hA0) (by omega) (by omega) (Int.mul_nonneg hA0 (by omega))
end Go.Proofs.Ytpedmjjkhcigkaa
