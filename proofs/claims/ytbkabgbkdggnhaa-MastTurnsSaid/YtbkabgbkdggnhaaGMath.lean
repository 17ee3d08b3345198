/- Package gas: extremes of ratios at some moments; floors and ceilings. Numbers only. -/
import Derived.Test.YtbkabgbkdggnhaaBase
namespace Go.Proofs.Ytbkabgbkdggnhaa

/-- A pressure, a temperature and a superheat. -/
abbrev Mo := Int × Int × Int
/-- A ratio rounded down, and rounded up. -/
def fl (n d : Int) : Int := n / d
def cl (n d : Int) : Int := -((-n) / d)

theorem fl_mono {a b c d : Int} (hb : 0 < b) (hd : 0 < d) (h : a * d ≤ c * b) : fl a b ≤ fl c d := by
  unfold fl
  refine (Int.le_ediv_iff_mul_le hd).2 ?_
  have h1 : a / b * b ≤ a := Int.ediv_mul_le a (by omega)
  have h2 : a / b * b * d ≤ a * d := Int.mul_le_mul_of_nonneg_right h1 (by omega)
  have h3 : a / b * d * b ≤ c * b := by rw [Int.mul_right_comm]; exact Int.le_trans h2 h
  exact Int.le_of_mul_le_mul_right h3 hb
theorem cl_mono {a b c d : Int} (hb : 0 < b) (hd : 0 < d) (h : a * d ≤ c * b) : cl a b ≤ cl c d := by
  unfold cl
  have := fl_mono (a := -c) (b := d) (c := -a) (d := b) hd hb (by rw [Int.neg_mul, Int.neg_mul]; omega)
  unfold fl at this
  omega

/-- One more moment. -/
def exStep (R : Mo → Int × Int) (acc : (Int × Int) × (Int × Int)) (m : Mo) : (Int × Int) × (Int × Int) :=
  (if (R m).1 * acc.1.2 < acc.1.1 * (R m).2 then R m else acc.1, if acc.2.1 * (R m).2 < (R m).1 * acc.2.2 then R m else acc.2)
/-- The extremes at some moments. -/
def exOf (R : Mo → Int × Int) (m : Mo) (ms : List Mo) : (Int × Int) × (Int × Int) := ms.foldl (exStep R) (R m, R m)

/-- What holds of the extremes so far. -/
structure ExI (R : Mo → Int × Int) (acc : (Int × Int) × (Int × Int)) (seen : List Mo) : Prop where
  l : ∃ m, m ∈ seen ∧ acc.1 = R m
  g : ∃ m, m ∈ seen ∧ acc.2 = R m
  lo : ∀ m, m ∈ seen → acc.1.1 * (R m).2 ≤ (R m).1 * acc.1.2
  hi : ∀ m, m ∈ seen → (R m).1 * acc.2.2 ≤ acc.2.1 * (R m).2

theorem cross_trans {a b c d e f : Int} (hb : 0 < b) (hd : 0 < d) (hf : 0 < f) (h1 : a * d ≤ c * b) (h2 : c * f ≤ e * d) : a * f ≤ e * b := by
  have h3 : a * d * f ≤ c * b * f := Int.mul_le_mul_of_nonneg_right h1 (by omega)
  have h4 : c * f * b ≤ e * d * b := Int.mul_le_mul_of_nonneg_right h2 (by omega)
  have h5 : a * f * d ≤ e * b * d := by
    rw [Int.mul_right_comm a f d, Int.mul_right_comm e b d]
    rw [Int.mul_right_comm c f b] at h4
    exact Int.le_trans h3 h4
  exact Int.le_of_mul_le_mul_right h5 hd

theorem exStep_inv {R : Mo → Int × Int} {acc : (Int × Int) × (Int × Int)} {seen : List Mo} {m : Mo} (h : ExI R acc seen) (hp : ∀ x, x ∈ m :: seen → 0 < (R x).2) : ExI R (exStep R acc m) (m :: seen) := by
  obtain ⟨ml, hml, el⟩ := h.l
  obtain ⟨mg, hmg, eg⟩ := h.g
  have pm := hp m (List.mem_cons_self ..)
  have pl : 0 < acc.1.2 := by rw [el]; exact hp ml (List.mem_cons_of_mem _ hml)
  have pg : 0 < acc.2.2 := by rw [eg]; exact hp mg (List.mem_cons_of_mem _ hmg)
  refine ⟨?_, ?_, ?_, ?_⟩
  · unfold exStep; simp only; split
    · exact ⟨m, List.mem_cons_self .., rfl⟩
    · exact ⟨ml, List.mem_cons_of_mem _ hml, el⟩
  · unfold exStep; simp only; split
    · exact ⟨m, List.mem_cons_self .., rfl⟩
    · exact ⟨mg, List.mem_cons_of_mem _ hmg, eg⟩
  · intro x hx
    unfold exStep; simp only; split
    · rename_i hlt
      rcases List.mem_cons.1 hx with rfl | hx'
      · exact Int.le_refl _
      · exact cross_trans pm pl (hp x hx) (Int.le_of_lt hlt) (h.lo x hx')
    · rename_i hlt
      rcases List.mem_cons.1 hx with rfl | hx'
      · omega
      · exact h.lo x hx'
  · intro x hx
    unfold exStep; simp only; split
    · rename_i hlt
      rcases List.mem_cons.1 hx with rfl | hx'
      · exact Int.le_refl _
      · exact cross_trans (hp x hx) pg pm (h.hi x hx') (Int.le_of_lt hlt)
    · rename_i hlt
      rcases List.mem_cons.1 hx with rfl | hx'
      · omega
      · exact h.hi x hx'
theorem foldl_inv {R : Mo → Int × Int} : ∀ (ms seen : List Mo) (acc : (Int × Int) × (Int × Int)), ExI R acc seen → (∀ x, x ∈ ms ∨ x ∈ seen → 0 < (R x).2) →
    ∃ seen', ExI R (ms.foldl (exStep R) acc) seen' ∧ ∀ x, x ∈ seen' ↔ (x ∈ ms ∨ x ∈ seen)
  | [], seen, acc, h, _ => ⟨seen, h, fun x => by simp⟩
  | m :: ms, seen, acc, h, hp => by
    obtain ⟨s', h', e'⟩ := foldl_inv ms (m :: seen) (exStep R acc m) (exStep_inv h (fun x hx => hp x (by
      rcases List.mem_cons.1 hx with rfl | hx
      · exact .inl (List.mem_cons_self ..)
      · exact .inr hx))) (fun x hx => hp x (by
      rcases hx with hx | hx
      · exact .inl (List.mem_cons_of_mem _ hx)
      · rcases List.mem_cons.1 hx with rfl | hx
        · exact .inl (List.mem_cons_self ..)
        · exact .inr hx))
    refine ⟨s', h', fun x => ?_⟩
    rw [e' x]
    simp only [List.mem_cons]
    constructor
    · rintro (h | h | h)
      · exact .inl (.inr h)
      · exact .inl (.inl h)
      · exact .inr h
    · rintro ((h | h) | h)
      · exact .inr (.inl h)
      · exact .inl h
      · exact .inr (.inr h)
theorem exOf_inv {R : Mo → Int × Int} {m : Mo} {ms : List Mo} (hp : ∀ x, x ∈ m :: ms → 0 < (R x).2) : ExI R (exOf R m ms) (m :: ms) := by
  obtain ⟨s', h', e'⟩ := foldl_inv ms [m] (R m, R m) ⟨⟨m, by simp, rfl⟩, ⟨m, by simp, rfl⟩, fun x hx => by simp at hx; subst hx; exact Int.le_refl _, fun x hx => by simp at hx; subst hx; exact Int.le_refl _⟩
    (fun x hx => hp x (by simpa [or_comm] using hx))
  have hh : ∀ x, x ∈ s' ↔ x ∈ m :: ms := fun x => by rw [e' x]; simp [or_comm]
  obtain ⟨a, ha, ea⟩ := h'.l
  obtain ⟨b, hb, eb⟩ := h'.g
  exact ⟨⟨a, (hh a).1 ha, ea⟩, ⟨b, (hh b).1 hb, eb⟩, fun x hx => h'.lo x ((hh x).2 hx), fun x hx => h'.hi x ((hh x).2 hx)⟩

/-- The extremes, rounded: what no moment passes, and one comes to. -/
theorem ex_rounded {R : Mo → Int × Int} {m : Mo} {ms : List Mo} (hp : ∀ x, x ∈ m :: ms → 0 < (R x).2) {f : Int → Int → Int}
    (hf : ∀ {a b c d : Int}, 0 < b → 0 < d → a * d ≤ c * b → f a b ≤ f c d) (c : Int) :
    ((∃ x, x ∈ m :: ms ∧ f (R x).1 (R x).2 = c) → (∀ x, x ∈ m :: ms → c ≤ f (R x).1 (R x).2) → f (exOf R m ms).1.1 (exOf R m ms).1.2 = c) ∧
    ((∃ x, x ∈ m :: ms ∧ f (R x).1 (R x).2 = c) → (∀ x, x ∈ m :: ms → f (R x).1 (R x).2 ≤ c) → f (exOf R m ms).2.1 (exOf R m ms).2.2 = c) := by
  have hI := exOf_inv hp
  constructor
  · rintro ⟨x, hx, rfl⟩ hall
    obtain ⟨y, hy, ey⟩ := hI.l
    have h1 := hall y hy
    have h2 := hf (by rw [ey]; exact hp y hy) (hp x hx) (hI.lo x hx)
    rw [ey] at h2 ⊢
    omega
  · rintro ⟨x, hx, rfl⟩ hall
    obtain ⟨y, hy, ey⟩ := hI.g
    have h1 := hall y hy
    have h2 := hf (hp x hx) (by rw [ey]; exact hp y hy) (hI.hi x hx)
    rw [ey] at h2 ⊢
    omega
theorem exOf_mem {R : Mo → Int × Int} {m : Mo} {ms : List Mo} (hp : ∀ x, x ∈ m :: ms → 0 < (R x).2) : (∃ x, x ∈ m :: ms ∧ (exOf R m ms).1 = R x) ∧ (∃ x, x ∈ m :: ms ∧ (exOf R m ms).2 = R x) := ⟨(exOf_inv hp).l, (exOf_inv hp).g⟩

/-- The eight moments of spans of pressures, temperatures and superheats. -/
def mos (p0 p1 t0 t1 w0 w1 : Int) : List Mo := [(p0, t0, w1), (p0, t1, w0), (p0, t1, w1), (p1, t0, w0), (p1, t0, w1), (p1, t1, w0), (p1, t1, w1)]
theorem mos_mem {p0 p1 t0 t1 w0 w1 : Int} {x : Mo} (h : x ∈ (p0, t0, w0) :: mos p0 p1 t0 t1 w0 w1) : (x.1 = p0 ∨ x.1 = p1) ∧ (x.2.1 = t0 ∨ x.2.1 = t1) ∧ (x.2.2 = w0 ∨ x.2.2 = w1) := by
  unfold mos at h
  simp only [List.mem_cons, List.not_mem_nil, or_false] at h
  rcases h with rfl | rfl | rfl | rfl | rfl | rfl | rfl | rfl <;> simp
theorem mos_has {p0 p1 t0 t1 w0 w1 p t w : Int} (hp : p = p0 ∨ p = p1) (ht : t = t0 ∨ t = t1) (hw : w = w0 ∨ w = w1) : (p, t, w) ∈ (p0, t0, w0) :: mos p0 p1 t0 t1 w0 w1 := by
  unfold mos
  rcases hp with rfl | rfl <;> rcases ht with rfl | rfl <;> rcases hw with rfl | rfl <;> simp
end Go.Proofs.Ytbkabgbkdggnhaa
