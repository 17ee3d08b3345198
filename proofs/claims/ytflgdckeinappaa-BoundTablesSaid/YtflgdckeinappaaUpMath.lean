/- The specification's upTo, twice, finds what the program's two conditions find. -/
import Derived.Test.YtflgdckeinappaaRJoin
namespace Go.Proofs.Ytflgdckeinappaa

theorem nearI_neg (y : Int) : nearI (-y) = -nearI y := by unfold nearI; omega
/-- One condition. -/
theorem amS_up (a v b u y : Int) :
    ((amS a v b u y).2 < (amS a v b u y).1 ∧ (upS 0 (b - a) (u - v) ((nearI y - v) * (b - a))).2 < (upS 0 (b - a) (u - v) ((nearI y - v) * (b - a))).1 ∧ (amS a v b u y).2 < a ∧ (upS 0 (b - a) (u - v) ((nearI y - v) * (b - a))).1 = b - a + 1 ∧ (upS 0 (b - a) (u - v) ((nearI y - v) * (b - a))).2 = b - a) ∨
    ((amS a v b u y).1 = a + (upS 0 (b - a) (u - v) ((nearI y - v) * (b - a))).1 ∧ (amS a v b u y).2 = a + (upS 0 (b - a) (u - v) ((nearI y - v) * (b - a))).2) := by
  unfold amS upS
  generalize (nearI y - v) * (b - a) = p
  rw [show -(u - v) = v - u by omega]
  generalize p / (u - v) = q
  generalize p / (v - u) = r
  by_cases h1 : 0 < u - v
  · rw [if_pos h1, if_pos h1]; simp only; omega
  · by_cases h2 : u - v < 0
    · rw [if_neg h1, if_neg h1, if_pos h2, if_pos h2]; simp only; omega
    · by_cases h3 : p < 0
      · rw [if_neg h1, if_neg h1, if_neg h2, if_neg h2, if_pos h3, if_pos h3]; exact Or.inl ⟨by show a - 1 < a; omega, by show b - a < b - a + 1; omega, by show a - 1 < a; omega, rfl, rfl⟩
      · rw [if_neg h1, if_neg h1, if_neg h2, if_neg h2, if_neg h3, if_neg h3]; simp only; omega
/-- A second one, over what the first left. -/
theorem upS_two {w L H s m : Int} (hL : 0 ≤ L) (hH : H ≤ w) :
    ((upS L H s m).1 = max L (upS 0 w s m).1 ∧ (upS L H s m).2 = min H (upS 0 w s m).2) ∨ ((upS L H s m).1 = H + 1 ∧ (upS L H s m).2 = H ∧ (upS 0 w s m).1 = w + 1 ∧ (upS 0 w s m).2 = w) := by
  unfold upS
  generalize m / s = q
  generalize m / -s = r
  by_cases h1 : 0 < s
  · rw [if_pos h1, if_pos h1]; simp only; omega
  · by_cases h2 : s < 0
    · rw [if_neg h1, if_neg h1, if_pos h2, if_pos h2]; simp only; omega
    · by_cases h3 : m < 0
      · rw [if_neg h1, if_neg h1, if_neg h2, if_neg h2, if_pos h3, if_pos h3]; exact Or.inr ⟨rfl, rfl, rfl, rfl⟩
      · rw [if_neg h1, if_neg h1, if_neg h2, if_neg h2, if_neg h3, if_neg h3]; simp only; omega
theorem upS_in {w s m : Int} (hw : 0 ≤ w) : 0 ≤ (upS 0 w s m).1 ∧ (upS 0 w s m).2 ≤ w := by
  unfold upS
  generalize m / s = q
  generalize m / -s = r
  split
  · simp only; omega
  · split
    · simp only; omega
    · split <;> (simp only; omega)
/-- join is collect, where no span ends behind the new one. -/
theorem joinS_col {l : List (Int × Int)} {f t : Int} (h : f ≤ t → 0 < l.length → (l.getD (l.length - 1) (0, 0)).2 ≤ t) : joinS l f t = colS l f t := by
  unfold joinS colS
  by_cases h1 : t < f
  · rw [if_pos h1, if_pos h1]
  · rw [if_neg h1, if_neg h1]
    by_cases h2 : 0 < l.length ∧ f ≤ (l.getD (l.length - 1) (0, 0)).2 + 1
    · rw [if_pos h2, if_pos h2, show max (l.getD (l.length - 1) (0, 0)).2 t = t from by have := h (by omega) h2.1; omega]
    · rw [if_neg h2, if_neg h2]
theorem colS_void {l : List (Int × Int)} {f t f' t' : Int} (h : t < f) (h' : t' < f') : colS l f t = colS l f' t' := by
  unfold colS; rw [if_pos h, if_pos h']
theorem alS_up (a v b u y : Int) :
    ((alS a v b u y).2 < (alS a v b u y).1 ∧ (upS 0 (b - a) (v - u) ((v - nearI y) * (b - a))).2 < (upS 0 (b - a) (v - u) ((v - nearI y) * (b - a))).1 ∧ (alS a v b u y).2 < a ∧ (upS 0 (b - a) (v - u) ((v - nearI y) * (b - a))).1 = b - a + 1 ∧ (upS 0 (b - a) (v - u) ((v - nearI y) * (b - a))).2 = b - a) ∨
    ((alS a v b u y).1 = a + (upS 0 (b - a) (v - u) ((v - nearI y) * (b - a))).1 ∧ (alS a v b u y).2 = a + (upS 0 (b - a) (v - u) ((v - nearI y) * (b - a))).2) := by
  have h := amS_up a (-v) b (-u) (-y)
  rw [nearI_neg, show -u - -v = v - u by omega, show -nearI y - -v = v - nearI y by omega] at h
  exact h
/-- The program's two conditions, and the specification's. -/
theorem seg_same {l : List (Int × Int)} (a b v1 u1 v2 u2 y1 y2 : Int) (hab : a < b) (hl : 0 < l.length → (l.getD (l.length - 1) (0, 0)).2 ≤ a) (s1 s : Int × Int)
    (e1 : s1 = upS 0 (b - a) (u1 - v1) ((nearI y1 - v1) * (b - a))) (e2 : s = upS s1.1 s1.2 (v2 - u2) ((v2 - nearI y2) * (b - a))) :
    joinS l (a + s.1) (a + s.2) = colS l (max (amS a v1 b u1 y1).1 (alS a v2 b u2 y2).1) (min (amS a v1 b u1 y1).2 (alS a v2 b u2 y2).2) := by
  have h1 := amS_up a v1 b u1 y1
  have h2 := alS_up a v2 b u2 y2
  have i1 := upS_in (s := u1 - v1) (m := (nearI y1 - v1) * (b - a)) (show 0 ≤ b - a by omega)
  have j2 := upS_in (s := v2 - u2) (m := (v2 - nearI y2) * (b - a)) (show 0 ≤ b - a by omega)
  have k1 := amS_in (v := v1) (u := u1) y1 hab
  have k2 := alS_in (v := v2) (u := u2) y2 hab
  rw [← e1] at h1 i1
  have h3 := upS_two (s := v2 - u2) (m := (v2 - nearI y2) * (b - a)) i1.1 i1.2
  rw [← e2] at h3
  generalize upS 0 (b - a) (v2 - u2) ((v2 - nearI y2) * (b - a)) = s2 at *
  generalize amS a v1 b u1 y1 = A at *
  generalize alS a v2 b u2 y2 = C at *
  clear e1 e2
  by_cases hv : a + s.2 < a + s.1
  · rw [joinS_col (by intro h; omega)]
    exact colS_void hv (by omega)
  · have e1 : a + s.1 = max A.1 C.1 := by omega
    have e2 : a + s.2 = min A.2 C.2 := by omega
    rw [← e1, ← e2]
    exact joinS_col (fun h h0 => by have := hl h0; omega)
end Go.Proofs.Ytflgdckeinappaa
