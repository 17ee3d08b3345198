/- Value: the specification's way (lines at both ends, and the knots between them) comes to the same as the program's. Plain mathematics. -/
import Derived.Test.YtflgdckeinappaaValue
namespace Go.Proofs.Ytflgdckeinappaa
open Go.RowKit

theorem eq_of_le_iff {x y : Int} (h : ∀ b, b ≤ x ↔ b ≤ y) : x = y := by
  have h1 := (h x).1 (Int.le_refl _)
  have h2 := (h y).2 (Int.le_refl _)
  omega
theorem eq_of_ge_iff {x y : Int} (h : ∀ b, x ≤ b ↔ y ≤ b) : x = y := by
  have h1 := (h x).1 (Int.le_refl _)
  have h2 := (h y).2 (Int.le_refl _)
  omega

/-- What is at the ends of the rounds is what is at both ends and at the knots between. -/
theorem sets_same {n : Nat} {At : Nat → Int} {F : Nat → Int → Int} {E : Nat → Int} (hm : ∀ i j, i < j → j < n → At i < At j) (hF0 : ∀ i, i + 1 < n → F i (At i) = E i) (hF1 : ∀ i, i + 1 < n → F i (At (i + 1)) = E (i + 1))
    (P : Int → Prop) {lo hi : Int} (hlh : lo ≤ hi) (hn : 2 ≤ n) {i1 i2 : Nat} (s1 : i1 + 1 < n ∧ At i1 ≤ lo ∧ lo ≤ At (i1 + 1)) (s2 : i2 + 1 < n ∧ At i2 ≤ hi ∧ hi ≤ At (i2 + 1)) :
    (∀ i, i < n - 1 → ¬ min hi (At (i + 1)) < max lo (At i) → P (F i (max lo (At i))) ∧ P (F i (min hi (At (i + 1))))) ↔
      (P (F i1 lo) ∧ P (F i2 hi) ∧ ∀ j, j < n → lo ≤ At j → At j ≤ hi → P (E j)) := by
  obtain ⟨a1, a2, a3⟩ := s1
  obtain ⟨b1, b2, b3⟩ := s2
  have hme : ∀ i j, i ≤ j → j < n → At i ≤ At j := fun i j hij hj => by
    rcases Nat.lt_or_eq_of_le hij with h | h
    · exact Int.le_of_lt (hm i j h hj)
    · rw [h]; exact Int.le_refl _
  constructor
  · intro H
    refine ⟨?_, ?_, ?_⟩
    · have := (H i1 (by omega) (by omega)).1
      rwa [show max lo (At i1) = lo by omega] at this
    · have := (H i2 (by omega) (by omega)).2
      rwa [show min hi (At (i2 + 1)) = hi by omega] at this
    · intro j hj hl hh
      by_cases hjn : j + 1 < n
      · have hlt := hm j (j + 1) (by omega) hjn
        have := (H j (by omega) (by omega)).1
        rwa [show max lo (At j) = At j by omega, hF0 j hjn] at this
      · obtain ⟨k, rfl⟩ : ∃ k, j = k + 1 := ⟨j - 1, by omega⟩
        have hlt := hm k (k + 1) (by omega) hj
        have := (H k (by omega) (by omega)).2
        rwa [show min hi (At (k + 1)) = At (k + 1) by omega, hF1 k hj] at this
  · rintro ⟨H1, H2, HK⟩ i hi' hov
    have hi1 : i + 1 < n := by omega
    have hlt := hm i (i + 1) (by omega) hi1
    constructor
    · by_cases hc : lo ≤ At i
      · rw [show max lo (At i) = At i by omega, hF0 i hi1]
        exact HK i (by omega) hc (by omega)
      · rw [show max lo (At i) = lo by omega]
        rcases Nat.lt_trichotomy i i1 with h | h | h
        · have h1 := hme (i + 1) i1 h (by omega)
          rw [show lo = At (i + 1) by omega, hF1 i hi1]
          exact HK (i + 1) hi1 (by omega) (by omega)
        · rw [h]; exact H1
        · have h1 := hme (i1 + 1) i h (by omega)
          omega
    · by_cases hc : At (i + 1) ≤ hi
      · rw [show min hi (At (i + 1)) = At (i + 1) by omega, hF1 i hi1]
        exact HK (i + 1) hi1 (by omega) hc
      · rw [show min hi (At (i + 1)) = hi by omega]
        rcases Nat.lt_trichotomy i i2 with h | h | h
        · have h1 := hme (i + 1) i2 h (by omega)
          omega
        · rw [h]; exact H2
        · have h1 := hme (i2 + 1) i h (by omega)
          rw [show hi = At i by omega, hF0 i hi1]
          exact HK i (by omega) (by omega) (by omega)

def loOf (ks : List (Int × Int × Int)) (j : Nat) : Int := (ks.getD j (0, 0, 0)).2.1
def hiOf (ks : List (Int × Int × Int)) (j : Nat) : Int := (ks.getD j (0, 0, 0)).2.2
def lnLo (ks : List (Int × Int × Int)) (i : Nat) (x : Int) : Int := dn (atOf ks i) (loOf ks i) (atOf ks (i + 1)) (loOf ks (i + 1)) x
def lnHi (ks : List (Int × Int × Int)) (i : Nat) (x : Int) : Int := upw (atOf ks i) (hiOf ks i) (atOf ks (i + 1)) (hiOf ks (i + 1)) x
/-- Segment i has x. -/
def RSeg (ks : List (Int × Int × Int)) (i : Nat) (x : Int) : Prop := i + 1 < ks.length ∧ atOf ks i ≤ x ∧ x ≤ atOf ks (i + 1)

theorem dn_at (a v b u : Int) : dn a v b u a = v := by unfold dn; rw [Int.sub_self, Int.mul_zero, Int.zero_ediv]; omega
theorem dn_end {a v b u : Int} (h : a < b) : dn a v b u b = u := by unfold dn; rw [Int.mul_ediv_cancel _ (by omega)]; omega
theorem knot_get {ks : List (Int × Int × Int)} {i : Nat} (h : i < ks.length) : ks[i]? = some (atOf ks i, loOf ks i, hiOf ks i) := by
  unfold atOf loOf hiOf
  rw [List.getD_eq_getElem?_getD, List.getElem?_eq_getElem h]
  rfl
theorem seg_of {ks : List (Int × Int × Int)} {i : Nat} (ht : tableB ks = true) (h : i + 1 < ks.length) :
    (-1073741824 ≤ atOf ks i ∧ atOf ks i ≤ 1073741824 ∧ -1073741824 ≤ loOf ks i ∧ loOf ks i ≤ hiOf ks i ∧ hiOf ks i ≤ 1073741824) ∧
    (-1073741824 ≤ atOf ks (i + 1) ∧ atOf ks (i + 1) ≤ 1073741824 ∧ -1073741824 ≤ loOf ks (i + 1) ∧ loOf ks (i + 1) ≤ hiOf ks (i + 1) ∧ hiOf ks (i + 1) ≤ 1073741824) ∧ atOf ks i < atOf ks (i + 1) :=
  seg_ok ht (knot_get (by omega)) (knot_get h)
theorem at_mono {ks : List (Int × Int × Int)} (ht : tableB ks = true) : ∀ i j, i < j → j < ks.length → atOf ks i < atOf ks j := by
  intro i j hij
  induction j with
  | zero => omega
  | succ j ih =>
    intro hj
    have h1 := (seg_of ht hj).2.2
    by_cases e : i = j
    · rw [e]; exact h1
    · have := ih (by omega) (by omega); omega
theorem lnLo_bd {ks : List (Int × Int × Int)} {i : Nat} {x : Int} (ht : tableB ks = true) (h : RSeg ks i x) : -1073741824 ≤ lnLo ks i x ∧ lnLo ks i x ≤ 1073741824 ∧ -1073741824 ≤ lnHi ks i x ∧ lnHi ks i x ≤ 1073741824 := by
  obtain ⟨h1, h2, h3⟩ := h
  obtain ⟨k1, k2, k3⟩ := seg_of ht h1
  have b1 := dn_bd (a := atOf ks i) (v := loOf ks i) (b := atOf ks (i + 1)) (u := loOf ks (i + 1)) (x := x) ⟨by omega, by omega, k3, h2, h3, by omega, by omega, by omega, by omega⟩
  have b2 := neg_dn_bd (a := atOf ks i) (v := hiOf ks i) (b := atOf ks (i + 1)) (u := hiOf ks (i + 1)) (x := x) ⟨by omega, by omega, k3, h2, h3, by omega, by omega, by omega, by omega⟩
  unfold lnLo lnHi
  omega

/-- The specification's way, up to knot n. -/
def rV (ks : List (Int × Int × Int)) (lo hi : Int) (i1 i2 : Nat) : Nat → Int × Int
  | 0 => (min (lnLo ks i1 lo) (lnLo ks i2 hi), max (lnHi ks i1 lo) (lnHi ks i2 hi))
  | j + 1 => if lo ≤ atOf ks j ∧ atOf ks j ≤ hi then (min (rV ks lo hi i1 i2 j).1 (loOf ks j), max (rV ks lo hi i1 i2 j).2 (hiOf ks j)) else rV ks lo hi i1 i2 j

theorem accV_lo (ks : List (Int × Int × Int)) (lo hi b : Int) : ∀ n, b ≤ (accV ks lo hi n).1 ↔ b ≤ 1073741824 ∧ ∀ i, i < n → ¬ min hi (atOf ks (i + 1)) < max lo (atOf ks i) → b ≤ lnLo ks i (max lo (atOf ks i)) ∧ b ≤ lnLo ks i (min hi (atOf ks (i + 1)))
  | 0 => by simp [accV]
  | n + 1 => by
    have ih := accV_lo ks lo hi b n
    have e : accV ks lo hi (n + 1) = if min hi (atOf ks (n + 1)) < max lo (atOf ks n) then accV ks lo hi n else
        (min (accV ks lo hi n).1 (min (lnLo ks n (max lo (atOf ks n))) (lnLo ks n (min hi (atOf ks (n + 1))))), max (accV ks lo hi n).2 (max (lnHi ks n (max lo (atOf ks n))) (lnHi ks n (min hi (atOf ks (n + 1)))))) := rfl
    rw [e]
    split
    · rename_i hc
      rw [ih]
      constructor
      · rintro ⟨h1, h2⟩
        exact ⟨h1, fun i hi' hov => by
          by_cases ei : i = n
          · subst ei; exact absurd hc hov
          · exact h2 i (by omega) hov⟩
      · rintro ⟨h1, h2⟩
        exact ⟨h1, fun i hi' hov => h2 i (by omega) hov⟩
    · rename_i hc
      constructor
      · intro h
        have h1 : b ≤ (accV ks lo hi n).1 := by simp only at h; omega
        obtain ⟨h2, h3⟩ := ih.1 h1
        refine ⟨h2, fun i hi' hov => ?_⟩
        by_cases ei : i = n
        · subst ei; simp only at h; omega
        · exact h3 i (by omega) hov
      · rintro ⟨h1, h2⟩
        have h3 := ih.2 ⟨h1, fun i hi' hov => h2 i (by omega) hov⟩
        have h4 := h2 n (by omega) hc
        simp only
        omega
theorem accV_hi (ks : List (Int × Int × Int)) (lo hi b : Int) : ∀ n, (accV ks lo hi n).2 ≤ b ↔ -1073741824 ≤ b ∧ ∀ i, i < n → ¬ min hi (atOf ks (i + 1)) < max lo (atOf ks i) → lnHi ks i (max lo (atOf ks i)) ≤ b ∧ lnHi ks i (min hi (atOf ks (i + 1))) ≤ b
  | 0 => by simp [accV]
  | n + 1 => by
    have ih := accV_hi ks lo hi b n
    have e : accV ks lo hi (n + 1) = if min hi (atOf ks (n + 1)) < max lo (atOf ks n) then accV ks lo hi n else
        (min (accV ks lo hi n).1 (min (lnLo ks n (max lo (atOf ks n))) (lnLo ks n (min hi (atOf ks (n + 1))))), max (accV ks lo hi n).2 (max (lnHi ks n (max lo (atOf ks n))) (lnHi ks n (min hi (atOf ks (n + 1)))))) := rfl
    rw [e]
    split
    · rename_i hc
      rw [ih]
      constructor
      · rintro ⟨h1, h2⟩
        exact ⟨h1, fun i hi' hov => by
          by_cases ei : i = n
          · subst ei; exact absurd hc hov
          · exact h2 i (by omega) hov⟩
      · rintro ⟨h1, h2⟩
        exact ⟨h1, fun i hi' hov => h2 i (by omega) hov⟩
    · rename_i hc
      constructor
      · intro h
        have h1 : (accV ks lo hi n).2 ≤ b := by simp only at h; omega
        obtain ⟨h2, h3⟩ := ih.1 h1
        refine ⟨h2, fun i hi' hov => ?_⟩
        by_cases ei : i = n
        · subst ei; simp only at h; omega
        · exact h3 i (by omega) hov
      · rintro ⟨h1, h2⟩
        have h3 := ih.2 ⟨h1, fun i hi' hov => h2 i (by omega) hov⟩
        have h4 := h2 n (by omega) hc
        simp only
        omega
theorem rV_lo (ks : List (Int × Int × Int)) (lo hi b : Int) (i1 i2 : Nat) : ∀ n, b ≤ (rV ks lo hi i1 i2 n).1 ↔ b ≤ lnLo ks i1 lo ∧ b ≤ lnLo ks i2 hi ∧ ∀ j, j < n → lo ≤ atOf ks j → atOf ks j ≤ hi → b ≤ loOf ks j
  | 0 => by simp [rV]; omega
  | n + 1 => by
    have ih := rV_lo ks lo hi b i1 i2 n
    have e : rV ks lo hi i1 i2 (n + 1) = if lo ≤ atOf ks n ∧ atOf ks n ≤ hi then (min (rV ks lo hi i1 i2 n).1 (loOf ks n), max (rV ks lo hi i1 i2 n).2 (hiOf ks n)) else rV ks lo hi i1 i2 n := rfl
    rw [e]
    split
    · rename_i hc
      constructor
      · intro h
        have h1 : b ≤ (rV ks lo hi i1 i2 n).1 := by simp only at h; omega
        obtain ⟨h2, h3, h4⟩ := ih.1 h1
        refine ⟨h2, h3, fun j hj x y => ?_⟩
        by_cases ej : j = n
        · subst ej; simp only at h; omega
        · exact h4 j (by omega) x y
      · rintro ⟨h1, h2, h3⟩
        have h4 := ih.2 ⟨h1, h2, fun j hj x y => h3 j (by omega) x y⟩
        have h5 := h3 n (by omega) hc.1 hc.2
        simp only
        omega
    · rename_i hc
      rw [ih]
      constructor
      · rintro ⟨h1, h2, h3⟩
        exact ⟨h1, h2, fun j hj x y => by
          by_cases ej : j = n
          · subst ej; exact absurd ⟨x, y⟩ hc
          · exact h3 j (by omega) x y⟩
      · rintro ⟨h1, h2, h3⟩
        exact ⟨h1, h2, fun j hj x y => h3 j (by omega) x y⟩
theorem rV_hi (ks : List (Int × Int × Int)) (lo hi b : Int) (i1 i2 : Nat) : ∀ n, (rV ks lo hi i1 i2 n).2 ≤ b ↔ lnHi ks i1 lo ≤ b ∧ lnHi ks i2 hi ≤ b ∧ ∀ j, j < n → lo ≤ atOf ks j → atOf ks j ≤ hi → hiOf ks j ≤ b
  | 0 => by simp [rV]; omega
  | n + 1 => by
    have ih := rV_hi ks lo hi b i1 i2 n
    have e : rV ks lo hi i1 i2 (n + 1) = if lo ≤ atOf ks n ∧ atOf ks n ≤ hi then (min (rV ks lo hi i1 i2 n).1 (loOf ks n), max (rV ks lo hi i1 i2 n).2 (hiOf ks n)) else rV ks lo hi i1 i2 n := rfl
    rw [e]
    split
    · rename_i hc
      constructor
      · intro h
        have h1 : (rV ks lo hi i1 i2 n).2 ≤ b := by simp only at h; omega
        obtain ⟨h2, h3, h4⟩ := ih.1 h1
        refine ⟨h2, h3, fun j hj x y => ?_⟩
        by_cases ej : j = n
        · subst ej; simp only at h; omega
        · exact h4 j (by omega) x y
      · rintro ⟨h1, h2, h3⟩
        have h4 := ih.2 ⟨h1, h2, fun j hj x y => h3 j (by omega) x y⟩
        have h5 := h3 n (by omega) hc.1 hc.2
        simp only
        omega
    · rename_i hc
      rw [ih]
      constructor
      · rintro ⟨h1, h2, h3⟩
        exact ⟨h1, h2, fun j hj x y => by
          by_cases ej : j = n
          · subst ej; exact absurd ⟨x, y⟩ hc
          · exact h3 j (by omega) x y⟩
      · rintro ⟨h1, h2, h3⟩
        exact ⟨h1, h2, fun j hj x y => h3 j (by omega) x y⟩

theorem value_same {ks : List (Int × Int × Int)} {lo hi : Int} {i1 i2 : Nat} (ht : tableB ks = true) (hlh : lo ≤ hi) (s1 : RSeg ks i1 lo) (s2 : RSeg ks i2 hi) :
    rV ks lo hi i1 i2 ks.length = accV ks lo hi (ks.length - 1) := by
  have hn : 2 ≤ ks.length := by have := s1.1; omega
  have b1 := lnLo_bd ht s1
  apply Prod.ext
  · apply eq_of_le_iff
    intro b
    rw [rV_lo, accV_lo]
    have hs := sets_same (n := ks.length) (At := atOf ks) (F := lnLo ks) (E := loOf ks) (at_mono ht) (fun i h => dn_at _ _ _ _) (fun i h => dn_end (seg_of ht h).2.2) (fun x => b ≤ x) hlh hn s1 s2
    constructor
    · intro h
      exact ⟨by have := h.1; omega, hs.2 h⟩
    · intro h
      exact hs.1 h.2
  · apply eq_of_ge_iff
    intro b
    rw [rV_hi, accV_hi]
    have hs := sets_same (n := ks.length) (At := atOf ks) (F := lnHi ks) (E := hiOf ks) (at_mono ht) (fun i h => by unfold lnHi upw; rw [dn_at]; omega) (fun i h => by unfold lnHi upw; rw [dn_end (seg_of ht h).2.2]; omega) (fun x => x ≤ b) hlh hn s1 s2
    constructor
    · intro h
      exact ⟨by have := h.1; omega, hs.2 h⟩
    · intro h
      exact hs.1 h.2
end Go.Proofs.Ytflgdckeinappaa
