/- The reference of layer 4: Balance. -/
import Derived.Test.YtmadkefpjoheeaaTRVal
namespace Go.Proofs.Ytmadkefpjoheeaa
open Go.RowKit

/-- The least and the greatest product of a load's ends. -/
def prodE (p : Pu) : Int := p.p * p.w
def loE (l : Ld) : Int := min (min (min (prodE ⟨l.a0, l.w0⟩) (prodE ⟨l.a1, l.w0⟩)) (prodE ⟨l.a0, l.w1⟩)) (prodE ⟨l.a1, l.w1⟩)
def hiE (l : Ld) : Int := max (max (max (prodE ⟨l.a0, l.w0⟩) (prodE ⟨l.a1, l.w0⟩)) (prodE ⟨l.a0, l.w1⟩)) (prodE ⟨l.a1, l.w1⟩)
theorem val01 (p : Pu) : valE 0 1 p = prodE p := by unfold valE prodE; rw [Int.zero_add, Int.one_mul, Int.mul_comm]
theorem val0n (p : Pu) : valE (-0) (-1) p = -prodE p := by
  unfold valE prodE
  rw [Int.neg_zero, Int.zero_add, Int.neg_mul, Int.one_mul, Int.mul_neg, Int.mul_comm]
theorem val10 (p : Pu) : valE 1 0 p = p.w := by unfold valE; rw [Int.zero_mul, Int.add_zero, Int.mul_one]
theorem valn0 (p : Pu) : valE (-1) (-0) p = -p.w := by unfold valE; rw [Int.neg_zero, Int.zero_mul, Int.add_zero, Int.mul_neg, Int.mul_one]
theorem better_val (a b : Int) (m q : Pu) : valE a b (betterP a b m q) = max (valE a b m) (valE a b q) := by
  unfold betterP; split <;> omega
theorem most_max (a b : Int) (l : Ld) : mostE a b l = max (max (max (valE a b ⟨l.a0, l.w0⟩) (valE a b ⟨l.a1, l.w0⟩)) (valE a b ⟨l.a0, l.w1⟩)) (valE a b ⟨l.a1, l.w1⟩) := by
  unfold mostE worstP
  rw [better_val, better_val, better_val]
theorem most_hi (l : Ld) : mostE 0 1 l = hiE l := by rw [most_max, val01, val01, val01, val01]; rfl
theorem most_lo (l : Ld) : mostE (-0) (-1) l = -loE l := by rw [most_max, val0n, val0n, val0n, val0n]; unfold loE; omega
theorem most_w1 (l : Ld) (h : l.w0 ≤ l.w1) : mostE 1 0 l = l.w1 := by rw [most_max, val10, val10, val10, val10]; simp only; omega
theorem most_w0 (l : Ld) (h : l.w0 ≤ l.w1) : mostE (-1) (-0) l = -l.w0 := by rw [most_max, valn0, valn0, valn0, valn0]; simp only; omega
theorem sumE_neg {α : Type} (f g : α → Int) : ∀ (l : List α), (∀ x, x ∈ l → f x = -g x) → sumE f l = -sumE g l
  | [], _ => rfl
  | x :: l, h => by
    have h1 := sumE_neg f g l (fun y hy => h y (List.mem_cons_of_mem _ hy))
    have h2 := h x (List.mem_cons_self ..)
    unfold sumE at h1 ⊢
    rw [List.map_cons, List.sum_cons, List.map_cons, List.sum_cons, h1, h2]
    omega
theorem sumE_congr {α : Type} (f g : α → Int) : ∀ (l : List α), (∀ x, x ∈ l → f x = g x) → sumE f l = sumE g l
  | [], _ => rfl
  | x :: l, h => by
    have h1 := sumE_congr f g l (fun y hy => h y (List.mem_cons_of_mem _ hy))
    have h2 := h x (List.mem_cons_self ..)
    unfold sumE at h1 ⊢
    rw [List.map_cons, List.sum_cons, List.map_cons, List.sum_cons, h1, h2]
theorem ok_order {l : Ld} (h : l.ok = true) : l.w0 ≤ l.w1 := by
  unfold Ld.ok at h
  rw [Bool.and_eq_true, spB_iff, spB_iff] at h
  omega
theorem heavy_is {ls : List Ld} (h : loadsN ls = 0) : heavyS ls = (sumE Ld.w0 ls, sumE Ld.w1 ls) := by
  have hok := (loadsN_ok h).2
  have ho : ∀ l, l ∈ ls → l.w0 ≤ l.w1 := fun l hl => ok_order (List.all_eq_true.1 hok l hl)
  unfold heavyS
  rw [if_pos h]
  refine Prod.ext ?_ ?_
  · show -sumE (mostE (-1) (-0)) ls = _
    rw [sumE_neg _ Ld.w0 ls (fun l hl => most_w0 l (ho l hl))]
    omega
  · exact sumE_congr _ _ ls (fun l hl => most_w1 l (ho l hl))
theorem moment_is {ls : List Ld} (h : loadsN ls = 0) : momentS ls = (sumE loE ls, sumE hiE ls) := by
  unfold momentS
  rw [if_pos h]
  refine Prod.ext ?_ ?_
  · show -sumE (mostE (-0) (-1)) ls = _
    rw [sumE_neg _ loE ls (fun l _ => most_lo l)]
    omega
  · exact sumE_congr _ _ ls (fun l _ => most_hi l)
end Go.Proofs.Ytmadkefpjoheeaa
