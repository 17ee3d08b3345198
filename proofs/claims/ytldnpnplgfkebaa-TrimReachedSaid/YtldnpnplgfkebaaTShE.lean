/- The reference of layer 4: Balance. -/
import Derived.Test.YtldnpnplgfkebaaTEnds
import Derived.Test.YtldnpnplgfkebaaTAst
namespace Go.Proofs.Ytldnpnplgfkebaa
open Go.RowKit

/-- The least and the greatest product of a load's ends. -/
def prodE (p : Pu) : Int := p.p * p.w
def loE (l : Ld) : Int := min (min (min (prodE ⟨l.a0, l.w0⟩) (prodE ⟨l.a1, l.w0⟩)) (prodE ⟨l.a0, l.w1⟩)) (prodE ⟨l.a1, l.w1⟩)
def hiE (l : Ld) : Int := max (max (max (prodE ⟨l.a0, l.w0⟩) (prodE ⟨l.a1, l.w0⟩)) (prodE ⟨l.a0, l.w1⟩)) (prodE ⟨l.a1, l.w1⟩)
theorem val01 (p : Pu) : valE 0 1 p = prodE p := by unfold valE prodE; rw [Int.zero_add, Int.one_mul, Int.mul_comm]
theorem val0n (p : Pu) : valE (-0) (-1) p = -prodE p := by
  unfold valE prodE
  rw [Int.neg_zero, Int.zero_add, Int.neg_mul, Int.one_mul, Int.mul_neg, Int.mul_comm]
theorem val10 (p : Pu) : valE 1 0 p = p.w := by unfold valE; rw [Int.zero_mul, Int.add_zero, Int.mul_one]
theorem valn0 (p : Pu) : valE (-1) (-0) p = -p.w := by unfold valE; rw [Int.neg_zero, Int.zero_mul, Int.add_zero, Int.mul_neg, Int.mul_one]
theorem better_val (a b : Int) (m q : Pu) : valE a b (betterP a b m q) = max (valE a b m) (valE a b q) := by
  unfold betterP; split <;> omega
theorem most_max (a b : Int) (l : Ld) : mostE a b l = max (max (max (valE a b ⟨l.a0, l.w0⟩) (valE a b ⟨l.a1, l.w0⟩)) (valE a b ⟨l.a0, l.w1⟩)) (valE a b ⟨l.a1, l.w1⟩) := by
  unfold mostE worstP
  rw [better_val, better_val, better_val]
theorem most_hi (l : Ld) : mostE 0 1 l = hiE l := by rw [most_max, val01, val01, val01, val01]; rfl
theorem most_lo (l : Ld) : mostE (-0) (-1) l = -loE l := by rw [most_max, val0n, val0n, val0n, val0n]; unfold loE; omega
theorem most_w1 (l : Ld) (h : l.w0 ≤ l.w1) : mostE 1 0 l = l.w1 := by rw [most_max, val10, val10, val10, val10]; simp only; omega
theorem most_w0 (l : Ld) (h : l.w0 ≤ l.w1) : mostE (-1) (-0) l = -l.w0 := by rw [most_max, valn0, valn0, valn0, valn0]; simp only; omega
theorem sumE_neg {α : Type} (f g : α → Int) : ∀ (l : List α), (∀ x, x ∈ l → f x = -g x) → sumE f l = -sumE g l
  | [], _ => rfl
  | x :: l, h => by
    have h1 := sumE_neg f g l (fun y hy => h y (List.mem_cons_of_mem _ hy))
    have h2 := h x (List.mem_cons_self ..)
    unfold sumE at h1 ⊢
    rw [List.map_cons, List.sum_cons, List.map_cons, List.sum_cons, h1, h2]
    omega
theorem sumE_congr {α : Type} (f g : α → Int) : ∀ (l : List α), (∀ x, x ∈ l → f x = g x) → sumE f l = sumE g l
  | [], _ => rfl
  | x :: l, h => by
    have h1 := sumE_congr f g l (fun y hy => h y (List.mem_cons_of_mem _ hy))
    have h2 := h x (List.mem_cons_self ..)
    unfold sumE at h1 ⊢
    rw [List.map_cons, List.sum_cons, List.map_cons, List.sum_cons, h1, h2]
theorem ok_order {l : Ld} (h : l.ok = true) : l.w0 ≤ l.w1 := by
  unfold Ld.ok at h
  rw [Bool.and_eq_true, spB_iff, spB_iff] at h
  omega
theorem heavy_is {ls : List Ld} (h : loadsN ls = 0) : heavyS ls = (sumE Ld.w0 ls, sumE Ld.w1 ls) := by
  have hok := (loadsN_ok h).2
  have ho : ∀ l, l ∈ ls → l.w0 ≤ l.w1 := fun l hl => ok_order (List.all_eq_true.1 hok l hl)
  unfold heavyS
  rw [if_pos h]
  refine Prod.ext ?_ ?_
  · show -sumE (mostE (-1) (-0)) ls = _
    rw [sumE_neg _ Ld.w0 ls (fun l hl => most_w0 l (ho l hl))]
    omega
  · exact sumE_congr _ _ ls (fun l hl => most_w1 l (ho l hl))
theorem moment_is {ls : List Ld} (h : loadsN ls = 0) : momentS ls = (sumE loE ls, sumE hiE ls) := by
  unfold momentS
  rw [if_pos h]
  refine Prod.ext ?_ ?_
  · show -sumE (mostE (-0) (-1)) ls = _
    rw [sumE_neg _ loE ls (fun l _ => most_lo l)]
    omega
  · exact sumE_congr _ _ ls (fun l _ => most_hi l)
end Go.Proofs.Ytldnpnplgfkebaa
/- Shear and bending: what the reference sums up, and what loads astern come to. Numbers only. -/
namespace Go.Proofs.Ytldnpnplgfkebaa

/-- The least and the greatest product of a number of one span and one of another. -/
def exLo (a b c d : Int) : Int := min (min (min (a * c) (a * d)) (b * c)) (b * d)
def exHi (a b c d : Int) : Int := max (max (max (a * c) (a * d)) (b * c)) (b * d)
def partLo (at' : Int) (l : Ld) : Int := if l.a1 < at' then 1 else 0
def partHi (at' : Int) (l : Ld) : Int := if at' ≤ l.a0 then 0 else 1
def shLo (at' : Int) (l : Ld) : Int := exLo (partLo at' l) (partHi at' l) l.w0 l.w1
def shHi (at' : Int) (l : Ld) : Int := exHi (partLo at' l) (partHi at' l) l.w0 l.w1
def bdLo (at' : Int) (l : Ld) : Int := exLo (arm at' l.a1) (arm at' l.a0) l.w0 l.w1
def bdHi (at' : Int) (l : Ld) : Int := exHi (arm at' l.a1) (arm at' l.a0) l.w0 l.w1
theorem ld_order {l : Ld} (h : l.ok = true) : l.a0 ≤ l.a1 ∧ l.w0 ≤ l.w1 := by
  unfold Ld.ok at h
  rw [Bool.and_eq_true, spB_iff, spB_iff] at h
  omega
theorem astern_bound (at' : Int) {l : Ld} (h : l.ok = true) (h0 : -20000 ≤ at') (h1 : at' ≤ 20000) : LdB (asternL at' l) ∧ (asternL at' l).w0 ≤ (asternL at' l).w1 := by
  have ho := ld_order h
  have h2 : (-20000 ≤ l.a0 ∧ l.a1 ≤ 20000) ∧ -1073741824 ≤ l.w0 ∧ l.w1 ≤ 1073741824 := by
    unfold Ld.ok at h
    rw [Bool.and_eq_true, spB_iff, spB_iff] at h
    omega
  unfold asternL arm
  split
  · exact ⟨⟨by simp only; omega, by simp only; omega, by simp only; omega, by simp only; omega⟩, by simp only; omega⟩
  · split
    · exact ⟨⟨by simp only; omega, by simp only; omega, by simp only; omega, by simp only; omega⟩, by simp only; omega⟩
    · exact ⟨⟨by simp only; omega, by simp only; omega, by simp only; omega, by simp only; omega⟩, by simp only; omega⟩
theorem shear_hi (at' : Int) {l : Ld} (h : l.ok = true) (h0 : -20000 ≤ at') (h1 : at' ≤ 20000) : mostE 1 0 (asternL at' l) = shHi at' l ∧ mostE (-1) (-0) (asternL at' l) = -shLo at' l := by
  have ho := ld_order h
  rw [most_w1 _ (astern_bound at' h h0 h1).2, most_w0 _ (astern_bound at' h h0 h1).2]
  unfold asternL arm shHi shLo partLo partHi exHi exLo
  split <;> rename_i h2
  · rw [if_neg (by omega), if_pos (by omega)]
    simp
  · split <;> rename_i h3
    · rw [if_neg (by omega), if_neg (by omega)]
      simp only [Int.zero_mul, Int.one_mul]
      omega
    · rw [if_pos (by omega), if_neg (by omega)]
      simp only [Int.one_mul]
      omega
theorem pos_mono {x a b : Int} (hx : 0 ≤ x) (h : a ≤ b) : x * a ≤ x * b := Int.mul_le_mul_of_nonneg_left h hx
theorem mul_min0 {x a : Int} (hx : 0 ≤ x) : x * min a 0 = min (x * a) 0 := by
  rcases Int.le_total a 0 with h | h
  · have := pos_mono hx h
    rw [Int.min_eq_left h, Int.min_eq_left (by simpa using this)]
  · have := pos_mono hx h
    rw [Int.min_eq_right h, Int.mul_zero, Int.min_eq_right (by simpa using this)]
theorem mul_max0 {x a : Int} (hx : 0 ≤ x) : x * max a 0 = max (x * a) 0 := by
  rcases Int.le_total a 0 with h | h
  · have := pos_mono hx h
    rw [Int.max_eq_right h, Int.mul_zero, Int.max_eq_right (by simpa using this)]
  · have := pos_mono hx h
    rw [Int.max_eq_left h, Int.max_eq_left (by simpa using this)]
theorem bend_hi (at' : Int) {l : Ld} (h : l.ok = true) : mostE 0 1 (asternL at' l) = bdHi at' l ∧ mostE (-0) (-1) (asternL at' l) = -bdLo at' l := by
  have ho := ld_order h
  rw [most_hi, most_lo]
  unfold hiE loE prodE bdHi bdLo exHi exLo asternL
  have a0 : 0 ≤ arm at' l.a0 := by unfold arm; omega
  have a1 : 0 ≤ arm at' l.a1 := by unfold arm; omega
  have h01 : arm at' l.a1 ≤ arm at' l.a0 := by unfold arm; omega
  generalize arm at' l.a1 = A at *
  generalize arm at' l.a0 = B at *
  split <;> rename_i h2
  · have hA0 : A = 0 := by omega
    subst h2
    subst hA0
    simp
  · split <;> rename_i h3
    · subst h3
      have m := pos_mono a0 ho.2
      simp only [Int.zero_mul, mul_min0 a0, mul_max0 a0]
      omega
    · have m0 := pos_mono a0 ho.2
      have m1 := pos_mono a1 ho.2
      simp only
      omega
theorem sum_map {α β : Type} (f : β → Int) (g : α → β) (l : List α) : sumE f (l.map g) = sumE (fun x => f (g x)) l := by
  unfold sumE
  rw [List.map_map]
  rfl
/-- Shear and bending of valid loads. -/
def shearS (at' : Int) (ls : List Ld) : Int × Int := (sumE (shLo at') ls, sumE (shHi at') ls)
def bendS (at' : Int) (ls : List Ld) : Int × Int := (sumE (bdLo at') ls, sumE (bdHi at') ls)
theorem shear_is {at' : Int} {ls : List Ld} (h : ∀ l, l ∈ ls → l.ok = true) (h0 : -20000 ≤ at') (h1 : at' ≤ 20000) :
    -mostL (-1) (-0) (ls.map (asternL at')) = (shearS at' ls).1 ∧ mostL 1 0 (ls.map (asternL at')) = (shearS at' ls).2 := by
  constructor
  · show -sumE (mostE (-1) (-0)) (ls.map (asternL at')) = sumE (shLo at') ls
    rw [sum_map, sumE_neg _ (shLo at') ls (fun l hl => (shear_hi at' (h l hl) h0 h1).2)]
    omega
  · show sumE (mostE 1 0) (ls.map (asternL at')) = sumE (shHi at') ls
    rw [sum_map]
    exact sumE_congr _ _ ls (fun l hl => (shear_hi at' (h l hl) h0 h1).1)
theorem bend_is {at' : Int} {ls : List Ld} (h : ∀ l, l ∈ ls → l.ok = true) :
    -mostL (-0) (-1) (ls.map (asternL at')) = (bendS at' ls).1 ∧ mostL 0 1 (ls.map (asternL at')) = (bendS at' ls).2 := by
  constructor
  · show -sumE (mostE (-0) (-1)) (ls.map (asternL at')) = sumE (bdLo at') ls
    rw [sum_map, sumE_neg _ (bdLo at') ls (fun l hl => (bend_hi at' (h l hl)).2)]
    omega
  · show sumE (mostE 0 1) (ls.map (asternL at')) = sumE (bdHi at') ls
    rw [sum_map]
    exact sumE_congr _ _ ls (fun l hl => (bend_hi at' (h l hl)).1)
end Go.Proofs.Ytldnpnplgfkebaa
