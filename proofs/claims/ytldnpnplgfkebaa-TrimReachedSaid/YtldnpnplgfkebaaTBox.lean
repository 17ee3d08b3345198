/- Boxes of two numbers; what regions that draw their order use. -/
import Derived.Test.YtldnpnplgfkebaaTSl
namespace Go.Proofs.Ytldnpnplgfkebaa
open Go.RowKit

/-- A box of two numbers that may be written. -/
structure Box2 (w : World) (B : Nat) (x y : Int) : Prop where
  c0 : w.cell? ⟨B, 0, none⟩ = some (.int .i64 x)
  c1 : w.cell? ⟨B, 1, none⟩ = some (.int .i64 y)
  f0 : w.frozen? ⟨B, 0, none⟩ = false
  f1 : w.frozen? ⟨B, 1, none⟩ = false
theorem Box2.lt {w : World} {B : Nat} {x y : Int} (k : Box2 w B x y) : B < w.heap.size := World.block_lt_of_cell? _ _ k.c0
theorem Box2.later {w w1 : World} {B : Nat} {x y : Int} (k : Box2 w B x y) (hb : Below w.heap.size w w1) : Box2 w1 B x y :=
  have hz := World.block_lt_of_cell? _ _ k.c0
  ⟨cell_later hb k.c0, cell_later hb k.c1, by rw [(bcell hb).2 _ _ hz]; exact k.f0, by rw [(bcell hb).2 _ _ hz]; exact k.f1⟩
/-- Two cells. -/
structure Two2 (w : World) (B : Nat) (x y : Int) : Prop where
  c0 : w.cell? ⟨B, 0, none⟩ = some (.int .i64 x)
  c1 : w.cell? ⟨B, 1, none⟩ = some (.int .i64 y)
theorem Two2.lt {w : World} {B : Nat} {x y : Int} (k : Two2 w B x y) : B < w.heap.size := World.block_lt_of_cell? _ _ k.c0
theorem Two2.later {w w1 : World} {B : Nat} {x y : Int} (k : Two2 w B x y) (hb : Below w.heap.size w w1) : Two2 w1 B x y := ⟨cell_later hb k.c0, cell_later hb k.c1⟩
theorem chain {W w1 w2 : World} (h1 : Below W.heap.size W w1) (h2 : Below w1.heap.size w1 w2) : Below W.heap.size W w2 := h1.trans (h2.mono h1.size)
theorem chainD {W w1 w2 : World} (h1 : Below W.heap.size W w1) (h2 : Below w1.drew.heap.size w1.drew w2) : Below W.heap.size W w2 := chain h1 (Below.trans (below_drewN (Below.refl _ _) 1) h2)
theorem cell_far (W : World) (v : Value) {b b' o o' : Nat} (h : b ≠ b') : (W.setCell ⟨b', o', none⟩ v).cell? ⟨b, o, none⟩ = W.cell? ⟨b, o, none⟩ := World.cell?_setCell_far _ _ _ _ (Ne.symm h)
theorem mul_lim0 {x y m n : Int} (h0 : 0 ≤ x) (h1 : x ≤ m) (h2 : -n ≤ y) (h3 : y ≤ n) : -(m * n) ≤ x * y ∧ x * y ≤ m * n := by
  have hn : 0 ≤ n := by omega
  have a : x * y ≤ x * n := Int.mul_le_mul_of_nonneg_left h3 h0
  have b : x * n ≤ m * n := Int.mul_le_mul_of_nonneg_right h1 hn
  have c : x * (-n) ≤ x * y := Int.mul_le_mul_of_nonneg_left h2 h0
  rw [Int.mul_neg] at c
  omega
theorem mul_lim {x y m n : Int} (h0 : -m ≤ x) (h1 : x ≤ m) (h2 : -n ≤ y) (h3 : y ≤ n) : -(m * n) ≤ x * y ∧ x * y ≤ m * n := by
  rcases Int.le_total 0 x with hx | hx
  · exact mul_lim0 hx h1 h2 h3
  · have := mul_lim0 (x := -x) (m := m) (by omega) (by omega) h2 h3
    rw [Int.neg_mul] at this
    omega

/-- What a put's value is on a scale. -/
def valE (a b : Int) (p : Pu) : Int := p.w * (a + b * p.p)
/-- The better of two, the first one if they are equal. -/
def betterP (a b : Int) (m q : Pu) : Pu := if valE a b m < valE a b q then q else m
def cornersP (l : Ld) : List Pu := [⟨l.a0, l.w0⟩, ⟨l.a1, l.w0⟩, ⟨l.a0, l.w1⟩, ⟨l.a1, l.w1⟩]
def worstP (a b : Int) (l : Ld) : Pu := betterP a b (betterP a b (betterP a b ⟨l.a0, l.w0⟩ ⟨l.a1, l.w0⟩) ⟨l.a0, l.w1⟩) ⟨l.a1, l.w1⟩
/-- A scale, a put and a load within such bounds that nothing wraps. -/
def ScB (a b : Int) : Prop := -1000 ≤ a ∧ a ≤ 1000 ∧ -1000 ≤ b ∧ b ≤ 1000
def PuB (p : Pu) : Prop := -40000 ≤ p.p ∧ p.p ≤ 40000 ∧ -1073741824 ≤ p.w ∧ p.w ≤ 1073741824
structure LdB (l : Ld) : Prop where
  a0 : -40000 ≤ l.a0 ∧ l.a0 ≤ 40000
  a1 : -40000 ≤ l.a1 ∧ l.a1 ≤ 40000
  w0 : -1073741824 ≤ l.w0 ∧ l.w0 ≤ 1073741824
  w1 : -1073741824 ≤ l.w1 ∧ l.w1 ≤ 1073741824
theorem Ld.bound {l : Ld} (h : l.ok = true) : LdB l := by
  unfold Ld.ok at h
  rw [Bool.and_eq_true, spB_iff, spB_iff] at h
  exact ⟨by omega, by omega, by omega, by omega⟩
theorem Li.bound {l : Li} (h : l.ok = true) : ScB l.a l.b ∧ -1000000000000000000 ≤ l.c ∧ l.c ≤ 1000000000000000000 := by
  unfold Li.ok at h
  rw [Bool.and_eq_true, Bool.and_eq_true, inB_iff, inB_iff, inB_iff] at h
  unfold ScB
  omega
theorem corner_bound {l : Ld} (h : LdB l) : ∀ p, p ∈ cornersP l → PuB p := by
  intro p hp
  obtain ⟨h0, h1, h2, h3⟩ := h
  simp only [cornersP, List.mem_cons, List.not_mem_nil, or_false] at hp
  unfold PuB
  rcases hp with rfl | rfl | rfl | rfl <;> simp only <;> omega
theorem better_mem {a b : Int} {m q : Pu} {S : List Pu} (h1 : m ∈ S) (h2 : q ∈ S) : betterP a b m q ∈ S := by
  unfold betterP; split
  · exact h2
  · exact h1
theorem worst_mem (a b : Int) (l : Ld) : worstP a b l ∈ cornersP l := by
  unfold worstP
  exact better_mem (better_mem (better_mem (by simp [cornersP]) (by simp [cornersP])) (by simp [cornersP])) (by simp [cornersP])
theorem worst_bound {a b : Int} {l : Ld} (h : LdB l) : PuB (worstP a b l) := corner_bound h _ (worst_mem a b l)
/-- The bounds of a value and of what it is made of. -/
theorem val_bound {a b : Int} {p : Pu} (hs : ScB a b) (hp : PuB p) : (-40000000 ≤ b * p.p ∧ b * p.p ≤ 40000000) ∧ -42952746706567168 - 1 ≤ valE a b p ∧ valE a b p ≤ 42952746706567168 + 1 := by
  obtain ⟨a0, a1, b0, b1⟩ := hs
  obtain ⟨p0, p1, w0, w1⟩ := hp
  have h1 := mul_lim (m := 1000) (n := 40000) b0 b1 p0 p1
  have h2 := mul_lim (m := 1073741824) (n := 40001000) (x := p.w) (y := a + b * p.p) (by omega) (by omega) (by omega) (by omega)
  unfold valE
  omega
/-- The sum of values. -/
def mostE (a b : Int) (l : Ld) : Int := valE a b (worstP a b l)
def sumE {α : Type} (f : α → Int) (l : List α) : Int := (l.map f).sum
theorem sum_take {α : Type} {f : α → Int} {l : List α} {k : Nat} {x : α} (h : l[k]? = some x) : sumE f (l.take (k + 1)) = sumE f (l.take k) + f x := by
  unfold sumE
  rw [List.take_add_one, h, Option.toList_some, List.map_append, List.sum_append]
  simp
theorem sum_bound {α : Type} {f : α → Int} {m : Int} : ∀ (l : List α), (∀ x, x ∈ l → -m ≤ f x ∧ f x ≤ m) → -(m * l.length) ≤ sumE f l ∧ sumE f l ≤ m * l.length
  | [], _ => by simp [sumE]
  | x :: l, h => by
    have h1 := sum_bound l (fun y hy => h y (List.mem_cons_of_mem _ hy))
    have h2 := h x (List.mem_cons_self ..)
    unfold sumE at h1 ⊢
    rw [List.map_cons, List.sum_cons, List.length_cons]
    have e : m * ((l.length + 1 : Nat) : Int) = m * (l.length : Int) + m := by
      rw [Int.natCast_add, Int.mul_add]; omega
    rw [e]
    omega
end Go.Proofs.Ytldnpnplgfkebaa
