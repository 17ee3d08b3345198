/- What the loop of ratios keeps. -/
import Derived.Test.YtflgdckeinappaaLeasts
import Derived.Deep.RegionHeld3
namespace Go.Proofs.Ytflgdckeinappaa
open Go.RowKit

/-- The i-th of the eight. -/
def pickA (a b : Int) (i : Nat) : Int := endOf a b (bits .and .i64 (i : Int) 1)
def pickB (a b : Int) (i : Nat) : Int := endOf a b (bits .and .i64 (i : Int) 2)
def pickC (a b : Int) (i : Nat) : Int := endOf a b (bits .and .i64 (i : Int) 4)
def downs (a b c d f g : Int) (i : Nat) : Int := rD (pickA a b i) (pickB c d i) (pickC f g i)
def ups (a b c d f g : Int) (i : Nat) : Int := rU (pickA a b i) (pickB c d i) (pickC f g i)

theorem endOf_bd {a b : Int} (n : Int) (h : validB a b = true) : -1099511627776 ≤ endOf a b n ∧ endOf a b n ≤ 1099511627776 := by
  have := validB_bd h
  unfold endOf; split <;> omega
theorem endOf_pos {a b : Int} (n : Int) (h : validB a b = true) (ha : 1 ≤ a) : 1 ≤ endOf a b n := by
  have := validB_bd h
  unfold endOf; split <;> omega

theorem ratio_ends {a b c d f g : Int} (h1 : validB a b = true) (h2 : validB c d = true) (h3 : validB f g = true) (hf : 1 ≤ f) (m n o : Int) (w : World) :
    Calls Try.prog 129 #[.int .i64 (endOf a b m), .int .i64 (endOf c d n), .int .i64 (endOf f g o)] w fun e w' => e = .returned (.tuple #[.int .i64 (rD (endOf a b m) (endOf c d n) (endOf f g o)), .int .i64 (rU (endOf a b m) (endOf c d n) (endOf f g o))]) ∧ Below w.heap.size w w' :=
  ratio_any _ _ _ _ (endOf_bd m h1).1 (endOf_bd m h1).2 (endOf_bd n h2).1 (endOf_bd n h2).2 (endOf_pos o h3 hf) (endOf_bd o h3).2

theorem cell_far (W : World) (v : Value) {b b' o o' : Nat} (h : b ≠ b') : (W.setCell ⟨b', o', none⟩ v).cell? ⟨b, o, none⟩ = W.cell? ⟨b, o, none⟩ := World.cell?_setCell_far _ _ _ _ (Ne.symm h)
theorem size_set (W : World) (v : Value) {b' o' : Nat} {n : Nat} (h : n ≤ W.heap.size) : n ≤ (W.setCell ⟨b', o', none⟩ v).heap.size := by simpa using h

/-- What the loop keeps: B the caller's first block, k rounds done. -/
structure RatW (B : Nat) (w wr : World) (a b c d f g : Int) (k : Nat) : Prop where
  below : Below B w wr
  size : B + 6 ≤ wr.heap.size
  a0 : wr.cell? ⟨B, 0, none⟩ = some (.int .i64 a)
  a1 : wr.cell? ⟨B, 1, none⟩ = some (.int .i64 b)
  b0 : wr.cell? ⟨B + 1, 0, none⟩ = some (.int .i64 c)
  b1 : wr.cell? ⟨B + 1, 1, none⟩ = some (.int .i64 d)
  c0 : wr.cell? ⟨B + 1 + 1, 0, none⟩ = some (.int .i64 f)
  c1 : wr.cell? ⟨B + 1 + 1, 1, none⟩ = some (.int .i64 g)
  r0 : wr.cell? ⟨B + 1 + 1 + 1, 0, none⟩ = some (.int .i64 0)
  r1 : wr.cell? ⟨B + 1 + 1 + 1, 1, none⟩ = some (.int .i64 0)
  rf : ∀ o, wr.frozen? ⟨B + 1 + 1 + 1, o, none⟩ = false
  d0 : ∀ j, j < 8 → wr.cell? ⟨B + 1 + 1 + 1 + 1, j, none⟩ = some (.int .i64 (if j < k then downs a b c d f g j else 0))
  df : ∀ o, wr.frozen? ⟨B + 1 + 1 + 1 + 1, o, none⟩ = false
  u0 : ∀ j, j < 8 → wr.cell? ⟨B + 1 + 1 + 1 + 1 + 1, j, none⟩ = some (.int .i64 (if j < k then ups a b c d f g j else 0))
  uf : ∀ o, wr.frozen? ⟨B + 1 + 1 + 1 + 1 + 1, o, none⟩ = false

/-- A chain of calls. -/
theorem chain {w0 W w1 : World} (h : Below w0.heap.size w0 W) (hb : Below W.heap.size W w1) : Below w0.heap.size w0 w1 := h.trans (hb.mono h.size)
theorem chainD {w0 W w1 : World} (h : Below w0.heap.size w0 W) (hb : Below W.drew.heap.size W.drew w1) : Below w0.heap.size w0 w1 := h.drew.trans (hb.mono h.size)

theorem cell_set {W : World} {b o j : Nat} {x v : Value} (h : W.cell? ⟨b, j, none⟩ = some x) : (W.setCell ⟨b, o, none⟩ v).cell? ⟨b, j, none⟩ = some (if j = o then v else x) := by
  by_cases e : j = o
  · subst e; rw [if_pos rfl]; exact World.cell?_setCell_same W _ v h
  · rw [if_neg e, World.cell?_setCell_other W _ _ v (fun he => e (by simpa using (congrArg Addr.off he).symm))]; exact h

theorem RatW.step {B : Nat} {w wr w1 : World} {a b c d f g : Int} {k : Nat} (h : RatW B w wr a b c d f g k) (hk : k < 8) (hB : Below wr.heap.size wr w1) :
    RatW B w ((w1.setCell ⟨B + 1 + 1 + 1 + 1, k, none⟩ (.int .i64 (downs a b c d f g k))).setCell ⟨B + 1 + 1 + 1 + 1 + 1, k, none⟩ (.int .i64 (ups a b c d f g k))) a b c d f g (k + 1) := by
  have hz := h.size
  have hz1 := hB.size
  have L : ∀ bb o v, bb < B + 6 → wr.cell? ⟨bb, o, none⟩ = v → w1.cell? ⟨bb, o, none⟩ = v := fun bb o v hb e => by rw [(bcell hB).1 _ _ (by omega)]; exact e
  have F : ∀ bb o v, bb < B + 6 → wr.frozen? ⟨bb, o, none⟩ = v → w1.frozen? ⟨bb, o, none⟩ = v := fun bb o v hb e => by rw [(bcell hB).2 _ _ (by omega)]; exact e
  have C : ∀ bb o v, bb < B + 4 → wr.cell? ⟨bb, o, none⟩ = v → ((w1.setCell ⟨B + 1 + 1 + 1 + 1, k, none⟩ (.int .i64 (downs a b c d f g k))).setCell ⟨B + 1 + 1 + 1 + 1 + 1, k, none⟩ (.int .i64 (ups a b c d f g k))).cell? ⟨bb, o, none⟩ = v := fun bb o v hb e => by
    rw [cell_far _ _ (by omega), cell_far _ _ (by omega)]; exact L _ _ _ (by omega) e
  refine ⟨?_, ?_, C B 0 _ (by omega) h.a0, C B 1 _ (by omega) h.a1, C (B + 1) 0 _ (by omega) h.b0, C (B + 1) 1 _ (by omega) h.b1, C (B + 1 + 1) 0 _ (by omega) h.c0, C (B + 1 + 1) 1 _ (by omega) h.c1, C (B + 1 + 1 + 1) 0 _ (by omega) h.r0, C (B + 1 + 1 + 1) 1 _ (by omega) h.r1, ?_, ?_, ?_, ?_, ?_⟩
  · exact (((h.below.trans (hB.mono (by omega))).setCell (by simp; omega) _).setCell (by simp; omega) _)
  · simp; omega
  · intro o; simp; exact F _ _ _ (by omega) (h.rf o)
  · intro j hj
    rw [cell_far _ _ (by omega), cell_set (L _ _ _ (by omega) (h.d0 j hj))]
    by_cases e : j = k
    · subst e; rw [if_pos rfl, if_pos (by omega)]
    · rw [if_neg e]
      by_cases e2 : j < k
      · rw [if_pos e2, if_pos (by omega)]
      · rw [if_neg e2, if_neg (by omega)]
  · intro o; simp; exact F _ _ _ (by omega) (h.df o)
  · intro j hj
    rw [cell_set (x := .int .i64 (if j < k then ups a b c d f g j else 0)) (by rw [cell_far _ _ (by omega)]; exact L _ _ _ (by omega) (h.u0 j hj))]
    by_cases e : j = k
    · subst e; rw [if_pos rfl, if_pos (by omega)]
    · rw [if_neg e]
      by_cases e2 : j < k
      · rw [if_pos e2, if_pos (by omega)]
      · rw [if_neg e2, if_neg (by omega)]
  · intro o; simp; exact F _ _ _ (by omega) (h.uf o)

end Go.Proofs.Ytflgdckeinappaa
