/- Package gas: what all its walks use. -/
import Derived.Test.YtbkabgbkdggnhaaGMath
import Derived.Test.YtbkabgbkdggnhaaShelf
import Derived.Deep.CutBlock
import Derived.Deep.DeepCutAuto
import Derived.Deep.RegionHeld3
namespace Go.Proofs.Ytbkabgbkdggnhaa
open Go.RowKit

theorem below_drewN {B : Nat} {a w : World} (h : Below B a w) (n : Nat) : Below B a (w.drewN n) := h.trans ⟨rfl, rfl, rfl, Nat.le_refl _, fun _ _ => rfl⟩
theorem cell_later {W w1 : World} {b o : Nat} {v : Value} (hb : Below W.heap.size W w1) (h : W.cell? ⟨b, o, none⟩ = some v) : w1.cell? ⟨b, o, none⟩ = some v := by
  rw [hb.cell (World.block_lt_of_cell? W _ h)]; exact h
theorem ret_ii {k : IntKind} {a b a' b' : Int} (h1 : a = a') (h2 : b = b') : Ending.returned (.tuple #[.int k a, .int k b]) = .returned (.tuple #[.int k a', .int k b']) := by rw [h1, h2]
/-- The cells of a row of numbers. -/
def intCells (w : World) (b off : Nat) (l : List Int) : Prop := ∀ (i : Nat) (n : Int), l[i]? = some n → w.cell? ⟨b, off + i, none⟩ = some (.int .i64 n)
theorem intCells_nil (w : World) (b off : Nat) : intCells w b off [] := fun i n h => by simp at h
theorem intCells_cons {w : World} {b off : Nat} {x : Int} {l : List Int} (h0 : w.cell? ⟨b, off, none⟩ = some (.int .i64 x)) (h : intCells w b (off + 1) l) : intCells w b off (x :: l) := by
  intro i n hi
  cases i with
  | zero => simp at hi; subst hi; exact h0
  | succ i =>
    have := h i n (by simpa using hi)
    rw [show off + (i + 1) = off + 1 + i by omega]
    exact this

/-- Whether none of some numbers is above the next one. -/
def sortedB : List Int → Bool
  | a :: b :: t => decide (a ≤ b) && sortedB (b :: t)
  | _ => true
theorem sortedB_yes : ∀ (l : List Int), (∀ i x y, l[i]? = some x → l[i + 1]? = some y → x ≤ y) → sortedB l = true
  | [], _ => rfl
  | [_], _ => rfl
  | a :: b :: t, h => by
    unfold sortedB
    rw [Bool.and_eq_true]
    exact ⟨by have := h 0 a b rfl rfl; simpa using this, sortedB_yes (b :: t) (fun i x y hx hy => h (i + 1) x y (by simpa using hx) (by simpa using hy))⟩
theorem sortedB_no : ∀ (l : List Int) (i : Nat) (x y : Int), l[i]? = some x → l[i + 1]? = some y → y < x → sortedB l = false
  | [], i, x, y, h, _, _ => by simp at h
  | [_], i, x, y, _, h, _ => by simp at h
  | a :: b :: t, i, x, y, hx, hy, hlt => by
    unfold sortedB
    cases i with
    | zero =>
      simp at hx hy
      subst hx hy
      simp; omega
    | succ i =>
      rw [sortedB_no (b :: t) i x y (by simpa using hx) (by simpa using hy) hlt]
      simp

/-- The loop's head: from k on nothing is above the next one. -/
def SoHead (l : List Int) (w wr : World) (v3 : Value) : Prop := ∃ k : Nat, k ≤ l.length - 1 ∧ v3 = .int .i64 k ∧ (∀ i x y, k ≤ i → l[i]? = some x → l[i + 1]? = some y → x ≤ y) ∧ Below w.heap.size w wr ∧ (∀ b o, wr.cell? ⟨b, o, none⟩ = w.cell? ⟨b, o, none⟩)
set_option maxHeartbeats 1000000 in
theorem isSorted_any (b off : Nat) (l : List Int) (w : World) (hl0 : 1 ≤ l.length) (hl : l.length ≤ 1000) (hc : intCells w b off l) :
    Calls Try.prog 90 #[.slice (some ⟨b, off, none⟩) l.length l.length] w fun e w' => e = .returned (.bool (sortedB l)) ∧ Below w.heap.size w w' := by
  go_enter Try.func90, Try.ntmps90
  go_wp2_with fail
  go_loopw [3] (fun v3 wr => SoHead l w wr v3) (fun v3 _ => (intOf v3).toNat)
  case atStart =>
    show SoHead l w w (.int .i64 ((l.length : Int) - 1))
    refine ⟨l.length - 1, by omega, by go_num, ?_, Below.refl _ _, fun _ _ => rfl⟩
    intro i x y hi hx hy
    rw [List.getElem?_eq_none (by omega)] at hy
    cases hy
  case round =>
    obtain ⟨k, hk, rfl, hs, hbr, hcl⟩ := hrel
    have HS := Lib.hid hs
    clear hs
    rcases k with _ | k
    · have hfin : sortedB l = true := sortedB_yes l (fun i x y hx hy => HS.out i x y (by omega) hx hy)
      have HF := Lib.hid hfin
      clear hfin hc
      go_wp2_with fail
      go_returns
      exact ⟨ret_bool HF.out.symm, hbr⟩
    · obtain ⟨x, hx⟩ : ∃ x, l[k]? = some x := ⟨_, List.getElem?_eq_getElem (by omega)⟩
      obtain ⟨y, hy⟩ : ∃ y, l[k + 1]? = some y := ⟨_, List.getElem?_eq_getElem (by omega)⟩
      have c0 := hc k x hx
      have c1 := hc (k + 1) y hy
      rw [← hcl] at c0 c1
      have HX := Lib.hid hx
      have HY := Lib.hid hy
      have HBr := Lib.hid hbr
      have HCl := Lib.hid hcl
      have HC := Lib.hid hc
      clear hx hy hc hcl
      have g0 : IntKind.i64.wrap (((k + 1 : Nat) : Int) - 1) = ((k : Nat) : Int) := IntWalk.i64_in _ ⟨by omega, by omega⟩ |>.trans (by omega)
      have g1 : ((((k + 1 : Nat) : Int)).toNat) = k + 1 := by omega
      have g2 : (((k : Nat) : Int).toNat) = k := by omega
      have g3 : (0 : Int) < ((k + 1 : Nat) : Int) := by omega
      have g4 : ((k + 1 : Nat) : Int) < (l.length : Int) := by omega
      have g5 : ((k : Nat) : Int) < (l.length : Int) := by omega
      have g6 : (0 : Int) ≤ ((k + 1 : Nat) : Int) := by omega
      have g7 : (0 : Int) ≤ ((k : Nat) : Int) := by omega
      by_cases hlt : y < x
      · have hd : decide (y < x) = true := by simpa using hlt
        go_wp2_with fail
        go_quiet ((go_at_call 107; exact Calls.quiet_of_same (Try.cmp_Less_int2 _ _ _)))
        go_wp2_with fail
        go_returns
        exact ⟨ret_bool (sortedB_no l k x y HX.out HY.out hlt).symm, below_drewN HBr.out _⟩
      · have hd : decide (y < x) = false := by simpa using hlt
        go_wp2_with fail
        go_quiet ((go_at_call 107; exact Calls.quiet_of_same (Try.cmp_Less_int2 _ _ _)))
        go_wp2_with fail
        go_roundw
        case rel =>
          refine ⟨k, by omega, by go_num, fun i u v hi hu hv => ?_, below_drewN HBr.out _, fun b o => HCl.out b o⟩
          by_cases e : i = k
          · subst e; rw [HX.out] at hu; rw [HY.out] at hv; cases hu; cases hv; omega
          · exact HS.out i u v (by omega) hu hv
        case measure => simp [intOf]
end Go.Proofs.Ytbkabgbkdggnhaa
