/- least, greatest, end. -/
import Derived.Test.YtflgdckeinappaaRatio
namespace Go.Proofs.Ytflgdckeinappaa
open Go.RowKit

/-- The cells of a row of numbers. -/
def intCells (w : World) (b off : Nat) (l : List Int) : Prop := ∀ (i : Nat) (n : Int), l[i]? = some n → w.cell? ⟨b, off + i, none⟩ = some (.int .i64 n)
theorem intCells_nil (w : World) (b off : Nat) : intCells w b off [] := fun i n h => by simp at h
theorem intCells_cons {w : World} {b off : Nat} {x : Int} {l : List Int} (h0 : w.cell? ⟨b, off, none⟩ = some (.int .i64 x)) (h : intCells w b (off + 1) l) : intCells w b off (x :: l) := by
  intro i n hi
  cases i with
  | zero => simp at hi; subst hi; exact h0
  | succ i =>
    have := h i n (by simpa using hi)
    rw [show off + (i + 1) = off + 1 + i by omega]
    exact this

set_option maxHeartbeats 400000 in
theorem least_any (b off : Nat) (f : Int) (l : List Int) (w : World) (hl : l.length ≤ 1000) (hc : intCells w b off l) :
    Calls Try.prog 75 #[.int .i64 f, .slice (some ⟨b, off, none⟩) l.length l.length] w fun e w' => e = .returned (.int .i64 (l.foldl min f)) ∧ w = w' := by
  go_enter Try.func75, Try.ntmps75
  go_wp2
  go_loop [0, 9] (fun v0 v9 => ∃ k : Nat, k ≤ l.length ∧ v9 = .int .i64 k ∧ v0 = .int .i64 ((l.take k).foldl min f)) (fun _ v9 => l.length - (intOf v9).toNat)
  case atStart => exact ⟨0, Nat.zero_le _, rfl, rfl⟩
  case round =>
    obtain ⟨k, hk, rfl, rfl⟩ := hrel
    by_cases hlt : k < l.length
    · obtain ⟨n, hn⟩ : ∃ n, l[k]? = some n := ⟨_, List.getElem?_eq_getElem hlt⟩
      have c0 := hc k n hn
      have hs : (l.take (k + 1)).foldl min f = min ((l.take k).foldl min f) n := by rw [List.take_add_one, hn]; simp
      obtain ⟨m, hm⟩ : ∃ m, (l.take k).foldl min f = m := ⟨_, rfl⟩
      rw [hm] at hs ⊢
      have Hs := Lib.hid hs
      clear hs hn hc hm
      by_cases hlm : n < m
      all_goals
        go_wp2_with fail
        go_round
        case rel => exact ⟨k + 1, by omega, by go_num, by rw [Hs.out]⟩
        case measure => simp [intOf]; omega
    · clear hc
      go_wp2_with fail
      go_returns
      exact ⟨ret_int (by rw [List.take_of_length_le (by omega)]), rfl⟩

set_option maxHeartbeats 400000 in
theorem greatest_any (b off : Nat) (f : Int) (l : List Int) (w : World) (hl : l.length ≤ 1000) (hc : intCells w b off l) :
    Calls Try.prog 78 #[.int .i64 f, .slice (some ⟨b, off, none⟩) l.length l.length] w fun e w' => e = .returned (.int .i64 (l.foldl max f)) ∧ w = w' := by
  go_enter Try.func78, Try.ntmps78
  go_wp2
  go_loop [0, 9] (fun v0 v9 => ∃ k : Nat, k ≤ l.length ∧ v9 = .int .i64 k ∧ v0 = .int .i64 ((l.take k).foldl max f)) (fun _ v9 => l.length - (intOf v9).toNat)
  case atStart => exact ⟨0, Nat.zero_le _, rfl, rfl⟩
  case round =>
    obtain ⟨k, hk, rfl, rfl⟩ := hrel
    by_cases hlt : k < l.length
    · obtain ⟨n, hn⟩ : ∃ n, l[k]? = some n := ⟨_, List.getElem?_eq_getElem hlt⟩
      have c0 := hc k n hn
      have hs : (l.take (k + 1)).foldl max f = max ((l.take k).foldl max f) n := by rw [List.take_add_one, hn]; simp
      obtain ⟨m, hm⟩ : ∃ m, (l.take k).foldl max f = m := ⟨_, rfl⟩
      rw [hm] at hs ⊢
      have Hs := Lib.hid hs
      clear hs hn hc hm
      by_cases hlm : m < n
      all_goals
        go_wp2_with fail
        go_round
        case rel => exact ⟨k + 1, by omega, by go_num, by rw [Hs.out]⟩
        case measure => simp [intOf]; omega
    · clear hc
      go_wp2_with fail
      go_returns
      exact ⟨ret_int (by rw [List.take_of_length_le (by omega)]), rfl⟩

def min8 (X : Nat → Int) : Int := [X 1, X 2, X 3, X 4, X 5, X 6, X 7].foldl min (X 0)
def max8 (X : Nat → Int) : Int := [X 1, X 2, X 3, X 4, X 5, X 6, X 7].foldl max (X 0)
theorem cells8 {w : World} {B : Nat} {X : Nat → Int} (h : ∀ j, j < 8 → w.cell? ⟨B, j, none⟩ = some (.int .i64 (X j))) : intCells w B 1 [X 1, X 2, X 3, X 4, X 5, X 6, X 7] :=
  intCells_cons (h 1 (by omega)) (intCells_cons (h 2 (by omega)) (intCells_cons (h 3 (by omega)) (intCells_cons (h 4 (by omega)) (intCells_cons (h 5 (by omega)) (intCells_cons (h 6 (by omega)) (intCells_cons (h 7 (by omega)) (intCells_nil _ _ _)))))))
theorem least8 {B : Nat} {X : Nat → Int} (w : World) (h : ∀ j, j < 8 → w.cell? ⟨B, j, none⟩ = some (.int .i64 (X j))) :
    Calls Try.prog 75 #[.int .i64 (X 0), .slice (some ⟨B, 1, none⟩) 7 7] w fun e w' => e = .returned (.int .i64 (min8 X)) ∧ w = w' :=
  least_any B 1 (X 0) [X 1, X 2, X 3, X 4, X 5, X 6, X 7] w (by simp) (cells8 h)
theorem greatest8 {B : Nat} {X : Nat → Int} (w : World) (h : ∀ j, j < 8 → w.cell? ⟨B, j, none⟩ = some (.int .i64 (X j))) :
    Calls Try.prog 78 #[.int .i64 (X 0), .slice (some ⟨B, 1, none⟩) 7 7] w fun e w' => e = .returned (.int .i64 (max8 X)) ∧ w = w' :=
  greatest_any B 1 (X 0) [X 1, X 2, X 3, X 4, X 5, X 6, X 7] w (by simp) (cells8 h)

def endOf (a b n : Int) : Int := if n = 0 then a else b
set_option maxHeartbeats 400000 in
theorem end_any (a b n : Int) (w : World) :
    Calls Try.prog 130 #[sp a b, .int .i64 n] w fun e w' => e = .returned (.int .i64 (endOf a b n)) ∧ Below w.heap.size w w' := by
  by_cases h : n = 0
  · subst h
    go_enter Try.func130, Try.ntmps130
    go_wp2
    go_returns
    exact ⟨ret_int rfl, by go_grown⟩
  · have h' : (n == 0) = false := by simpa using h
    go_enter Try.func130, Try.ntmps130
    go_wp2
    go_returns
    exact ⟨ret_int (by unfold endOf; rw [if_neg h]), by go_grown⟩

end Go.Proofs.Ytflgdckeinappaa
