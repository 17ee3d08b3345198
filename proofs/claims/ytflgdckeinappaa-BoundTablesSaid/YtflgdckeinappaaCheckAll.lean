/- checkAll. -/
import Derived.Test.YtflgdckeinappaaSpans
namespace Go.Proofs.Ytflgdckeinappaa
open Go.RowKit

def allValid (ss : List (Int × Int)) : Bool := ss.all fun s => validB s.1 s.2
def allN (ss : List (Int × Int)) : Int := if allValid ss then 0 else 10
theorem allN_yes {ss : List (Int × Int)} (h : allValid ss = true) : allN ss = 0 := by unfold allN; rw [if_pos h]
theorem allN_no {ss : List (Int × Int)} (h : allValid ss = false) : allN ss = 10 := by unfold allN; rw [if_neg (by simp [h])]
theorem allValid_snoc {ss : List (Int × Int)} {k : Nat} {lo hi : Int} (hs : ss[k]? = some (lo, hi)) (h : allValid (ss.take k) = true) (hv : validB lo hi = true) : allValid (ss.take (k + 1)) = true := by
  unfold allValid at *
  rw [List.take_add_one, hs]
  simp_all
theorem allValid_bad {ss : List (Int × Int)} {k : Nat} {lo hi : Int} (hs : ss[k]? = some (lo, hi)) (hv : validB lo hi = false) : allValid ss = false := by
  unfold allValid
  rw [List.all_eq_false]
  exact ⟨(lo, hi), List.mem_of_getElem? hs, by simp [hv]⟩
/-- The cells of a row of spans. -/
def spanCells (w : World) (b off : Nat) (ss : List (Int × Int)) : Prop := ∀ (i : Nat) (lo hi : Int), ss[i]? = some (lo, hi) → w.cell? ⟨b, off + i * 2, none⟩ = some (.int .i64 lo) ∧ w.cell? ⟨b, off + i * 2 + 1, none⟩ = some (.int .i64 hi)

set_option maxHeartbeats 400000 in
theorem checkAll_any (b off : Nat) (ss : List (Int × Int)) (w : World) (hb : b < w.heap.size) (hl : ss.length ≤ 1000) (hc : spanCells w b off ss) :
    Calls Try.prog 64 #[.slice (some ⟨b, off, none⟩) ss.length ss.length] w fun e w' => e = .returned (.int .i64 (allN ss)) ∧ Below w.heap.size w w' := by
  go_enter Try.func64, Try.ntmps64
  go_wp2
  go_loopw [8] (fun v8 wr => ∃ k : Nat, k ≤ ss.length ∧ v8 = .int .i64 k ∧ allValid (ss.take k) = true ∧ Below w.heap.size w wr) (fun v8 _ => ss.length - (intOf v8).toNat)
  case atStart => exact ⟨0, Nat.zero_le _, rfl, rfl, Below.refl _ _⟩
  case round =>
    obtain ⟨k, hk, rfl, hv, hbw⟩ := hrel
    have Hv := Lib.hid hv
    clear hv
    by_cases hlt : k < ss.length
    · obtain ⟨lo, hi, hs⟩ : ∃ lo hi, ss[k]? = some (lo, hi) := ⟨_, _, List.getElem?_eq_getElem hlt⟩
      obtain ⟨c0, c1⟩ := hc k lo hi hs
      rw [← hbw.cell (by simpa using hb)] at c0 c1
      have Hs := Lib.hid hs
      clear hs hc
      have hws := hbw.size
      go_wp2_with fail
      refine (check_any _ _ _).mono ?_
      rintro e w1 ⟨rfl, hb1⟩
      by_cases hval : validB lo hi = true
      · rw [checkN_yes hval]
        go_wp2_with fail
        go_roundw
        case rel => exact ⟨k + 1, by omega, by go_num, allValid_snoc Hs.out Hv.out hval, hbw.trans (((Below.refl _ _).alloc hws _).trans (hb1.mono (by simp; omega)))⟩
        case measure => simp [intOf]; omega
      · rw [checkN_no (by simpa using hval)]
        go_wp2_with fail
        go_returns
        exact ⟨ret_int (by rw [allN_no (allValid_bad Hs.out (by simpa using hval))]), hbw.trans (((Below.refl _ _).alloc hws _).trans (hb1.mono (by simp; omega)))⟩
    · clear hc
      go_wp2_with fail
      go_returns
      exact ⟨ret_int (by rw [allN_yes (by have := Hv.out; rwa [List.take_of_length_le (by omega)] at this)]), hbw⟩

theorem spanCells_nil (w : World) (b off : Nat) : spanCells w b off [] := fun i lo hi h => by simp at h
theorem spanCells_cons {w : World} {b off : Nat} {lo hi : Int} {ss : List (Int × Int)} (h0 : w.cell? ⟨b, off, none⟩ = some (.int .i64 lo)) (h1 : w.cell? ⟨b, off + 1, none⟩ = some (.int .i64 hi)) (h : spanCells w b (off + 2) ss) : spanCells w b off ((lo, hi) :: ss) := by
  intro i l r hi'
  cases i with
  | zero => simp at hi'; obtain ⟨rfl, rfl⟩ := hi'; exact ⟨by simpa using h0, by simpa using h1⟩
  | succ i =>
    have := h i l r (by simpa using hi')
    rw [show off + (i + 1) * 2 = off + 2 + i * 2 by omega]
    exact this

theorem checkAll2 (B : Nat) (a b c d : Int) (w : World) (hB : B < w.heap.size) (h0 : w.cell? ⟨B, 0, none⟩ = some (.int .i64 a)) (h1 : w.cell? ⟨B, 1, none⟩ = some (.int .i64 b)) (h2 : w.cell? ⟨B, 2, none⟩ = some (.int .i64 c)) (h3 : w.cell? ⟨B, 3, none⟩ = some (.int .i64 d)) :
    Calls Try.prog 64 #[.slice (some ⟨B, 0, none⟩) 2 2] w fun e w' => e = .returned (.int .i64 (allN [(a, b), (c, d)])) ∧ Below w.heap.size w w' :=
  checkAll_any B 0 [(a, b), (c, d)] w hB (by simp) (spanCells_cons h0 h1 (spanCells_cons h2 h3 (spanCells_nil _ _ _)))
theorem checkAll3 (B : Nat) (a b c d f g : Int) (w : World) (hB : B < w.heap.size) (h0 : w.cell? ⟨B, 0, none⟩ = some (.int .i64 a)) (h1 : w.cell? ⟨B, 1, none⟩ = some (.int .i64 b)) (h2 : w.cell? ⟨B, 2, none⟩ = some (.int .i64 c)) (h3 : w.cell? ⟨B, 3, none⟩ = some (.int .i64 d)) (h4 : w.cell? ⟨B, 4, none⟩ = some (.int .i64 f)) (h5 : w.cell? ⟨B, 5, none⟩ = some (.int .i64 g)) :
    Calls Try.prog 64 #[.slice (some ⟨B, 0, none⟩) 3 3] w fun e w' => e = .returned (.int .i64 (allN [(a, b), (c, d), (f, g)])) ∧ Below w.heap.size w w' :=
  checkAll_any B 0 [(a, b), (c, d), (f, g)] w hB (by simp) (spanCells_cons h0 h1 (spanCells_cons h2 h3 (spanCells_cons h4 h5 (spanCells_nil _ _ _))))
theorem allValid2 {a b c d : Int} : allValid [(a, b), (c, d)] = (validB a b && validB c d) := by simp [allValid]
theorem allValid3 {a b c d f g : Int} : allValid [(a, b), (c, d), (f, g)] = (validB a b && (validB c d && validB f g)) := by simp [allValid]

end Go.Proofs.Ytflgdckeinappaa
