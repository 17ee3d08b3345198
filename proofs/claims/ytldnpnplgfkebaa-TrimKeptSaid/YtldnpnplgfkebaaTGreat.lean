/- Lists that are too long: CheckLoads, CheckLimits, checkBoth, Breach. And what Breach's number says. -/
import Derived.Test.YtldnpnplgfkebaaTChs
import Derived.Test.YtldnpnplgfkebaaTCb2
namespace Go.Proofs.Ytldnpnplgfkebaa
open Go.RowKit

set_option maxHeartbeats 1000000 in
theorem checkLd_long (a : Option Addr) (l c : Nat) (w : World) (hg : 40 < l) :
    Calls Try.prog 16 #[.slice a l c] w fun e w' => e = .returned (.int .i64 4) ∧ Below w.heap.size w w' := by
  have hl : Calls Try.prog 51 #[.slice a l c, .int .i64 40, .func (.func 52) #[] #[], .int .i64 40] w fun e w' => e = .returned (.int .i64 4) ∧ Below w.heap.size w w' := by
    have hm' : (40 : Int) < (l : Int) := by omega
    go_enter Try.func51, Try.ntmps51
    go_wp2_with fail
    go_returns
    exact ⟨rfl, by go_grown⟩
  go_enter Try.func16, Try.ntmps16
  go_wp2_with fail
  refine hl.mono ?_
  rintro e w1 ⟨rfl, hb1⟩
  go_wp2_with fail
  go_returns
  exact ⟨rfl, hb1⟩
set_option maxHeartbeats 1000000 in
theorem checkLi_long (a : Option Addr) (l c : Nat) (w : World) (hg : 12 < l) :
    Calls Try.prog 18 #[.slice a l c] w fun e w' => e = .returned (.int .i64 4) ∧ Below w.heap.size w w' := by
  have hl : Calls Try.prog 54 #[.slice a l c, .int .i64 12, .func (.func 55) #[] #[], .int .i64 41] w fun e w' => e = .returned (.int .i64 4) ∧ Below w.heap.size w w' := by
    have hm' : (12 : Int) < (l : Int) := by omega
    go_enter Try.func54, Try.ntmps54
    go_wp2_with fail
    go_returns
    exact ⟨rfl, by go_grown⟩
  go_enter Try.func18, Try.ntmps18
  go_wp2_with fail
  refine hl.mono ?_
  rintro e w1 ⟨rfl, hb1⟩
  go_wp2_with fail
  go_returns
  exact ⟨rfl, hb1⟩
/-- The error of lists one of which is too long. -/
def longN (n : Int) : Prop := n = 4 ∨ n = 40
set_option maxHeartbeats 1000000 in
theorem both_long0 (a0 : Option Addr) (l0 c0 : Nat) (u : Value) (w : World) (hg : 40 < l0) :
    Calls Try.prog 64 #[.slice a0 l0 c0, u] w fun e w' => ∃ n, e = .returned (.int .i64 n) ∧ longN n ∧ Below w.heap.size w w' := by
  go_enter Try.func64, Try.ntmps64
  go_wp2_with fail
  refine (checkLd_long a0 l0 c0 _ hg).mono ?_
  rintro e w1 ⟨rfl, hb1⟩
  go_wp2_with fail
  go_returns
  exact ⟨4, rfl, .inl rfl, hb1⟩
set_option maxHeartbeats 1000000 in
theorem both_long1 (v : Value) (ls : List Ld) (a1 : Option Addr) (l1 c1 : Nat) (w : World) (hv : SlLd w v ls) (hg : 12 < l1) :
    Calls Try.prog 64 #[v, .slice a1 l1 c1] w fun e w' => ∃ n, e = .returned (.int .i64 n) ∧ longN n ∧ Below w.heap.size w w' := by
  have HV := Lib.hid hv
  clear hv
  obtain ⟨n, hn⟩ : ∃ n, loadsN ls = n := ⟨_, rfl⟩
  have hn3 : n = 0 ∨ longN n := by
    subst hn
    unfold loadsN listN longN
    split
    · exact .inr (.inl rfl)
    · split
      · exact .inl rfl
      · exact .inr (.inr rfl)
  have HN := Lib.hid hn
  clear hn
  rcases hn3 with rfl | hn3
  · go_enter Try.func64, Try.ntmps64
    go_wp2_with fail
    refine (checkLd_any v ls _ HV.out).mono ?_
    rintro e w1 ⟨rfl, hb1⟩
    rw [HN.out]
    go_wp2_with fail
    refine (checkLi_long a1 l1 c1 _ hg).mono ?_
    rintro e w2 ⟨rfl, hb2⟩
    have hB2 := two hb1 hb2
    clear hb1 hb2
    go_wp2_with fail
    go_returns
    exact ⟨4, rfl, .inl rfl, hB2⟩
  · have h0 : ¬ n = 0 := by unfold longN at hn3; omega
    have HL := Lib.hid hn3
    clear hn3
    go_enter Try.func64, Try.ntmps64
    go_wp2_with fail
    refine (checkLd_any v ls _ HV.out).mono ?_
    rintro e w1 ⟨rfl, hb1⟩
    rw [HN.out]
    go_wp2_with fail
    go_returns
    exact ⟨n, rfl, HL.out, hb1⟩
set_option maxHeartbeats 1000000 in
/-- Breach, where checkBoth says that a list is too long. -/
theorem breach_long (v u : Value) (w : World) (hc : ∀ w1, Below w.heap.size w w1 → Calls Try.prog 64 #[v, u] w1 fun e w' => ∃ n, e = .returned (.int .i64 n) ∧ longN n ∧ Below w1.heap.size w1 w') :
    Calls Try.prog 28 #[v, u] w fun e w' => ∃ n, e = .returned (.tuple #[brV 0 (.slice none 0 0), .int .i64 n]) ∧ Below w.heap.size w w' := by
  have HC := Lib.hid hc
  clear hc
  go_enter Try.func28, Try.ntmps28
  go_wp2_with fail
  refine (HC.out _ (by go_grown)).mono ?_
  rintro e w1 ⟨n, rfl, hn, hb1⟩
  have h0 : ¬ n = 0 := by unfold longN at hn; omega
  have hB1 : Below w.heap.size w w1 := (after (w := w) (by go_grown) hb1).1
  obtain ⟨r0, r1, f0, f1⟩ := show BoxV w1 w.heap.size (.int .i64 0) (.slice none 0 0) from BoxV.later ⟨by go_cell, by go_cell, by go_cell, by go_cell⟩ hb1
  clear hb1 hn
  go_wp2_with fail
  exact bodyPost_ret (v := .tuple #[brV 0 (.slice none 0 0), .int .i64 n]) (by simp [results, Try.results28, go_sem, *]) rfl ⟨n, rfl, by go_grown⟩
theorem brk_ge (ls : List Ld) : ∀ (ms : List Li) (i : Nat), brk ls i ms = -1 ∨ (i : Int) ≤ brk ls i ms
  | [], _ => .inl rfl
  | m :: ms, i => by
    unfold brk
    split
    · exact .inr (Int.le_refl _)
    · have := brk_ge ls ms (i + 1)
      omega
/-- What stands before the breach is kept. -/
theorem brk_kept (ls : List Ld) : ∀ (ms : List Li) (i j : Nat) (y : Li), ms[j]? = some y → (brk ls i ms = -1 ∨ (i : Int) + j < brk ls i ms) → mostL y.a y.b ls ≤ y.c
  | [], _, _, _, h, _ => by simp at h
  | m :: ms, i, 0, y, h, k => by
    obtain rfl : m = y := by simpa using h
    unfold brk at k
    split at k
    · omega
    · omega
  | m :: ms, i, j + 1, y, h, k => by
    refine brk_kept ls ms (i + 1) j y (by simpa using h) ?_
    unfold brk at k
    split at k
    · omega
    · rcases k with k | k
      · exact .inl k
      · exact .inr (by omega)
/-- The breach is one. -/
theorem brk_at (ls : List Ld) : ∀ (ms : List Li) (i k : Nat) (y : Li), ms[k]? = some y → brk ls i ms = (i : Int) + k → y.c < mostL y.a y.b ls
  | [], _, _, _, h, _ => by simp at h
  | m :: ms, i, 0, y, h, e => by
    obtain rfl : m = y := by simpa using h
    unfold brk at e
    split at e
    · assumption
    · have := brk_ge ls ms (i + 1)
      omega
  | m :: ms, i, k + 1, y, h, e => by
    refine brk_at ls ms (i + 1) k y (by simpa using h) ?_
    unfold brk at e
    split at e
    · omega
    · omega
theorem chop_choice : ∀ {ps : List Pu} {ls : List Ld}, ChoP ps ls → choiceB ps ls = true
  | [], [], _ => rfl
  | p :: ps, l :: ls, h => by
    have h1 := chop_choice h.2
    unfold choiceB at h1 ⊢
    rw [Bool.and_eq_true] at h1 ⊢
    obtain ⟨i0, i1, i2, i3⟩ := h.1
    refine ⟨by simpa using h1.1, ?_⟩
    rw [choB, Bool.and_eq_true, Bool.and_eq_true, inB_iff, inB_iff]
    exact ⟨⟨⟨i0, i1⟩, i2, i3⟩, h1.2⟩
  | [], _ :: _, h => h.elim
  | _ :: _, [], h => h.elim
theorem cb_found {ls : List Ld} {ms : List Li} {k : Nat} {y : Li} (hb : bothN ls ms = 0) (hy : ms[k]? = some y) (hk : brk ls 0 ms = k) : cbN ls ms k (ls.map (worstP y.a y.b)) = 0 := by
  have hlt : k < ms.length := (List.getElem?_eq_some_iff.1 hy).1
  have h1 := brk_at ls ms 0 k y hy (by omega)
  have h2 : inB (k : Int) 0 ((ms.length : Int) - 1) = true := inB_iff.2 (by omega)
  have h3 := chop_choice (worsts_in y.a y.b (fun l hl => List.all_eq_true.1 (bothN_ok hb).2.1 l hl))
  have h4 : ms.getD ((k : Int)).toNat default = y := by
    rw [List.getD_eq_getElem?_getD, Int.toNat_natCast, hy]
    rfl
  unfold cbN
  rw [if_pos hb, h2, h3, h4, if_pos (by rfl), sum_worst, if_neg (by omega)]
theorem slice_to (a : Option Addr) (n c k : Nat) (h : k ≤ c) (ha : a = none → c = 0) (hs : ∀ x, a = some x → x.spot = none) (w : World) : (Instr.sliceAt 23 (.slice a n c) none (some (.int .i64 (k : Int))) none).run Try.prog w = .ok (.slice a k c) w := by
  have ht : Try.prog.underlying 23 = some (.slice 35) := by kernel_rfl
  cases a with
  | none =>
    obtain rfl := ha rfl
    obtain rfl : k = 0 := by omega
    simp [Instr.sliceAt, Instr.slice, run_underlying ht, Instr.sliceBounds, run_sliceBound, go_sem]
  | some x =>
    obtain ⟨g, o, s⟩ := x
    have hs' : s = none := hs _ rfl
    subst hs'
    have h1 : (k : Int) ≤ (c : Int) := by omega
    have h0 : (0 : Int) ≤ (k : Int) := by omega
    simp [Instr.sliceAt, Instr.slice, run_underlying ht, Instr.sliceBounds, run_sliceBound, h1, h0, go_sem]
end Go.Proofs.Ytldnpnplgfkebaa
