/- Roots: sort.Search with the code's closures; the reference's Sqrt; Root of both. -/
import Derived.Test.YtflgdckeinappaaSpans
import Derived.Test.YtflgdckeinappaaQuo
namespace Go.Proofs.Ytflgdckeinappaa
open Go.RowKit

def IsLo (n r : Int) : Prop := 0 ≤ r ∧ r ≤ 1048576 ∧ r * r ≤ n ∧ n < (r + 1) * (r + 1)
def IsHi (n s : Int) : Prop := 0 ≤ s ∧ s ≤ 1048577 ∧ n ≤ s * s ∧ (s = 0 ∨ (s - 1) * (s - 1) < n)

theorem sq_mono {a b : Int} (h0 : 0 ≤ a) (h : a ≤ b) : a * a ≤ b * b := Int.mul_le_mul h h h0 (by omega)
theorem sq_lt {a b : Int} (h0 : 0 ≤ b) (h : a * a < b * b) : a < b := by
  rcases Int.lt_or_le a b with h1 | h1
  · exact h1
  · have := sq_mono h0 h1; omega
theorem IsLo.uniq {n r r' : Int} (h : IsLo n r) (h' : IsLo n r') : r = r' := by
  have a : r < r' + 1 := sq_lt (by have := h'.1; omega) (by have := h.2.2.1; have := h'.2.2.2; omega)
  have b : r' < r + 1 := sq_lt (by have := h.1; omega) (by have := h'.2.2.1; have := h.2.2.2; omega)
  omega
theorem IsHi.le {n s s' : Int} (h : IsHi n s) (h' : IsHi n s') : s ≤ s' := by
  rcases h.2.2.2 with e | e
  · have := h'.1; omega
  · have : s - 1 < s' := sq_lt h'.1 (by have := h'.2.2.1; omega)
    omega
theorem IsHi.uniq {n s s' : Int} (h : IsHi n s) (h' : IsHi n s') : s = s' := by
  have := h.le h'; have := h'.le h; omega

/-- The product of a number up to 2^21 by itself. -/
theorem sq_bd {m : Int} (h0 : 0 ≤ m) (h1 : m ≤ 2097152) : 0 ≤ m * m ∧ m * m ≤ 4398046511104 := by
  refine ⟨Int.mul_nonneg h0 h0, ?_⟩
  have := sq_mono h0 h1
  omega

set_option maxHeartbeats 400000 in
theorem root1_any (m a : Int) (B : Nat) (w : World) (h0 : 0 ≤ m) (h1 : m ≤ 1048577) (hc : w.cell? ⟨B, 0, none⟩ = some (.int .i64 a)) :
    Calls Try.prog 71 #[.int .i64 m, .pointer (some ⟨B, 0, none⟩)] w fun e w' => e = .returned (.bool (decide (a < m * m))) ∧ w = w' := by
  obtain ⟨p0, p1⟩ := sq_bd h0 (by omega)
  obtain ⟨p, hp⟩ : ∃ p, m * m = p := ⟨_, rfl⟩
  rw [hp] at p0 p1 ⊢
  have f : IntKind.i64.wrap p = p := IntWalk.i64_in _ ⟨by omega, by omega⟩
  go_enter Try.func71, Try.ntmps71
  go_wp2
  go_returns
  exact ⟨rfl, rfl⟩
set_option maxHeartbeats 400000 in
theorem root2_any (m b : Int) (B : Nat) (w : World) (h0 : 0 ≤ m) (h1 : m ≤ 1048577) (hc : w.cell? ⟨B, 1, none⟩ = some (.int .i64 b)) :
    Calls Try.prog 72 #[.int .i64 m, .pointer (some ⟨B, 0, none⟩)] w fun e w' => e = .returned (.bool (decide (b ≤ m * m))) ∧ w = w' := by
  obtain ⟨p0, p1⟩ := sq_bd h0 (by omega)
  obtain ⟨p, hp⟩ : ∃ p, m * m = p := ⟨_, rfl⟩
  rw [hp] at p0 p1 ⊢
  have f : IntKind.i64.wrap p = p := IntWalk.i64_in _ ⟨by omega, by omega⟩
  go_enter Try.func72, Try.ntmps72
  go_wp2
  go_returns
  exact ⟨rfl, rfl⟩

def T1 (a m : Int) : Prop := a < m * m
def T2 (a m : Int) : Prop := a ≤ m * m
/-- The search's head: below i the test says no, from j on it says yes. -/
def SHead (t : Int → Prop) (v5 v6 : Value) : Prop := ∃ i j : Int, 0 ≤ i ∧ i ≤ j ∧ j ≤ 1048577 ∧ (i = 0 ∨ ¬ t (i - 1)) ∧ (j = 1048577 ∨ t j) ∧ v5 = .int .i64 i ∧ v6 = .int .i64 j

/-- What the search returns. -/
def SOut (t : Int → Prop) (e : Ending) : Prop := ∃ r : Int, e = .returned (.int .i64 r) ∧ 0 ≤ r ∧ r ≤ 1048577 ∧ (r = 0 ∨ ¬ t (r - 1)) ∧ (r = 1048577 ∨ t r)
set_option maxHeartbeats 1000000 in
theorem search1_any (a : Int) (B : Nat) (w : World) (hc : w.cell? ⟨B, 0, none⟩ = some (.int .i64 a)) :
    Calls Try.prog 70 #[.int .i64 1048577, .func (.func 71) #[] #[.pointer (some ⟨B, 0, none⟩)]] w fun e w' => SOut (T1 a) e ∧ Below w.heap.size w w' := by
  go_enter Try.func70, Try.ntmps70
  go_wp2_with fail
  go_loop [5, 6] (fun v5 v6 => SHead (T1 a) v5 v6) (fun v5 v6 => (intOf v6 - intOf v5).toNat)
  case atStart => exact ⟨0, 1048577, by omega, by omega, by omega, .inl rfl, .inl rfl, rfl, rfl⟩
  case round =>
    obtain ⟨i, j, hi, hij, hj, ti, tj, rfl, rfl⟩ := hrel
    have TI := Lib.hid ti
    have TJ := Lib.hid tj
    clear ti tj
    by_cases hlt : i < j
    · go_wp2_with fail
      refine (root1_any _ a _ _ (by omega) (by omega) hc).mono ?_
      rintro e w1 ⟨rfl, rfl⟩
      obtain ⟨h, hh⟩ : ∃ h : Int, (i + j) / 2 = h := ⟨_, rfl⟩
      have h1 : i ≤ h := by omega
      have h2 : h < j := by omega
      rw [hh]
      have HH := Lib.hid hh
      clear hh
      by_cases ht : a < h * h
      · have hd : decide (a < h * h) = true := by simpa using ht
        rw [hd]
        have HT := Lib.hid (show T1 a h from ht)
        clear ht hd
        go_wp2_with fail
        go_round
        case rel => exact ⟨i, h, hi, h1, by omega, TI.out, .inr HT.out, rfl, rfl⟩
        case measure => simp [intOf]; omega
      · have hd : decide (a < h * h) = false := by simpa using ht
        rw [hd]
        have HT := Lib.hid (show ¬ T1 a h from ht)
        clear ht hd
        go_wp2_with fail
        go_round
        case rel => exact ⟨h + 1, j, by omega, by omega, hj, .inr (by rw [Int.add_sub_cancel]; exact HT.out), TJ.out, rfl, rfl⟩
        case measure => simp [intOf]; omega
    · obtain rfl : i = j := by omega
      go_wp2_with fail
      go_returns
      exact ⟨⟨i, rfl, hi, hj, TI.out, TJ.out⟩, Below.refl _ _⟩

set_option maxHeartbeats 1000000 in
theorem search2_any (a : Int) (B : Nat) (w : World) (hc : w.cell? ⟨B, 1, none⟩ = some (.int .i64 a)) :
    Calls Try.prog 70 #[.int .i64 1048577, .func (.func 72) #[] #[.pointer (some ⟨B, 0, none⟩)]] w fun e w' => SOut (T2 a) e ∧ Below w.heap.size w w' := by
  go_enter Try.func70, Try.ntmps70
  go_wp2_with fail
  go_loop [5, 6] (fun v5 v6 => SHead (T2 a) v5 v6) (fun v5 v6 => (intOf v6 - intOf v5).toNat)
  case atStart => exact ⟨0, 1048577, by omega, by omega, by omega, .inl rfl, .inl rfl, rfl, rfl⟩
  case round =>
    obtain ⟨i, j, hi, hij, hj, ti, tj, rfl, rfl⟩ := hrel
    have TI := Lib.hid ti
    have TJ := Lib.hid tj
    clear ti tj
    by_cases hlt : i < j
    · go_wp2_with fail
      refine (root2_any _ a _ _ (by omega) (by omega) hc).mono ?_
      rintro e w1 ⟨rfl, rfl⟩
      obtain ⟨h, hh⟩ : ∃ h : Int, (i + j) / 2 = h := ⟨_, rfl⟩
      have h1 : i ≤ h := by omega
      have h2 : h < j := by omega
      rw [hh]
      have HH := Lib.hid hh
      clear hh
      by_cases ht : a ≤ h * h
      · have hd : decide (a ≤ h * h) = true := by simpa using ht
        rw [hd]
        have HT := Lib.hid (show T2 a h from ht)
        clear ht hd
        go_wp2_with fail
        go_round
        case rel => exact ⟨i, h, hi, h1, by omega, TI.out, .inr HT.out, rfl, rfl⟩
        case measure => simp [intOf]; omega
      · have hd : decide (a ≤ h * h) = false := by simpa using ht
        rw [hd]
        have HT := Lib.hid (show ¬ T2 a h from ht)
        clear ht hd
        go_wp2_with fail
        go_round
        case rel => exact ⟨h + 1, j, by omega, by omega, hj, .inr (by rw [Int.add_sub_cancel]; exact HT.out), TJ.out, rfl, rfl⟩
        case measure => simp [intOf]; omega
    · obtain rfl : i = j := by omega
      go_wp2_with fail
      go_returns
      exact ⟨⟨i, rfl, hi, hj, TI.out, TJ.out⟩, Below.refl _ _⟩


theorem lo_of {n r : Int} (hn0 : 0 ≤ n) (hn1 : n ≤ 1099511627776) (h0 : 0 ≤ r) (h1 : r ≤ 1048577) (ha : r = 0 ∨ ¬ n < (r - 1) * (r - 1)) (hb : r = 1048577 ∨ n < r * r) : IsLo n (r - 1) := by
  have hlt : n < r * r := by
    rcases hb with rfl | h
    · omega
    · exact h
  rcases ha with rfl | h
  · omega
  · by_cases hr : r = 0
    · subst hr; omega
    · exact ⟨by omega, by omega, by omega, by rw [Int.sub_add_cancel]; exact hlt⟩
theorem hi_of {n r : Int} (hn1 : n ≤ 1099511627776) (h0 : 0 ≤ r) (h1 : r ≤ 1048577) (ha : r = 0 ∨ ¬ n ≤ (r - 1) * (r - 1)) (hb : r = 1048577 ∨ n ≤ r * r) : IsHi n r := by
  refine ⟨h0, h1, ?_, ?_⟩
  · rcases hb with rfl | h
    · omega
    · exact h
  · rcases ha with h | h
    · exact .inl h
    · exact .inr (by omega)

/-- What Root returns. -/
def RootP (lo hi : Int) (e : Ending) : Prop :=
  (validB lo hi = false ∧ e = .returned (.tuple #[sp 0 0, .int .i64 10])) ∨ (validB lo hi = true ∧ lo < 0 ∧ e = .returned (.tuple #[sp 0 0, .int .i64 2])) ∨
  (validB lo hi = true ∧ 0 ≤ lo ∧ ∃ r s : Int, e = .returned (.tuple #[sp r s, .int .i64 0]) ∧ IsLo lo r ∧ IsHi hi s)
theorem RootP.uniq {lo hi : Int} {e e' : Ending} (h : RootP lo hi e) (h' : RootP lo hi e') : e = e' := by
  rcases h with ⟨a, rfl⟩ | ⟨a, b, rfl⟩ | ⟨a, b, r, s, rfl, c, d⟩ <;> rcases h' with ⟨a', rfl⟩ | ⟨a', b', rfl⟩ | ⟨a', b', r', s', rfl, c', d'⟩
  all_goals first | rfl | omega | (rw [c.uniq c', d.uniq d']) | (rw [a] at a'; cases a')

set_option maxHeartbeats 1000000 in
theorem root_any (lo hi : Int) (w : World) :
    Calls Try.prog 31 #[sp lo hi] w fun e w' => RootP lo hi e ∧ Below w.heap.size w w' := by
  go_enter Try.func31, Try.ntmps31
  go_wp2_with fail
  refine (check_any _ _ _).mono ?_
  rintro e w1 ⟨rfl, hb1⟩
  obtain ⟨hB, hc, hf⟩ := after (w := w) (by go_grown) hb1
  have hz : w.heap.size + 1 < w1.heap.size := by have := hb1.size; simp at this; omega
  by_cases hv : validB lo hi = true
  · obtain ⟨v1, v2, v3⟩ := validB_bd hv
    rw [checkN_yes hv]
    have Hv := Lib.hid hv
    clear hv
    by_cases h0 : lo < 0
    · go_wp2_with fail
      exact bodyPost_ret (v := .tuple #[sp 0 0, .int .i64 2]) (by simp [results, Try.results31, go_sem, *]) rfl ⟨.inr (.inl ⟨Hv.out, h0, rfl⟩), by go_grown⟩
    · have c0 : w1.cell? ⟨w.heap.size, 0, none⟩ = some (.int .i64 lo) := by rw [hc _ _ (by simp; omega)]; go_cell
      have c1 : w1.cell? ⟨w.heap.size, 1, none⟩ = some (.int .i64 hi) := by rw [hc _ _ (by simp; omega)]; go_cell
      go_wp2_with fail
      refine (search1_any lo _ _ c0).mono ?_
      rintro e w2 ⟨hso, hb2⟩
      obtain ⟨r, rfl, r0, r1, ra, rb⟩ := hso
      have HL := Lib.hid (lo_of (by omega) (by omega) r0 r1 ra rb)
      clear ra rb hc hf hB
      have c1' := cell_later hb2 c1
      have hbb := two hb1 hb2
      obtain ⟨hB, hc, hf⟩ := after (w := w) (by go_grown) hbb
      clear c0 c1
      go_wp2_with fail
      refine (search2_any hi _ _ c1').mono ?_
      rintro e w3 ⟨hso, hb3⟩
      obtain ⟨s, rfl, s0, s1, sa, sb⟩ := hso
      have HH := Lib.hid (hi_of (by omega) s0 s1 sa sb)
      clear sa sb hc hf hB c1'
      obtain ⟨hB, hc, hf⟩ := after (w := w) (by go_grown) (two hbb hb3)
      go_wp2_with fail
      exact bodyPost_ret (v := .tuple #[sp (r - 1) s, .int .i64 0]) (by simp [results, Try.results31, go_sem, *]) rfl ⟨.inr (.inr ⟨Hv.out, by omega, r - 1, s, rfl, HL.out, HH.out⟩), by go_grown⟩
  · have hv' : validB lo hi = false := by simpa using hv
    rw [checkN_no hv']
    go_wp2_with fail
    exact bodyPost_ret (v := .tuple #[sp 0 0, .int .i64 10]) (by simp [results, Try.results31, go_sem, *]) rfl ⟨.inl ⟨hv', rfl⟩, by go_grown⟩

/-- The reference's loop: of the root all but m bits are known. -/
def QtHead (n : Int) (v3 v4 : Value) : Prop := ∃ (m : Nat) (r : Int), m ≤ 21 ∧ 0 ≤ r ∧ r * r ≤ n ∧ n < (r + 2 ^ m) * (r + 2 ^ m) ∧ v3 = .int .i64 r ∧ v4 = .int .i64 (2 ^ m / 2)

set_option maxHeartbeats 1000000 in
theorem rsqrt_any (n : Int) (w : World) (h0 : 0 ≤ n) (h1 : n ≤ 1099511627776) :
    Calls Try.prog 73 #[.int .i64 n] w fun e w' => (∃ r : Int, e = .returned (.int .i64 r) ∧ IsLo n r) ∧ w = w' := by
  go_enter Try.func73, Try.ntmps73
  go_wp2_with fail
  go_loop [3, 4] (fun v3 v4 => QtHead n v3 v4) (fun _ v4 => (intOf v4).toNat)
  case atStart => exact ⟨21, 0, by omega, by omega, by omega, by omega, rfl, rfl⟩
  case round =>
    obtain ⟨m, r, hm, hr, hlo, hhi, rfl, rfl⟩ := hrel
    have hr1 : r ≤ 1048576 := by
      have : r < 1048577 := sq_lt (by omega) (by omega)
      omega
    rcases m with _ | m
    · have e0 : (2 : Int) ^ 0 / 2 = 0 := by decide
      rw [e0]
      have HI := Lib.hid hhi
      have HL := Lib.hid hlo
      clear hhi hlo
      go_wp2_with fail
      go_returns
      exact ⟨⟨r, rfl, hr, hr1, HL.out, HI.out⟩, rfl⟩
    · rw [pow_half]
      have hb0 := bit_pos m
      have hb1 : (2 : Int) ^ m ≤ 1048576 := by
        have : (2 : Nat) ^ m ≤ 2 ^ 20 := Nat.pow_le_pow_right (by omega) (by omega)
        have e : ((2 ^ m : Nat) : Int) = 2 ^ m := by rw [Int.natCast_pow]; rfl
        omega
      rw [show (2 : Int) ^ (m + 1) = 2 ^ m + 2 ^ m by rw [Int.pow_succ]; omega] at hhi
      obtain ⟨bt, hbt⟩ : ∃ bt : Int, (2 : Int) ^ m = bt := ⟨_, rfl⟩
      rw [hbt] at hb0 hb1 hhi ⊢
      have Hbt := Lib.hid hbt
      obtain ⟨p0, p1⟩ := sq_bd (m := r + bt) (by omega) (by omega)
      obtain ⟨p, hp⟩ : ∃ p : Int, (r + bt) * (r + bt) = p := ⟨_, rfl⟩
      rw [hp] at p0 p1
      have f : IntKind.i64.wrap p = p := IntWalk.i64_in _ ⟨by omega, by omega⟩
      have HI := Lib.hid hhi
      have HL := Lib.hid hlo
      clear hbt hhi hlo
      by_cases ht : p ≤ n
      · go_wp2_with fail
        go_round
        case rel => exact ⟨m, r + bt, by omega, by omega, by rw [hp]; exact ht, by rw [Hbt.out, Int.add_assoc]; exact HI.out, rfl, by rw [Hbt.out]⟩
        case measure => simp [intOf]; omega
      · go_wp2_with fail
        go_round
        case rel => exact ⟨m, r, by omega, hr, HL.out, by rw [Hbt.out, hp]; omega, rfl, by rw [Hbt.out]⟩
        case measure => simp [intOf]; omega

theorem hi_up {n r : Int} (h : IsLo n r) (hlt : r * r < n) : IsHi n (r + 1) := by
  obtain ⟨a, b, c, d⟩ := h
  exact ⟨by omega, by omega, by omega, .inr (by rw [Int.add_sub_cancel]; exact hlt)⟩
theorem hi_same {n r : Int} (h : IsLo n r) (hge : ¬ r * r < n) : IsHi n r := by
  obtain ⟨a, b, c, d⟩ := h
  refine ⟨by omega, by omega, by omega, ?_⟩
  by_cases h0 : r = 0
  · exact .inl h0
  · have e : (r - 1) * (r - 1) = r * r - 2 * r + 1 := by rw [Int.sub_mul, Int.mul_sub, Int.mul_sub]; omega
    exact .inr (by omega)

set_option maxHeartbeats 1000000 in
theorem rroot_any (lo hi : Int) (w : World) :
    Calls Try.prog 32 #[sp lo hi] w fun e w' => RootP lo hi e ∧ Below w.heap.size w w' := by
  go_enter Try.func32, Try.ntmps32
  go_wp2_with fail
  refine (rvalid_any _ _ _).mono ?_
  rintro e w1 ⟨rfl, hb1⟩
  obtain ⟨hB, hc, hf⟩ := after (w := w) (by go_grown) hb1
  have hz : w.heap.size + 1 < w1.heap.size := by have := hb1.size; simp at this; omega
  by_cases hv : validB lo hi = true
  · obtain ⟨v1, v2, v3⟩ := validB_bd hv
    rw [hv]
    have Hv := Lib.hid hv
    clear hv
    by_cases h0 : lo < 0
    · go_wp2_with fail
      exact bodyPost_ret (v := .tuple #[sp 0 0, .int .i64 2]) (by simp [results, Try.results32, go_sem, *]) rfl ⟨.inr (.inl ⟨Hv.out, h0, rfl⟩), by go_grown⟩
    · go_wp2_with fail
      refine (rsqrt_any hi _ (by omega) (by omega)).mono ?_
      rintro e w2 ⟨⟨s, rfl, hs⟩, rfl⟩
      have s0 := hs.1
      have s1 := hs.2.1
      have HS := Lib.hid hs
      clear hs
      obtain ⟨p0, p1⟩ := sq_bd s0 (by omega)
      obtain ⟨p, hp⟩ : ∃ p : Int, s * s = p := ⟨_, rfl⟩
      rw [hp] at p0 p1
      have f : IntKind.i64.wrap p = p := IntWalk.i64_in _ ⟨by omega, by omega⟩
      by_cases ht : p < hi
      · go_wp2_with fail
        refine (rsqrt_any lo _ (by omega) (by omega)).mono ?_
        rintro e w2 ⟨⟨r, rfl, hr⟩, rfl⟩
        have HR := Lib.hid hr
        clear hr
        go_wp2_with fail
        exact bodyPost_ret (v := .tuple #[sp r (s + 1), .int .i64 0]) (by simp [results, Try.results32, go_sem, *]) rfl ⟨.inr (.inr ⟨Hv.out, by omega, r, s + 1, rfl, HR.out, hi_up HS.out (by rw [hp]; exact ht)⟩), by go_grown⟩
      · go_wp2_with fail
        refine (rsqrt_any lo _ (by omega) (by omega)).mono ?_
        rintro e w2 ⟨⟨r, rfl, hr⟩, rfl⟩
        have HR := Lib.hid hr
        clear hr
        go_wp2_with fail
        exact bodyPost_ret (v := .tuple #[sp r s, .int .i64 0]) (by simp [results, Try.results32, go_sem, *]) rfl ⟨.inr (.inr ⟨Hv.out, by omega, r, s, rfl, HR.out, hi_same HS.out (by rw [hp]; omega)⟩), by go_grown⟩
  · have hv' : validB lo hi = false := by simpa using hv
    rw [hv']
    go_wp2_with fail
    exact bodyPost_ret (v := .tuple #[sp 0 0, .int .i64 10]) (by simp [results, Try.results32, go_sem, *]) rfl ⟨.inl ⟨hv', rfl⟩, by go_grown⟩

end Go.Proofs.Ytflgdckeinappaa
