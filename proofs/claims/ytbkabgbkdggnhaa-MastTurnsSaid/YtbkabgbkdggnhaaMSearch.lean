/- Package mast: sort.Search with the code's closures; a number over the root of a square, rounded down and up. -/
import Derived.Test.YtbkabgbkdggnhaaMCheck
namespace Go.Proofs.Ytbkabgbkdggnhaa
open Go.RowKit

/-- What the two tests say. -/
def T1 (n q k : Int) : Prop := n * n < (k + 1) * (k + 1) * q
def T2 (n q k : Int) : Prop := n * n ≤ k * k * q

theorem sq_bd {m b : Int} (h0 : 0 ≤ m) (h1 : m ≤ b) : 0 ≤ m * m ∧ m * m ≤ b * b := ⟨Int.mul_nonneg h0 h0, sq_mono h0 h1⟩
theorem mulq_bd {p q m : Int} (p0 : 0 ≤ p) (p1 : p ≤ m) (q0 : 0 ≤ q) (q1 : q ≤ 2000000) : 0 ≤ p * q ∧ p * q ≤ m * 2000000 :=
  ⟨Int.mul_nonneg p0 q0, Int.mul_le_mul p1 q1 q0 (by omega)⟩

set_option maxHeartbeats 400000 in
theorem down1_any (k n q : Int) (B C : Nat) (w : World) (h0 : 0 ≤ k) (h1 : k ≤ 4000) (n0 : 0 ≤ n) (n1 : n ≤ 4000000) (q0 : 0 ≤ q) (q1 : q ≤ 2000000) (hq : w.cell? ⟨B, 0, none⟩ = some (.int .i64 q)) (hn : w.cell? ⟨C, 0, none⟩ = some (.int .i64 n)) :
    Calls Try.prog 105 #[.int .i64 k, .pointer (some ⟨B, 0, none⟩), .pointer (some ⟨C, 0, none⟩)] w fun e w' => (∃ u, e = .returned (.bool u) ∧ (u = true ↔ T1 n q k)) ∧ w = w' := by
  unfold T1
  obtain ⟨p0, p1⟩ := sq_bd (m := k + 1) (b := 4001) (by omega) (by omega)
  obtain ⟨p, hp⟩ : ∃ p, (k + 1) * (k + 1) = p := ⟨_, rfl⟩
  rw [hp] at p0 p1 ⊢
  obtain ⟨r0, r1⟩ := mulq_bd p0 p1 q0 q1
  obtain ⟨r, hr⟩ : ∃ r, p * q = r := ⟨_, rfl⟩
  rw [hr] at r0 r1 ⊢
  obtain ⟨s0, s1⟩ := sq_bd n0 n1
  obtain ⟨s, hs⟩ : ∃ s, n * n = s := ⟨_, rfl⟩
  rw [hs] at s0 s1 ⊢
  have f : IntKind.i64.wrap p = p := IntWalk.i64_in _ ⟨by omega, by omega⟩
  have f2 : IntKind.i64.wrap r = r := IntWalk.i64_in _ ⟨by omega, by omega⟩
  have f3 : IntKind.i64.wrap s = s := IntWalk.i64_in _ ⟨by omega, by omega⟩
  go_enter Try.func105, Try.ntmps105
  go_wp2_with fail
  go_returns
  exact ⟨⟨_, rfl, by simp⟩, rfl⟩
set_option maxHeartbeats 400000 in
theorem up1_any (k n q : Int) (B C : Nat) (w : World) (h0 : 0 ≤ k) (h1 : k ≤ 4000) (n0 : 0 ≤ n) (n1 : n ≤ 4000000) (q0 : 0 ≤ q) (q1 : q ≤ 2000000) (hq : w.cell? ⟨B, 0, none⟩ = some (.int .i64 q)) (hn : w.cell? ⟨C, 0, none⟩ = some (.int .i64 n)) :
    Calls Try.prog 106 #[.int .i64 k, .pointer (some ⟨B, 0, none⟩), .pointer (some ⟨C, 0, none⟩)] w fun e w' => (∃ u, e = .returned (.bool u) ∧ (u = true ↔ T2 n q k)) ∧ w = w' := by
  unfold T2
  obtain ⟨p0, p1⟩ := sq_bd (m := k) (b := 4001) (by omega) (by omega)
  obtain ⟨p, hp⟩ : ∃ p, k * k = p := ⟨_, rfl⟩
  rw [hp] at p0 p1 ⊢
  obtain ⟨r0, r1⟩ := mulq_bd p0 p1 q0 q1
  obtain ⟨r, hr⟩ : ∃ r, p * q = r := ⟨_, rfl⟩
  rw [hr] at r0 r1 ⊢
  obtain ⟨s0, s1⟩ := sq_bd n0 n1
  obtain ⟨s, hs⟩ : ∃ s, n * n = s := ⟨_, rfl⟩
  rw [hs] at s0 s1 ⊢
  have f : IntKind.i64.wrap p = p := IntWalk.i64_in _ ⟨by omega, by omega⟩
  have f2 : IntKind.i64.wrap r = r := IntWalk.i64_in _ ⟨by omega, by omega⟩
  have f3 : IntKind.i64.wrap s = s := IntWalk.i64_in _ ⟨by omega, by omega⟩
  go_enter Try.func106, Try.ntmps106
  go_wp2_with fail
  go_returns
  exact ⟨⟨_, rfl, by simp⟩, rfl⟩

/-- The search's head: below i the test says no, from j on it says yes. -/
def SHead (t : Int → Prop) (v5 v6 : Value) : Prop := ∃ i j : Int, 0 ≤ i ∧ i ≤ j ∧ j ≤ 4000 ∧ (i = 0 ∨ ¬ t (i - 1)) ∧ (j = 4000 ∨ t j) ∧ v5 = .int .i64 i ∧ v6 = .int .i64 j
/-- What the search returns. -/
def SOut (t : Int → Prop) (e : Ending) : Prop := ∃ r : Int, e = .returned (.int .i64 r) ∧ 0 ≤ r ∧ r ≤ 4000 ∧ (r = 0 ∨ ¬ t (r - 1)) ∧ (r = 4000 ∨ t r)

set_option maxHeartbeats 1000000 in
theorem search1_any (t : Int → Prop) (B C : Nat) (w : World)
    (ht : ∀ m : Int, 0 ≤ m → m ≤ 4000 → Calls Try.prog 105 #[.int .i64 m, .pointer (some ⟨B, 0, none⟩), .pointer (some ⟨C, 0, none⟩)] w fun e w' => (∃ u, e = .returned (.bool u) ∧ (u = true ↔ t m)) ∧ w = w') :
    Calls Try.prog 104 #[.int .i64 4000, .func (.func 105) #[] #[.pointer (some ⟨B, 0, none⟩), .pointer (some ⟨C, 0, none⟩)]] w fun e w' => SOut t e ∧ w = w' := by
  have HT := Lib.hid ht
  clear ht
  go_enter Try.func104, Try.ntmps104
  go_wp2_with fail
  go_loop [5, 6] (fun v5 v6 => SHead t v5 v6) (fun v5 v6 => (intOf v6 - intOf v5).toNat)
  case atStart => exact ⟨0, 4000, by omega, by omega, by omega, .inl rfl, .inl rfl, rfl, rfl⟩
  case round =>
    obtain ⟨i, j, hi, hij, hj, ti, tj, rfl, rfl⟩ := hrel
    have TI := Lib.hid ti
    have TJ := Lib.hid tj
    clear ti tj
    by_cases hlt : i < j
    · go_wp2_with fail
      refine (HT.out _ (by omega) (by omega)).mono ?_
      rintro e w1 ⟨⟨u, rfl, hu⟩, rfl⟩
      obtain ⟨h, hh⟩ : ∃ h : Int, (i + j) / 2 = h := ⟨_, rfl⟩
      have h1 : i ≤ h := by omega
      have h2 : h < j := by omega
      rw [hh] at hu ⊢
      have HH := Lib.hid hh
      have HU := Lib.hid hu
      clear hh hu
      cases u
      · go_wp2_with fail
        go_round
        case rel => exact ⟨h + 1, j, by omega, by omega, hj, .inr (by rw [Int.add_sub_cancel]; intro hx; have := HU.out.2 hx; cases this), TJ.out, rfl, rfl⟩
        case measure => simp [intOf]; omega
      · go_wp2_with fail
        go_round
        case rel => exact ⟨i, h, hi, h1, by omega, TI.out, .inr (HU.out.1 (by trivial)), rfl, rfl⟩
        case measure => simp [intOf]; omega
    · obtain rfl : i = j := by omega
      go_wp2_with fail
      go_returns
      exact ⟨⟨i, rfl, hi, hj, TI.out, TJ.out⟩, rfl⟩
set_option maxHeartbeats 1000000 in
theorem search2_any (t : Int → Prop) (B C : Nat) (w : World)
    (ht : ∀ m : Int, 0 ≤ m → m ≤ 4000 → Calls Try.prog 106 #[.int .i64 m, .pointer (some ⟨B, 0, none⟩), .pointer (some ⟨C, 0, none⟩)] w fun e w' => (∃ u, e = .returned (.bool u) ∧ (u = true ↔ t m)) ∧ w = w') :
    Calls Try.prog 104 #[.int .i64 4000, .func (.func 106) #[] #[.pointer (some ⟨B, 0, none⟩), .pointer (some ⟨C, 0, none⟩)]] w fun e w' => SOut t e ∧ w = w' := by
  have HT := Lib.hid ht
  clear ht
  go_enter Try.func104, Try.ntmps104
  go_wp2_with fail
  go_loop [5, 6] (fun v5 v6 => SHead t v5 v6) (fun v5 v6 => (intOf v6 - intOf v5).toNat)
  case atStart => exact ⟨0, 4000, by omega, by omega, by omega, .inl rfl, .inl rfl, rfl, rfl⟩
  case round =>
    obtain ⟨i, j, hi, hij, hj, ti, tj, rfl, rfl⟩ := hrel
    have TI := Lib.hid ti
    have TJ := Lib.hid tj
    clear ti tj
    by_cases hlt : i < j
    · go_wp2_with fail
      refine (HT.out _ (by omega) (by omega)).mono ?_
      rintro e w1 ⟨⟨u, rfl, hu⟩, rfl⟩
      obtain ⟨h, hh⟩ : ∃ h : Int, (i + j) / 2 = h := ⟨_, rfl⟩
      have h1 : i ≤ h := by omega
      have h2 : h < j := by omega
      rw [hh] at hu ⊢
      have HH := Lib.hid hh
      have HU := Lib.hid hu
      clear hh hu
      cases u
      · go_wp2_with fail
        go_round
        case rel => exact ⟨h + 1, j, by omega, by omega, hj, .inr (by rw [Int.add_sub_cancel]; intro hx; have := HU.out.2 hx; cases this), TJ.out, rfl, rfl⟩
        case measure => simp [intOf]; omega
      · go_wp2_with fail
        go_round
        case rel => exact ⟨i, h, hi, h1, by omega, TI.out, .inr (HU.out.1 (by trivial)), rfl, rfl⟩
        case measure => simp [intOf]; omega
    · obtain rfl : i = j := by omega
      go_wp2_with fail
      go_returns
      exact ⟨⟨i, rfl, hi, hj, TI.out, TJ.out⟩, rfl⟩

theorem dn_of {n q r : Int} (hc : n * n < 4000 * 4000 * q) (h0 : 0 ≤ r) (h1 : r ≤ 4000) (ha : r = 0 ∨ ¬ T1 n q (r - 1)) (hb : r = 4000 ∨ T1 n q r) : IsDn n q r := by
  unfold T1 at ha hb
  rw [Int.sub_add_cancel] at ha
  have hx : r * r * q ≤ n * n := by
    rcases ha with rfl | h
    · have := sq_nonneg n; simpa using this
    · omega
  refine ⟨h0, hx, ?_⟩
  rcases hb with rfl | h
  · omega
  · exact h
theorem up_of {n q r : Int} (hc : n * n < 4000 * 4000 * q) (h0 : 0 ≤ r) (ha : r = 0 ∨ ¬ T2 n q (r - 1)) (hb : r = 4000 ∨ T2 n q r) : IsUp n q r := by
  unfold T2 at ha hb
  refine ⟨h0, ?_, ?_⟩
  · rcases hb with rfl | h
    · omega
    · exact h
  · rcases ha with h | h
    · exact .inl h
    · exact .inr (by omega)

set_option maxHeartbeats 1000000 in
theorem down_any (n q : Int) (w : World) (n0 : 0 ≤ n) (n1 : n ≤ 4000000) (q0 : 0 ≤ q) (q1 : q ≤ 2000000) (hc : n * n < 4000 * 4000 * q) :
    Calls Try.prog 88 #[.int .i64 n, .int .i64 q] w fun e w' => (∃ r, e = .returned (.int .i64 r) ∧ IsDn n q r ∧ r ≤ 4000) ∧ Below w.heap.size w w' := by
  have HC := Lib.hid hc
  clear hc
  go_enter Try.func88, Try.ntmps88
  go_wp2_with fail
  refine (search1_any (T1 n q) _ _ _ (fun m m0 m1 => down1_any m n q _ _ _ m0 m1 n0 n1 q0 q1 (by go_cell) (by go_cell))).mono ?_
  rintro e w1 ⟨⟨r, rfl, r0, r1, ra, rb⟩, rfl⟩
  have HR := Lib.hid (dn_of HC.out r0 r1 ra rb)
  clear ra rb
  go_wp2_with fail
  go_returns
  exact ⟨⟨r, rfl, HR.out, r1⟩, by go_grown⟩
set_option maxHeartbeats 1000000 in
theorem up_any (n q : Int) (w : World) (n0 : 0 ≤ n) (n1 : n ≤ 4000000) (q0 : 0 ≤ q) (q1 : q ≤ 2000000) (hc : n * n < 4000 * 4000 * q) :
    Calls Try.prog 89 #[.int .i64 n, .int .i64 q] w fun e w' => (∃ r, e = .returned (.int .i64 r) ∧ IsUp n q r ∧ r ≤ 4000) ∧ Below w.heap.size w w' := by
  have HC := Lib.hid hc
  clear hc
  go_enter Try.func89, Try.ntmps89
  go_wp2_with fail
  refine (search2_any (T2 n q) _ _ _ (fun m m0 m1 => up1_any m n q _ _ _ m0 m1 n0 n1 q0 q1 (by go_cell) (by go_cell))).mono ?_
  rintro e w1 ⟨⟨r, rfl, r0, r1, ra, rb⟩, rfl⟩
  have HR := Lib.hid (up_of HC.out r0 ra rb)
  clear ra rb
  go_wp2_with fail
  go_returns
  exact ⟨⟨r, rfl, HR.out, r1⟩, by go_grown⟩
end Go.Proofs.Ytbkabgbkdggnhaa
