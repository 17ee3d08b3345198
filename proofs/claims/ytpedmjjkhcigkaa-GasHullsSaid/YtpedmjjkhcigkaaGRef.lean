/- The reference of layer 3: what is valid, floors, and what amounts and temperatures come to. -/
import Derived.Test.YtpedmjjkhcigkaaGCheck
namespace Go.Proofs.Ytpedmjjkhcigkaa
open Go.RowKit

set_option maxHeartbeats 400000 in
theorem rwithin_any (n lo hi : Int) (w : World) :
    Calls Try.prog 97 #[.int .i64 n, .int .i64 lo, .int .i64 hi] w fun e w' => e = .returned (.bool (inB n lo hi)) ∧ w = w' := by
  go_enter Try.func97, Try.ntmps97
  go_wp2
  all_goals (go_returns; exact ⟨ret_bool (by unfold inB; simp; omega), rfl⟩)
set_option maxHeartbeats 400000 in
theorem rspanned_any (a b lo hi : Int) (w : World) :
    Calls Try.prog 115 #[sp a b, .int .i64 lo, .int .i64 hi] w fun e w' => e = .returned (.bool (spB a b lo hi)) ∧ Below w.heap.size w w' := by
  go_enter Try.func115, Try.ntmps115
  go_wp2
  all_goals (go_returns; exact ⟨ret_bool (by unfold spB; rw [Bool.eq_iff_iff]; simp; try omega), by go_grown⟩)
set_option maxHeartbeats 400000 in
theorem rTemp_any (a b : Int) (w : World) : Calls Try.prog 86 #[sp a b] w fun e w' => e = .returned (.bool (spB a b 1500 3500)) ∧ Below w.heap.size w w' := by
  go_enter Try.func86, Try.ntmps86
  go_wp2_with fail
  refine (rspanned_any a b 1500 3500 _).mono ?_
  rintro e w1 ⟨rfl, hb1⟩
  obtain ⟨hB, hc, hf⟩ := after (w := w) (by go_grown) hb1
  obtain ⟨u, hu⟩ : ∃ u, spB a b 1500 3500 = u := ⟨_, rfl⟩
  rw [hu]
  go_wp2_with fail
  go_returns
  exact ⟨ret_bool hu.symm, hB⟩
set_option maxHeartbeats 400000 in
theorem rwarm_any (a b : Int) (w : World) : Calls Try.prog 129 #[sp a b] w fun e w' => e = .returned (.bool (spB a b (-300) 300)) ∧ Below w.heap.size w w' := by
  go_enter Try.func129, Try.ntmps129
  go_wp2_with fail
  refine (rspanned_any a b (-300) 300 _).mono ?_
  rintro e w1 ⟨rfl, hb1⟩
  obtain ⟨hB, hc, hf⟩ := after (w := w) (by go_grown) hb1
  obtain ⟨u, hu⟩ : ∃ u, spB a b (-300) 300 = u := ⟨_, rfl⟩
  rw [hu]
  go_wp2_with fail
  go_returns
  exact ⟨ret_bool hu.symm, hB⟩

set_option maxHeartbeats 1000000 in
theorem rAir_any (p0 p1 t0 t1 : Int) (w : World) : Calls Try.prog 77 #[airV p0 p1 t0 t1] w fun e w' => e = .returned (.bool (airB p0 p1 t0 t1)) ∧ Below w.heap.size w w' := by
  go_enter Try.func77, Try.ntmps77
  go_wp2_with fail
  refine (rspanned_any p0 p1 1000 12000 _).mono ?_
  rintro e w1 ⟨rfl, hb1⟩
  have hB : Below w.heap.size w w1 := (after (w := w) (by go_grown) hb1).1
  have k1 : Four w1 w.heap.size p0 p1 t0 t1 := Four.later ⟨by go_cell, by go_cell, by go_cell, by go_cell⟩ hb1
  have c2 := k1.c2
  have c3 := k1.c3
  clear k1 hb1
  by_cases h1 : spB p0 p1 1000 12000 = true
  · rw [h1]
    have H1 := Lib.hid h1
    clear h1
    go_wp2_with fail
    refine (rTemp_any t0 t1 _).mono ?_
    rintro e w2 ⟨rfl, hb2⟩
    have hB2 : Below w.heap.size w w2 := (after (w := w) (by go_grown) hb2).1
    clear hb2 hB c2 c3
    obtain ⟨u, hu⟩ : ∃ u, spB t0 t1 1500 3500 = u := ⟨_, rfl⟩
    rw [hu]
    have HU := Lib.hid hu
    clear hu
    go_wp2_with fail
    go_returns
    exact ⟨ret_bool (by unfold airB; rw [H1.out, HU.out]; simp), by go_grown⟩
  · have h1' : spB p0 p1 1000 12000 = false := by simpa using h1
    rw [h1']
    have H1 := Lib.hid h1'
    clear h1 h1' c2 c3
    go_wp2_with fail
    go_returns
    exact ⟨ret_bool (by unfold airB; rw [H1.out]; simp), by go_grown⟩
set_option maxHeartbeats 1000000 in
theorem rCheckAir_any (p0 p1 t0 t1 : Int) (w : World) : Calls Try.prog 20 #[airV p0 p1 t0 t1] w fun e w' => e = .returned (.int .i64 (airN p0 p1 t0 t1)) ∧ Below w.heap.size w w' := by
  go_enter Try.func20, Try.ntmps20
  go_wp2_with fail
  refine (rAir_any p0 p1 t0 t1 _).mono ?_
  rintro e w1 ⟨rfl, hb1⟩
  have hB : Below w.heap.size w w1 := (after (w := w) (by go_grown) hb1).1
  clear hb1
  by_cases h1 : airB p0 p1 t0 t1 = true
  · rw [h1]
    go_wp2_with fail
    go_returns
    exact ⟨ret_int (by unfold airN; rw [h1]; rfl), by go_grown⟩
  · have h1' : airB p0 p1 t0 t1 = false := by simpa using h1
    rw [h1']
    go_wp2_with fail
    go_returns
    exact ⟨ret_int (by unfold airN; rw [h1']; rfl), by go_grown⟩

theorem div_unique {n z q : Int} (hz : 0 < z) (h1 : q * z ≤ n) (h2 : n < q * z + z) : n / z = q := by
  have a : q ≤ n / z := by rw [Int.le_ediv_iff_mul_le hz]; omega
  have b : n / z < q + 1 := by rw [Int.ediv_lt_iff_lt_mul hz, Int.add_mul, Int.one_mul]; omega
  omega
theorem tdiv_floor (n d : Int) (hd : 0 < d) : n / d = if n.tmod d < 0 then n.tdiv d - 1 else n.tdiv d := by
  have e := Int.tmod_add_mul_tdiv n d
  rw [Int.mul_comm] at e
  have ha : (n.tmod d).natAbs < d.natAbs := by rw [Int.natAbs_tmod]; exact Nat.mod_lt _ (by omega)
  have hlt : n.tmod d < d := by omega
  have hgt : -d < n.tmod d := by omega
  split
  · apply div_unique hd
    · rw [Int.sub_mul, Int.one_mul]; generalize n.tdiv d * d = X at *; omega
    · rw [Int.sub_mul, Int.one_mul]; generalize n.tdiv d * d = X at *; omega
  · apply div_unique hd
    · generalize n.tdiv d * d = X at *; omega
    · generalize n.tdiv d * d = X at *; omega
theorem tdiv_floor2 (n d : Int) (hd : 0 < d) : n / d = if n < n.tdiv d * d then n.tdiv d - 1 else n.tdiv d := by
  rw [tdiv_floor n d hd]
  have e := Int.tmod_add_mul_tdiv n d
  rw [Int.mul_comm] at e
  generalize n.tdiv d * d = X at *
  by_cases h : n.tmod d < 0
  · rw [if_pos h, if_pos (by omega)]
  · rw [if_neg h, if_neg (by omega)]
theorem tdiv_bd (n d : Int) (h0 : -4611686018427387904 ≤ n) (h1 : n ≤ 4611686018427387904) : -4611686018427387904 ≤ n.tdiv d ∧ n.tdiv d ≤ 4611686018427387904 := by
  have h := Int.natAbs_tdiv_le_natAbs n d
  omega
theorem tdivmul_bd (n d : Int) (h0 : -4611686018427387904 ≤ n) (h1 : n ≤ 4611686018427387904) : -4611686018427387904 ≤ n.tdiv d * d ∧ n.tdiv d * d ≤ 4611686018427387904 := by
  have h := Int.natAbs_tmod n d
  have e := Int.tmod_add_mul_tdiv n d
  rw [Int.mul_comm] at e
  by_cases hd : d = 0
  · subst hd; simp
  · have h2 : n.natAbs % d.natAbs ≤ n.natAbs := Nat.mod_le _ _
    have h3 : 0 ≤ n → 0 ≤ n.tmod d := fun h => Int.tmod_nonneg _ h
    have h4 : n ≤ 0 → n.tmod d ≤ 0 := fun h => by
      have := Int.tmod_nonneg d (a := -n) (by omega)
      rw [Int.neg_tmod] at this
      omega
    generalize n.tdiv d * d = X at *
    rcases Int.le_total 0 n with hn | hn
    · have := h3 hn; omega
    · have := h4 hn; omega

set_option maxHeartbeats 400000 in
theorem rfloor_any (n d : Int) (w : World) (hd : 1 ≤ d) (hd1 : d ≤ 4611686018427387904) (h0 : -4611686018427387904 ≤ n) (h1 : n ≤ 4611686018427387904) :
    Calls Try.prog 70 #[.int .i64 n, .int .i64 d] w fun e w' => e = .returned (.int .i64 (fl n d)) ∧ w = w' := by
  obtain ⟨b0, b1⟩ := tdiv_bd n d h0 h1
  obtain ⟨m0, m1⟩ := tdivmul_bd n d h0 h1
  have hf := tdiv_floor2 n d (by omega)
  unfold fl
  obtain ⟨f, hfl⟩ : ∃ x : Int, n / d = x := ⟨_, rfl⟩
  rw [hfl] at hf ⊢
  have HF := Lib.hid hf
  have Hfl := Lib.hid hfl
  clear hf hfl
  go_enter Try.func70, Try.ntmps70
  go_wp2
  all_goals (go_returns; exact ⟨ret_int (by rw [HF.out]; split <;> omega), rfl⟩)
set_option maxHeartbeats 400000 in
theorem rceil_any (n d : Int) (w : World) (hd : 1 ≤ d) (hd1 : d ≤ 4611686018427387904) (h0 : -4611686018427387904 ≤ n) (h1 : n ≤ 4611686018427387904) :
    Calls Try.prog 72 #[.int .i64 n, .int .i64 d] w fun e w' => e = .returned (.int .i64 (cl n d)) ∧ w = w' := by
  have hf : -4611686018427387905 ≤ fl (-n) d ∧ fl (-n) d ≤ 4611686018427387904 := by
    obtain ⟨b0, b1⟩ := tdiv_bd (-n) d (by omega) (by omega)
    unfold fl
    rw [tdiv_floor (-n) d (by omega)]
    split <;> omega
  have e1 : cl n d = -fl (-n) d := rfl
  rw [e1]
  obtain ⟨f, hff⟩ : ∃ x : Int, fl (-n) d = x := ⟨_, rfl⟩
  rw [hff] at hf ⊢
  have HF := Lib.hid hff
  clear hff e1
  go_enter Try.func72, Try.ntmps72
  go_wp2_with fail
  refine (rfloor_any (-n) d _ hd hd1 (by omega) (by omega)).mono ?_
  rintro e w1 ⟨rfl, rfl⟩
  rw [HF.out]
  go_wp2_with fail
  go_returns
  exact ⟨rfl, rfl⟩
set_option maxHeartbeats 400000 in
theorem rheat_any (t0 t1 w0 w1 : Int) (w : World) (h1 : -1000000 ≤ t0) (h2 : t0 ≤ 1000000) (h3 : -1000000 ≤ t1) (h4 : t1 ≤ 1000000) (h5 : -1000000 ≤ w0) (h6 : w0 ≤ 1000000) (h7 : -1000000 ≤ w1) (h8 : w1 ≤ 1000000) :
    Calls Try.prog 69 #[sp t0 t1, sp w0 w1] w fun e w' => e = .returned (sp (t0 + w0) (t1 + w1)) ∧ Below w.heap.size w w' := by
  go_enter Try.func69, Try.ntmps69
  go_wp2_with fail
  exact bodyPost_ret (v := sp (t0 + w0) (t1 + w1)) (by simp [results, Try.results69, go_sem, *]) rfl ⟨rfl, by go_grown⟩
set_option maxHeartbeats 400000 in
theorem ramount_any (rm he ar w0 w1 lk ow : Int) (w : World) (h0 : 0 ≤ he) (h1 : he ≤ 10000000) (h2 : 0 ≤ ar) (h3 : ar ≤ 10000000) :
    Calls Try.prog 71 #[cellV rm he ar w0 w1 lk ow] w fun e w' => e = .returned (.int .i64 (he + ar)) ∧ Below w.heap.size w w' := by
  go_enter Try.func71, Try.ntmps71
  go_wp2_with fail
  go_returns
  exact ⟨rfl, by go_grown⟩
end Go.Proofs.Ytpedmjjkhcigkaa
