/- Package air: square, perRoot, Speed, Along; the reference's squares, part, Speed, Along. -/
import Derived.Test.YtflgdckeinappaaSpMath
import Derived.Test.YtflgdckeinappaaSpWind
import Derived.Test.YtflgdckeinappaaTail2
namespace Go.Proofs.Ytflgdckeinappaa
open Go.RowKit

theorem mulE_small {a b c d : Int} (h1 : validB a b = true) (h2 : validB c d = true) (hl : -1099511627776 ≤ lo4 a b c d) (hh : hi4 a b c d ≤ 1099511627776) : mulE a b c d = .returned (.tuple #[sp (lo4 a b c d) (hi4 a b c d), .int .i64 0]) := by
  unfold mulE if2
  rw [if_pos (by rw [allValid2, h1, h2]; rfl), tD_one, tU_one]
  exact fitE_yes (by unfold fitB; simp; omega)
theorem validB_yes {a b : Int} (h : a ≤ b) (h0 : -1099511627776 ≤ a) (h1 : b ≤ 1099511627776) : validB a b = true := by unfold validB; simp; omega
theorem lo4_lim {a b c d : Int} (ha0 : -2000 ≤ a) (ha1 : a ≤ 2000) (hb0 : -2000 ≤ b) (hb1 : b ≤ 2000) (hc0 : -10000 ≤ c) (hc1 : c ≤ 10000) (hd0 : -10000 ≤ d) (hd1 : d ≤ 10000) :
    -20000000 ≤ lo4 a b c d ∧ lo4 a b c d ≤ 20000000 ∧ -20000000 ≤ hi4 a b c d ∧ hi4 a b c d ≤ 20000000 := by
  have h1 := mul_lim ha0 ha1 hc0 hc1
  have h2 := mul_lim hb0 hb1 hc0 hc1
  have h3 := mul_lim ha0 ha1 hd0 hd1
  have h4 := mul_lim hb0 hb1 hd0 hd1
  unfold lo4 hi4
  omega

set_option maxHeartbeats 1000000 in
theorem square_any (a b : Int) (w : World) (h0 : -2000 ≤ a) (h1 : a ≤ b) (h2 : b ≤ 2000) :
    Calls Try.prog 93 #[sp a b] w fun e w' => e = .returned (sp (near a b * near a b) (far a b * far a b)) ∧ Below w.heap.size w w' := by
  have hv : validB a b = true := validB_yes h1 (by omega) (by omega)
  obtain ⟨s1, s2⟩ := sq_parts h1
  obtain ⟨l0, l1, l2, l3⟩ := lo4_lim (a := a) (b := b) (c := a) (d := b) h0 (by omega) (by omega) h2 (by omega) (by omega) (by omega) (by omega)
  have hm := mulE_small hv hv (by omega) (by omega)
  obtain ⟨L, hL⟩ : ∃ L, lo4 a b a b = L := ⟨_, rfl⟩
  obtain ⟨H, hH⟩ : ∃ H, hi4 a b a b = H := ⟨_, rfl⟩
  rw [hL] at s1 l0 l1 hm
  rw [hH] at s2 l2 l3 hm
  rw [← s1, ← s2]
  have HM := Lib.hid hm
  clear hm hL hH s1 s2 hv
  go_enter Try.func93, Try.ntmps93
  go_wp2_with fail
  refine (mul_is a b a b _).mono ?_
  rintro e w1 ⟨rfl, hb1⟩
  rw [HM.out]
  obtain ⟨hB, hc, hf⟩ := after (w := w) (by go_grown) hb1
  have hz : w.heap.size + 1 < w1.heap.size := by have := hb1.size; simp at this; omega
  have r0 : w1.cell? ⟨w.heap.size + 1, 0, none⟩ = some (.int .i64 0) := by rw [hc _ _ (by simp)]; go_cell
  have r1 : w1.cell? ⟨w.heap.size + 1, 1, none⟩ = some (.int .i64 0) := by rw [hc _ _ (by simp)]; go_cell
  have rf0 : w1.frozen? ⟨w.heap.size + 1, 0, none⟩ = false := by rw [hf _ _ (by simp)]; go_cell
  have rf1 : w1.frozen? ⟨w.heap.size + 1, 1, none⟩ = false := by rw [hf _ _ (by simp)]; go_cell
  go_wp2_with fail
  exact bodyPost_ret (v := sp (max L 0) H) (by simp [results, Try.results93, go_sem, *]) rfl ⟨rfl, by go_grown⟩

/-- What perRoot returns. -/
def PerP (n q : Int) (e : Ending) : Prop := ∃ r s : Int, e = .returned (sp (if n < 0 then -s else r) (if n < 0 then -r else s)) ∧ IsLo (n * n / q) r ∧ IsHi (cdiv (n * n) q) s
theorem over_same {n q : Int} (hn0 : -40000000 ≤ n) (hn1 : n ≤ 40000000) (hq0 : 1 ≤ q) (hq1 : q ≤ 1099511627776) (hb : n * n ≤ 8000000 * q) :
    overE n n n n q q = .returned (.tuple #[sp (n * n / q) (cdiv (n * n) q), .int .i64 0]) ∧ 0 ≤ n * n / q ∧ n * n / q ≤ cdiv (n * n) q ∧ cdiv (n * n) q ≤ 8000000 := by
  have h0 : 0 ≤ n * n / q := Int.ediv_nonneg (sq_nn n) (by omega)
  have h1 := cdiv_ge (n * n) q
  have h2 : cdiv (n * n) q ≤ 8000000 := cdiv_le hq0 hb
  refine ⟨?_, h0, h1, h2⟩
  have v1 : validB n n = true := validB_yes (by omega) (by omega) (by omega)
  have v2 : validB q q = true := validB_yes (by omega) (by omega) (by omega)
  unfold overE
  rw [if3_yes (by rw [allValid3, v1, v2]; rfl) (by omega), tD_same, tU_same]
  exact fitE_yes (by unfold fitB fl ce; simp; omega)

set_option maxHeartbeats 1000000 in
theorem perRoot_any (n q : Int) (w : World) (hn0 : -40000000 ≤ n) (hn1 : n ≤ 40000000) (hq0 : 1 ≤ q) (hq1 : q ≤ 1099511627776) (hb : n * n ≤ 8000000 * q) :
    Calls Try.prog 98 #[.int .i64 n, .int .i64 q] w fun e w' => PerP n q e ∧ Below w.heap.size w w' := by
  obtain ⟨ho, d0, d1, d2⟩ := over_same hn0 hn1 hq0 hq1 hb
  have HP : Hid (∀ r s : Int, IsLo (n * n / q) r → IsHi (cdiv (n * n) q) s → PerP n q (.returned (sp (if n < 0 then -s else r) (if n < 0 then -r else s)))) := Lib.hid (fun r s h k => ⟨r, s, rfl, h, k⟩)
  obtain ⟨D, hD⟩ : ∃ D, n * n / q = D := ⟨_, rfl⟩
  obtain ⟨U, hU⟩ : ∃ U, cdiv (n * n) q = U := ⟨_, rfl⟩
  rw [hD] at ho d0 d1 HP
  rw [hU] at ho d1 d2 HP
  have HO := Lib.hid ho
  clear ho hD hU hb
  go_enter Try.func98, Try.ntmps98
  go_wp2_with fail
  refine (only_any n _).mono ?_
  rintro e w1 ⟨rfl, hb1⟩
  have hz1 := hb1.size
  simp at hz1
  have hB1 : Below w.heap.size w w1 := (after (w := w) (by go_grown) hb1).1
  have r0 : w1.cell? ⟨w.heap.size, 0, none⟩ = some (.int .i64 0) := by rw [(bcell hb1).1 _ _ (by simp)]; go_cell
  have r1 : w1.cell? ⟨w.heap.size, 1, none⟩ = some (.int .i64 0) := by rw [(bcell hb1).1 _ _ (by simp)]; go_cell
  have rf0 : w1.frozen? ⟨w.heap.size, 0, none⟩ = false := by rw [(bcell hb1).2 _ _ (by simp)]; go_cell
  have rf1 : w1.frozen? ⟨w.heap.size, 1, none⟩ = false := by rw [(bcell hb1).2 _ _ (by simp)]; go_cell
  clear hb1
  go_wp2_with fail
  refine (only_any n _).mono ?_
  rintro e w2 ⟨rfl, hb2⟩
  go_wp2_with fail
  refine (only_any q _).mono ?_
  rintro e w3 ⟨rfl, hb3⟩
  go_wp2_with fail
  refine (over_is n n n n q q _).mono ?_
  rintro e w4 ⟨rfl, hb4⟩
  rw [HO.out]
  have hbb := two (two hb2 hb3) hb4
  have hB4 : Below w.heap.size w w4 := (after (w := w) hB1 hbb).1
  have hz4 : w.heap.size < w4.heap.size := by have := hbb.size; omega
  replace r0 := cell_later hbb r0
  replace r1 := cell_later hbb r1
  replace rf0 := ((bcell hbb).2 _ 0 (by omega)).trans rf0
  replace rf1 := ((bcell hbb).2 _ 1 (by omega)).trans rf1
  clear hb2 hb3 hb4 hbb hB1 hz1 HO
  go_wp2_with fail
  refine (root_any D U _).mono ?_
  rintro e w5 ⟨hr, hb5⟩
  have hB5 : Below w.heap.size w w5 := (after (w := w) (by go_grown) hb5).1
  have hz5 : w.heap.size + 1 < w5.heap.size := by have := hb5.size; simp at this; omega
  have hz6 : w.heap.size < w5.heap.size := by omega
  have s0 : w5.cell? ⟨w.heap.size, 0, none⟩ = some (.int .i64 0) := by rw [(bcell hb5).1 _ _ (by simp; omega)]; go_cell
  have s1 : w5.cell? ⟨w.heap.size, 1, none⟩ = some (.int .i64 0) := by rw [(bcell hb5).1 _ _ (by simp; omega)]; go_cell
  have sf0 : w5.frozen? ⟨w.heap.size, 0, none⟩ = false := by rw [(bcell hb5).2 _ _ (by simp; omega)]; go_cell
  have sf1 : w5.frozen? ⟨w.heap.size, 1, none⟩ = false := by rw [(bcell hb5).2 _ _ (by simp; omega)]; go_cell
  clear r0 r1 rf0 rf1 hB4 hz4 hb5
  have hvd : validB D U = true := validB_yes d1 (by omega) (by omega)
  rcases hr with ⟨hv, _⟩ | ⟨_, hl, _⟩ | ⟨_, _, r, s, rfl, hlo, hhi⟩
  · rw [hvd] at hv; cases hv
  · omega
  · have h0 := hlo.1
    have h1 := hlo.2.1
    have h2 := hhi.1
    have h3 := hhi.2.1
    have HL := Lib.hid hlo
    have HH := Lib.hid hhi
    clear hlo hhi hvd
    by_cases hn : n < 0
    · go_wp2_with fail
      exact bodyPost_ret (v := sp (-s) (-r)) (by simp [results, Try.results98, go_sem, *]) rfl ⟨by have := HP.out r s HL.out HH.out; rw [if_pos hn, if_pos hn] at this; exact this, by go_grown⟩
    · go_wp2_with fail
      exact bodyPost_ret (v := sp r s) (by simp [results, Try.results98, go_sem, *]) rfl ⟨by have := HP.out r s HL.out HH.out; rw [if_neg (by omega), if_neg (by omega)] at this; exact this, by go_grown⟩

theorem sqw {x N : Int} (h : x = N) (k : IntKind.i64.wrap (N * N) = N * N) : wrap64 (x * x) = N * N := by rw [h, ← IntWalk.i64_left, k]
theorem sqw0 {N : Int} (h : 0 = N) : wrap64 0 = N * N := by subst h; rw [← IntWalk.i64_left]; rfl
set_option maxHeartbeats 1000000 in
theorem squares_any (a b : Int) (w : World) (h0 : -2000 ≤ a) (h1 : a ≤ b) (h2 : b ≤ 2000) :
    Calls Try.prog 95 #[sp a b] w fun e w' => e = .returned (.tuple #[.int .i64 (near a b * near a b), .int .i64 (far a b * far a b)]) ∧ Below w.heap.size w w' := by
  obtain ⟨n0, n1, n2⟩ := near_bd (m := 2000) h0 h2 h1
  have p1 := sq_mono n0 (show near a b ≤ 2000 by omega)
  have p2 := sq_mono (show 0 ≤ far a b by omega) n2
  have q1 := sq_nn (near a b)
  have q2 := sq_nn (far a b)
  have en : near a b = max (max a (-b)) 0 := rfl
  have ef : far a b = max b (-a) := rfl
  obtain ⟨N, hN⟩ : ∃ N, near a b = N := ⟨_, rfl⟩
  obtain ⟨F, hF⟩ : ∃ F, far a b = F := ⟨_, rfl⟩
  rw [hN] at n0 n1 p1 q1 en
  rw [hF] at n1 n2 p2 q2 ef
  rw [hN, hF]
  have f1 : IntKind.i64.wrap (N * N) = N * N := IntWalk.i64_in _ ⟨by omega, by omega⟩
  have f2 : IntKind.i64.wrap (F * F) = F * F := IntWalk.i64_in _ ⟨by omega, by omega⟩
  have g1 : IntKind.i64.wrap (-b) = -b := IntWalk.i64_in _ ⟨by omega, by omega⟩
  have g2 : IntKind.i64.wrap (-a) = -a := IntWalk.i64_in _ ⟨by omega, by omega⟩
  obtain ⟨b', hb'⟩ : ∃ b', -b = b' := ⟨_, rfl⟩
  obtain ⟨a', ha'⟩ : ∃ a', -a = a' := ⟨_, rfl⟩
  clear hN hF p1 p2 q1 q2
  have HE : Hid (N = max (max a b') 0 ∧ F = max b a') := Lib.hid ⟨by rw [← hb']; exact en, by rw [← ha']; exact ef⟩
  clear en ef
  go_enter Try.func95, Try.ntmps95
  go_wp2_with fail
  all_goals
    go_returns
    obtain ⟨e1, e2⟩ := HE.out
    refine ⟨ret_ii ?_ ?_, by go_grown⟩
    · first | (refine sqw ?_ f1; omega) | (refine sqw0 ?_; omega)
    · first | (refine sqw ?_ f2; omega) | (refine sqw0 ?_; omega)

/-- What part returns. -/
def PartP (n q : Int) (e : Ending) : Prop := ∃ v : Int, e = .returned (.int .i64 v) ∧ PLo n q v ∧ -1048577 ≤ v ∧ v ≤ 1048577
set_option maxHeartbeats 1000000 in
theorem part_any (n q : Int) (w : World) (hn0 : -40000000 ≤ n) (hn1 : n ≤ 40000000) (hq0 : 1 ≤ q) (hq1 : q ≤ 1099511627776) (hb : n * n ≤ 8000000 * q) :
    Calls Try.prog 100 #[.int .i64 n, .int .i64 q] w fun e w' => PartP n q e ∧ w = w' := by
  obtain ⟨_, d0, d1, d2⟩ := over_same hn0 hn1 hq0 hq1 hb
  have p0 := sq_nn n
  have p1 := sq_abs hn0 hn1
  have HPos : Hid (∀ v : Int, 0 ≤ n → IsLo (n * n / q) v → PartP n q (.returned (.int .i64 v))) := Lib.hid (fun v h k => ⟨v, rfl, (PLo.pos h).2 k, by have := k.1; omega, by have := k.2.1; omega⟩)
  have HNeg : Hid (∀ v : Int, n < 0 → IsHi (cdiv (n * n) q) v → PartP n q (.returned (.int .i64 (-v)))) := Lib.hid (fun v h k => ⟨-v, rfl, (PLo.neg h).2 (by rw [Int.neg_neg]; exact k), by have := k.2.1; omega, by have := k.1; omega⟩)
  have HUp : Hid (∀ k : Int, IsLo (n * n / q) k → (k * k * q < n * n → IsHi (cdiv (n * n) q) (k + 1)) ∧ (¬ k * k * q < n * n → IsHi (cdiv (n * n) q) k)) := Lib.hid (fun k h => root_up hq0 h)
  have HD : Hid (n * n / q * q ≤ n * n) := Lib.hid (Int.ediv_mul_le (n * n) (by omega))
  obtain ⟨p, hp⟩ : ∃ p, n * n = p := ⟨_, rfl⟩
  rw [hp] at p0 p1 d0 d1 d2 HPos HNeg HUp HD
  have f1 : IntKind.i64.wrap p = p := IntWalk.i64_in _ ⟨by omega, by omega⟩
  clear hb
  go_enter Try.func100, Try.ntmps100
  go_wp2_with fail
  obtain ⟨D, hD⟩ : ∃ D, p / q = D := ⟨_, rfl⟩
  rw [hD] at d0 d1 HPos HUp HD
  rw [hD]
  have HDD := Lib.hid hD
  clear hD
  refine (rsqrt_any D _ d0 (by omega)).mono ?_
  rintro e w1 ⟨⟨k, rfl, hk⟩, rfl⟩
  have k0 := hk.1
  have k1 := hk.2.1
  have k2 := hk.2.2.1
  have HK := Lib.hid hk
  clear hk
  by_cases hn : 0 ≤ n
  · go_wp2_with fail
    go_returns
    exact ⟨HPos.out k hn HK.out, rfl⟩
  · have s0 : 0 ≤ k * k := Int.mul_nonneg k0 k0
    have s1 : k * k * q ≤ p := Int.le_trans (Int.mul_le_mul_of_nonneg_right k2 (by omega)) HD.out
    have s2 : 0 ≤ k * k * q := Int.mul_nonneg s0 (by omega)
    have hU := HUp.out k HK.out
    obtain ⟨s, hs⟩ : ∃ s, k * k = s := ⟨_, rfl⟩
    rw [hs] at s0 s1 s2 k2 hU
    obtain ⟨t, ht⟩ : ∃ t, s * q = t := ⟨_, rfl⟩
    rw [ht] at s1 s2 hU
    have HU2 := Lib.hid hU
    clear hU
    have f2 : IntKind.i64.wrap s = s := IntWalk.i64_in _ ⟨by omega, by omega⟩
    have f3 : IntKind.i64.wrap t = t := IntWalk.i64_in _ ⟨by omega, by omega⟩
    by_cases hlt : t < p
    · go_wp2_with fail
      go_returns
      exact ⟨HNeg.out (k + 1) (by omega) (HU2.out.1 hlt), rfl⟩
    · go_wp2_with fail
      go_returns
      exact ⟨HNeg.out k (by omega) (HU2.out.2 hlt), rfl⟩

end Go.Proofs.Ytflgdckeinappaa
