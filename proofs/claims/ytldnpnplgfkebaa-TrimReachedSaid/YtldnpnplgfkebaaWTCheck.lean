/- TrimChecks: the walk. -/
import Derived.Test.YtldnpnplgfkebaaTEnds
import Derived.Test.YtldnpnplgfkebaaTRList
namespace Go.Proofs.Ytldnpnplgfkebaa
open Go.RowKit

theorem great_yes {a b c d : Nat} (h : 50 < a ∨ 50 < b ∨ 50 < c ∨ 50 < d) : greatB a b c d = true := by
  unfold greatB
  simp
  omega
theorem great_no {a b c d : Nat} (h : ¬ (50 < a ∨ 50 < b ∨ 50 < c ∨ 50 < d)) : greatB a b c d = false := by
  unfold greatB
  simp
  omega
set_option maxHeartbeats 1000000 in
theorem trimChecks_great (a0 a1 a2 : Option Addr) (l0 c0 l1 c1 l2 c2 : Nat) (w : World) (hg : 50 < l0 ∨ 50 < l1 ∨ 50 < l2) (h0 : l0 ≤ maxLen) (h1 : l1 ≤ maxLen) (h2 : l2 ≤ maxLen) :
    Calls Try.prog 3 #[.slice a0 l0 c0, .slice a1 l1 c1, .slice a2 l2 c2] w fun e w' => e = .returned (.bool true) ∧ Below w.heap.size w w' := by
  unfold maxLen at h0 h1 h2
  have HG := Lib.hid (great_yes (d := 0) (show 50 < l0 ∨ 50 < l1 ∨ 50 < l2 ∨ 50 < 0 by omega))
  go_enter Try.func3, Try.ntmps3
  go_wp2_with fail
  refine (great_any _ _ _ _ _).mono ?_
  rintro e w1 ⟨rfl, rfl⟩
  rw [show greatB l0 l1 l2 0 = true from HG.out]
  go_wp2_with fail
  go_returns
  exact ⟨rfl, Below.refl _ _⟩
set_option maxHeartbeats 4000000 in
theorem trimChecks_walk (v0 v1 v2 : Value) (ls : List Ld) (ms : List Li) (fs : List Fr) (w : World) (s0 : SlLd w v0 ls) (s1 : SlLi w v1 ms) (s2 : SlFr w v2 fs) (hg : ¬ (50 < ls.length ∨ 50 < ms.length ∨ 50 < fs.length)) :
    Calls Try.prog 3 #[v0, v1, v2] w fun e w' => e = .returned (.bool true) ∧ Below w.heap.size w w' := by
  obtain ⟨a0, cap0, rfl, hl0, hc0⟩ := s0.form
  obtain ⟨a1, cap1, rfl, hl1, hc1⟩ := s1.form
  obtain ⟨a2, cap2, rfl, hl2, hc2⟩ := s2.form
  have HG := Lib.hid (great_no (d := 0) (show ¬ (50 < ls.length ∨ 50 < ms.length ∨ 50 < fs.length ∨ 50 < 0) by omega))
  have S0 := Lib.hid s0
  have S1 := Lib.hid s1
  have S2 := Lib.hid s2
  clear s0 s1 s2 hg
  obtain ⟨n0, hn0⟩ : ∃ n, loadsN ls = n := ⟨_, rfl⟩
  obtain ⟨n1, hn1⟩ : ∃ n, limitsN ms = n := ⟨_, rfl⟩
  obtain ⟨n2, hn2⟩ : ∃ n, framesN fs = n := ⟨_, rfl⟩
  have N0 := Lib.hid hn0
  have N1 := Lib.hid hn1
  have N2 := Lib.hid hn2
  clear hn0 hn1 hn2
  go_enter Try.func3, Try.ntmps3
  go_wp2_with fail
  refine (great_any _ _ _ _ _).mono ?_
  rintro e w1 ⟨rfl, rfl⟩
  rw [show greatB ls.length ms.length fs.length 0 = false from HG.out]
  go_wp2_with fail
  refine (checkLd_any _ ls _ S0.out).mono ?_
  rintro e w1 ⟨rfl, hb1⟩
  rw [N0.out]
  go_wp2_with fail
  refine (rcheckLd_any _ ls _ (ldLater S0.out hb1)).mono ?_
  rintro e w2 ⟨rfl, hb2⟩
  rw [N0.out]
  have hB2 := two hb1 hb2
  clear hb1 hb2
  go_wp2_with fail
  refine (checkLi_any _ ms _ (liLater S1.out hB2)).mono ?_
  rintro e w3 ⟨rfl, hb3⟩
  rw [N1.out]
  have hB3 := two hB2 hb3
  clear hB2 hb3
  go_wp2_with fail
  refine (rcheckLi_any _ ms _ (liLater S1.out hB3)).mono ?_
  rintro e w4 ⟨rfl, hb4⟩
  rw [N1.out]
  have hB4 := two hB3 hb4
  clear hB3 hb4
  go_wp2_with fail
  refine (checkFr_any _ fs _ (frLater S2.out hB4)).mono ?_
  rintro e w5 ⟨rfl, hb5⟩
  rw [N2.out]
  have hB5 := two hB4 hb5
  clear hB4 hb5
  go_wp2_with fail
  refine (rcheckFr_any _ fs _ (frLater S2.out hB5)).mono ?_
  rintro e w6 ⟨rfl, hb6⟩
  rw [N2.out]
  have hB6 := two hB5 hb6
  clear hB5 hb6
  go_wp2_with fail
  go_returns
  exact ⟨by simp, hB6⟩
end Go.Proofs.Ytldnpnplgfkebaa
