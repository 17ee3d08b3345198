/- TrimKept: the walk. -/
import Derived.Test.YtldnpnplgfkebaaTGreat
import Derived.Test.YtldnpnplgfkebaaWTEnds
namespace Go.Proofs.Ytldnpnplgfkebaa
open Go.RowKit

set_option maxHeartbeats 2000000 in
theorem trimKept_great (a0 : Option Addr) (l0 c0 : Nat) (a1 : Option Addr) (l1 c1 : Nat) (a2 : Option Addr) (l2 c2 : Nat) (w : World) (hg : 50 < l0 ∨ 50 < l1) (k0 : l0 ≤ 50 → ∃ ls : List Ld, ls.length = l0 ∧ SlLd w (.slice a0 l0 c0) ls) :
    Calls Try.prog 9 #[.slice a0 l0 c0, .slice a1 l1 c1, .slice a2 l2 c2] w fun e w' => e = .returned (.bool true) ∧ Below w.heap.size w w' := by
  have HG := Lib.hid (great_yes (a := l0) (b := l1) (c := 0) (d := 0) (by omega))
  have HC : Hid (∀ w1, Below w.heap.size w w1 → Calls Try.prog 64 #[.slice a0 l0 c0, .slice a1 l1 c1] w1 fun e w' => ∃ n, e = .returned (.int .i64 n) ∧ longN n ∧ Below w1.heap.size w1 w') := Lib.hid (fun w1 hb => by
    by_cases h : 40 < l0
    · exact both_long0 a0 l0 c0 _ w1 h
    · obtain ⟨ls, _, hs⟩ := k0 (by omega)
      exact both_long1 _ ls a1 l1 c1 w1 (ldLater hs hb) (by omega))
  clear k0
  go_enter Try.func9, Try.ntmps9
  go_wp2_with fail
  refine (alive_any _).mono ?_
  rintro e w1 ⟨rfl, hb1⟩
  go_wp2_with fail
  refine (breach_long _ _ _ (fun w2 hb2 => HC.out w2 (two hb1 hb2))).mono ?_
  rintro e w2 ⟨n, rfl, hb2⟩
  have hB2 := two hb1 hb2
  clear hb1 hb2
  go_wp2_with fail
  refine (valid_great a0 l0 c0 a1 l1 c1 _ hg).mono ?_
  rintro e w3 ⟨rfl, hb3⟩
  have hB3 : Below w.heap.size w w3 := hB2.trans ((two (W := w2) (by go_grown) hb3).mono hB2.size)
  clear hb3
  go_wp2_with fail
  refine (great_any _ _ _ _ _).mono ?_
  rintro e w4 ⟨rfl, hw4⟩
  rw [← hw4, show greatB l0 l1 0 0 = true from HG.out]
  clear hw4 w4
  go_wp2_with fail
  go_returns
  exact ⟨rfl, hB3⟩
theorem both_err {ls : List Ld} {ms : List Li} (h : okayB ls ms = false) : bothN ls ms = 4 ∨ bothN ls ms = 40 ∨ bothN ls ms = 41 := by
  unfold okayB at h
  unfold bothN
  split <;> rename_i h0
  · rw [h0] at h
    simp at h
    unfold limitsN listN at h ⊢
    split at h
    · rename_i h1
      rw [if_pos h1]
      exact .inl rfl
    · rename_i h1
      rw [if_neg h1]
      split at h
      · exact absurd rfl h
      · rename_i h2
        rw [if_neg h2]
        exact .inr (.inr rfl)
  · unfold loadsN listN at h0 ⊢
    split at h0
    · rename_i h1
      rw [if_pos h1]
      exact .inl rfl
    · rename_i h1
      rw [if_neg h1]
      split at h0
      · exact absurd rfl h0
      · rename_i h2
        rw [if_neg h2]
        exact .inr (.inl rfl)
theorem okay_both {ls : List Ld} {ms : List Li} (h : okayB ls ms = true) : bothN ls ms = 0 := by
  obtain ⟨h0, h1⟩ := okay_loads h
  unfold bothN
  rw [if_pos h0]
  exact h1
def KeHead (F : Nat) (w wr : World) (v82 : Value) : Prop := ∃ j : Nat, j ≤ F ∧ v82 = .int .i64 j ∧ Below w.heap.size w wr
set_option linter.unusedSimpArgs false in
set_option linter.unusedVariables false in
set_option maxRecDepth 100000 in
set_option maxHeartbeats 8000000 in
theorem trimKept_walk (v u : Value) (ls : List Ld) (ms : List Li) (a2 : Option Addr) (l2 c2 : Nat) (w : World) (hv : SlLd w v ls) (hu : SlLi w u ms) (hby : ByAt w a2 l2) (h50 : ¬ (50 < ls.length ∨ 50 < ms.length)) :
    Calls Try.prog 9 #[v, u, .slice a2 l2 c2] w fun e w' => e = .returned (.bool true) ∧ Below w.heap.size w w' := by
  have hnil : (∀ a n c, u = .slice a n c → (a = none → c = 0) ∧ ∀ x, a = some x → x.spot = none) := fun a n c e => by
    rcases hu with ⟨_, rfl⟩ | ⟨b, o, cap, rfl, _⟩
    · injection e with e1 e2 e3
      subst e1 e3
      exact ⟨fun _ => rfl, fun x hx => by cases hx⟩
    · injection e with e1 e2 e3
      subst e1
      exact ⟨fun h => (by cases h), fun x hx => by cases hx; rfl⟩
  obtain ⟨a0, cap0, rfl, hl0, hc0⟩ := hv.form
  obtain ⟨a1, cap1, rfl, hl1, hc1⟩ := hu.form
  obtain ⟨hn1, hn2⟩ := hnil _ _ _ rfl
  have HG := Lib.hid (great_no (a := ls.length) (b := ms.length) (c := 0) (d := 0) (by omega))
  have HV := Lib.hid hv
  have HU := Lib.hid hu
  have HBy := Lib.hid hby
  have HSl := Lib.hid (fun k (hk : k ≤ cap1) w' => slice_to a1 ms.length cap1 k hk hn1 hn2 w')
  have hls : ls.length ≤ 50 := by omega
  have hms : ms.length ≤ 50 := by omega
  clear hv hu hby hnil hn1 hn2 h50
  go_enter Try.func9, Try.ntmps9
  go_wp2_with fail
  refine (alive_any _).mono ?_
  rintro e w1 ⟨rfl, hb1⟩
  go_wp2_with fail
  refine (breach_any _ _ ls ms _ (ldLater HV.out hb1) (liLater HU.out hb1)).mono ?_
  rintro e w2 (⟨hne, rfl, hb2⟩ | ⟨hbo, hbk, rfl, hb2⟩ | ⟨hbo, k, x, u2, hx, hbk, rfl, hu2, hb2⟩)
  · have hB2 := two hb1 hb2
    clear hb1 hb2
    have hval : okayB ls ms = false := by
      cases h : okayB ls ms with
      | false => rfl
      | true => exact absurd (okay_both h) hne
    have HVal := Lib.hid hval
    have h3 := both_err hval
    clear hne hval
    generalize bothN ls ms = n at *
    rcases h3 with rfl | rfl | rfl
    · skip
      go_wp2_with fail
      have hB3 : Below w.heap.size w _ := two hB2 ((Below.refl w2.heap.size w2).alloc (Nat.le_refl _) (.cells #[.int .i64 0, .slice none 0 0] 51))
      go_wp2_with fail
      refine (valid_any _ _ ls ms _ (ldLater HV.out hB3) (liLater HU.out hB3) (by omega) (by omega)).mono ?_
      rintro e w4 ⟨rfl, hb4⟩
      have hB4 := two hB3 hb4
      clear hb4 hB3
      rw [HVal.out]
      go_wp2_with fail
      refine (great_any _ _ _ _ _).mono ?_
      rintro e w5 ⟨rfl, hw5⟩
      rw [← hw5, show greatB ls.length ms.length 0 0 = false from HG.out]
      clear hw5 w5
      go_wp2_with fail
      go_returns
      exact ⟨rfl, hB4⟩
    · skip
      go_wp2_with fail
      have hB3 : Below w.heap.size w _ := two hB2 ((Below.refl w2.heap.size w2).alloc (Nat.le_refl _) (.cells #[.int .i64 0, .slice none 0 0] 51))
      go_wp2_with fail
      refine (valid_any _ _ ls ms _ (ldLater HV.out hB3) (liLater HU.out hB3) (by omega) (by omega)).mono ?_
      rintro e w4 ⟨rfl, hb4⟩
      have hB4 := two hB3 hb4
      clear hb4 hB3
      rw [HVal.out]
      go_wp2_with fail
      refine (great_any _ _ _ _ _).mono ?_
      rintro e w5 ⟨rfl, hw5⟩
      rw [← hw5, show greatB ls.length ms.length 0 0 = false from HG.out]
      clear hw5 w5
      go_wp2_with fail
      go_returns
      exact ⟨rfl, hB4⟩
    · skip
      go_wp2_with fail
      have hB3 : Below w.heap.size w _ := two hB2 ((Below.refl w2.heap.size w2).alloc (Nat.le_refl _) (.cells #[.int .i64 0, .slice none 0 0] 51))
      go_wp2_with fail
      refine (valid_any _ _ ls ms _ (ldLater HV.out hB3) (liLater HU.out hB3) (by omega) (by omega)).mono ?_
      rintro e w4 ⟨rfl, hb4⟩
      have hB4 := two hB3 hb4
      clear hb4 hB3
      rw [HVal.out]
      go_wp2_with fail
      refine (great_any _ _ _ _ _).mono ?_
      rintro e w5 ⟨rfl, hw5⟩
      rw [← hw5, show greatB ls.length ms.length 0 0 = false from HG.out]
      clear hw5 w5
      go_wp2_with fail
      go_returns
      exact ⟨rfl, hB4⟩
  · have hB2 := two hb1 hb2
    clear hb1 hb2
    have HVal := Lib.hid (show okayB ls ms = true by
      cases h : okayB ls ms with
      | true => rfl
      | false => have := both_err h; omega)
    have HOk := Lib.hid (fun l hl => List.all_eq_true.1 (bothN_ok hbo).2.1 l hl)
    have HMo := Lib.hid (bothN_ok hbo).2.2.2
    have HKp : Hid (∀ (j : Nat) (y : Li), j < ms.length → ms[j]? = some y → mostL y.a y.b ls ≤ y.c) := Lib.hid (fun j y _ hy => brk_kept ls ms 0 j y hy (.inl hbk))
    go_wp2_with fail
    obtain ⟨W3, hW3⟩ : ∃ W, w2.alloc (.cells #[.int .i64 0, (.slice none 0 0)] 51) = W := ⟨_, rfl⟩
    have K := Lib.hid (show PairV W3 w2.heap.size (.int .i64 0) (.slice none 0 0) by subst hW3; exact ⟨by go_cell, by go_cell⟩)
    have hb3 : Below w2.heap.size w2 W3 := by subst hW3; go_grown
    have hB3 := two hB2 hb3
    try rw [hW3] at HU2
    rw [hW3]
    clear hW3 hB2
    generalize w2.heap.size = b8 at *
    refine (valid_any _ _ ls ms _ (ldLater HV.out hB3) (liLater HU.out hB3) (by omega) (by omega)).mono ?_
    rintro e w4 ⟨rfl, hb4⟩
    have hB4 := two hB3 hb4
    replace K := Lib.hid (K.out.later hb4)
    try replace HU2 := Lib.hid (puLater HU2.out hb4)
    clear hb4 hB3
    rw [HVal.out]
    go_wp2_with fail
    refine (chosen_any _ a2 l2 c2 ls _ (ldLater HV.out hB4) (HBy.out.later hB4) (by omega) HOk.out).mono ?_
    rintro e w5 ⟨u5, ps, rfl, hps, hch, hb5⟩
    have hpl2 : ps.length ≤ 50 := by have := hch.len; omega
    have hpb := ChoP.bound (fun l hl => Ld.bound (HOk.out l hl)) hch
    have hB5 := two hB4 hb5
    replace K := Lib.hid (K.out.later hb5)
    try replace HU2 := Lib.hid (puLater HU2.out hb5)
    clear hb5 hB4
    go_wp2_with fail
    refine (sums_any _ ps _ hps hpl2 hpb).mono ?_
    rintro e w6 ⟨rfl, hb6⟩
    obtain ⟨⟨d0, d1⟩, e0, e1⟩ := sums_bound ps.length hpb hpl2
    rw [List.take_length] at d0 d1 e0 e1
    have HLe : Hid (∀ y : Li, y.a * heavE ps + y.b * momsE ps ≤ mostL y.a y.b ls) := Lib.hid (fun y => by
      have := cho_le (a := y.a) (b := y.b) hch
      rw [lin_sum] at this
      exact this)
    generalize heavE ps = h at *
    generalize momsE ps = m at *
    have hB6 := two hB5 hb6
    replace K := Lib.hid (K.out.later hb6)
    try replace HU2 := Lib.hid (puLater HU2.out hb6)
    clear hb6 hB5 hps hch hpb
    have hsl := HSl.out ms.length hc1
    go_wp2_with fail
    go_loopw [82] (fun v82 wr => KeHead ms.length w6 wr v82) (fun v82 _ => ms.length - (intOf v82).toNat)
    case atStart => exact ⟨0, by omega, rfl, Below.refl _ _⟩
    case round =>
      obtain ⟨j, hj, rfl, hbr⟩ := hrel
      have hBr := hB6.trans (hbr.mono hB6.size)
      by_cases hlt : j < ms.length
      rotate_left 1
      · have hlt' : ¬ (j : Int) < (ms.length : Int) := by omega
        go_wp2_with fail
        go_returns
        exact ⟨rfl, hBr⟩
      have hlt' : (j : Int) < (ms.length : Int) := by omega
      obtain ⟨bk, off, y, rfl, hb, hy, hat⟩ := HU.out.at (show j < ms.length by omega)
      obtain ⟨y0, y1, y2⟩ := LiAt.later hat hBr
      have hj0 : (0 : Int) ≤ (j : Int) := by omega
      have hk := HKp.out j y hlt hy
      have hle := HLe.out y
      obtain ⟨⟨s0, s1, s2, s3⟩, _⟩ := Li.bound (List.all_eq_true.1 HMo.out y (List.mem_of_getElem? hy))
      have hp1 := mul_lim (m := 1000) (n := 53687091200) (x := y.a) (y := h) s0 s1 (by omega) (by omega)
      have hp2 := mul_lim (m := 1000) (n := 2147483648000000) (x := y.b) (y := m) s2 s3 (by omega) (by omega)
      obtain ⟨P1, hP1⟩ : ∃ p, y.a * h = p := ⟨_, rfl⟩
      obtain ⟨P2, hP2⟩ : ∃ p, y.b * m = p := ⟨_, rfl⟩
      rw [hP1] at hp1 hle
      rw [hP2] at hp2 hle
      have hle' : ¬ y.c < P1 + P2 := by omega
      have hsz := hbr.size
      clear hle hk hy hat
      go_wp2_with fail
      go_roundw
      case rel => exact ⟨j + 1, by omega, by go_num, by go_grown⟩
      case measure => simp [intOf]; omega
  · have hB2 := two hb1 hb2
    clear hb1 hb2
    have HVal := Lib.hid (show okayB ls ms = true by
      cases h : okayB ls ms with
      | true => rfl
      | false => have := both_err h; omega)
    have hkl : k < ms.length := (List.getElem?_eq_some_iff.1 hx).1
    have HOk := Lib.hid (fun l hl => List.all_eq_true.1 (bothN_ok hbo).2.1 l hl)
    have HMo := Lib.hid (bothN_ok hbo).2.2.2
    have HKp : Hid (∀ (j : Nat) (y : Li), j < k → ms[j]? = some y → mostL y.a y.b ls ≤ y.c) := Lib.hid (fun j y hj hy => brk_kept ls ms 0 j y hy (.inr (by omega)))
    have HCb := Lib.hid (cb_found hbo hx hbk)
    obtain ⟨ua, uc, rfl, _, _⟩ := hu2.form
    rw [List.length_map] at hu2 ⊢
    have HU2 := Lib.hid hu2
    clear hu2 hx
    go_wp2_with fail
    have hbx := (Below.refl w2.heap.size w2).alloc (Nat.le_refl _) (.cells #[.int .i64 (k : Int), .slice ua ls.length uc] 51)
    replace HU2 := Lib.hid (puLater HU2.out hbx)
    clear hbx
    obtain ⟨W3, hW3⟩ : ∃ W, w2.alloc (.cells #[.int .i64 (k : Int), (.slice ua ls.length uc)] 51) = W := ⟨_, rfl⟩
    have K := Lib.hid (show PairV W3 w2.heap.size (.int .i64 (k : Int)) (.slice ua ls.length uc) by subst hW3; exact ⟨by go_cell, by go_cell⟩)
    have hb3 : Below w2.heap.size w2 W3 := by subst hW3; go_grown
    have hB3 := two hB2 hb3
    try rw [hW3] at HU2
    rw [hW3]
    clear hW3 hB2
    generalize w2.heap.size = b8 at *
    refine (valid_any _ _ ls ms _ (ldLater HV.out hB3) (liLater HU.out hB3) (by omega) (by omega)).mono ?_
    rintro e w4 ⟨rfl, hb4⟩
    have hB4 := two hB3 hb4
    replace K := Lib.hid (K.out.later hb4)
    try replace HU2 := Lib.hid (puLater HU2.out hb4)
    clear hb4 hB3
    rw [HVal.out]
    go_wp2_with fail
    refine (chosen_any _ a2 l2 c2 ls _ (ldLater HV.out hB4) (HBy.out.later hB4) (by omega) HOk.out).mono ?_
    rintro e w5 ⟨u5, ps, rfl, hps, hch, hb5⟩
    have hpl2 : ps.length ≤ 50 := by have := hch.len; omega
    have hpb := ChoP.bound (fun l hl => Ld.bound (HOk.out l hl)) hch
    have hB5 := two hB4 hb5
    replace K := Lib.hid (K.out.later hb5)
    try replace HU2 := Lib.hid (puLater HU2.out hb5)
    clear hb5 hB4
    go_wp2_with fail
    refine (sums_any _ ps _ hps hpl2 hpb).mono ?_
    rintro e w6 ⟨rfl, hb6⟩
    obtain ⟨⟨d0, d1⟩, e0, e1⟩ := sums_bound ps.length hpb hpl2
    rw [List.take_length] at d0 d1 e0 e1
    have HLe : Hid (∀ y : Li, y.a * heavE ps + y.b * momsE ps ≤ mostL y.a y.b ls) := Lib.hid (fun y => by
      have := cho_le (a := y.a) (b := y.b) hch
      rw [lin_sum] at this
      exact this)
    generalize heavE ps = h at *
    generalize momsE ps = m at *
    have hB6 := two hB5 hb6
    replace K := Lib.hid (K.out.later hb6)
    try replace HU2 := Lib.hid (puLater HU2.out hb6)
    clear hb6 hB5 hps hch hpb
    obtain ⟨k0, k1⟩ := K.out
    have hk0 : (0 : Int) ≤ (k : Int) := by omega
    have hkl' : (k : Int) < (ms.length : Int) := by omega
    go_wp2_with fail
    refine (checkBreach_any _ _ _ ls ms k (ls.map (worstP x.a x.b)) _ (ldLater HV.out hB6) (liLater HU.out hB6) HU2.out).mono ?_
    rintro e w7 ⟨rfl, hb7⟩
    rw [HCb.out]
    have hB7 := two hB6 hb7
    have hsl := HSl.out k (by omega)
    clear hb7 k0 k1 hB6
    go_wp2_with fail
    go_loopw [82] (fun v82 wr => KeHead k w7 wr v82) (fun v82 _ => k - (intOf v82).toNat)
    case atStart => exact ⟨0, by omega, rfl, Below.refl _ _⟩
    case round =>
      obtain ⟨j, hj, rfl, hbr⟩ := hrel
      have hBr := hB7.trans (hbr.mono hB7.size)
      by_cases hlt : j < k
      rotate_left 1
      · have hlt' : ¬ (j : Int) < (k : Int) := by omega
        go_wp2_with fail
        go_returns
        exact ⟨rfl, hBr⟩
      have hlt' : (j : Int) < (k : Int) := by omega
      obtain ⟨bk, off, y, rfl, hb, hy, hat⟩ := HU.out.at (show j < ms.length by omega)
      obtain ⟨y0, y1, y2⟩ := LiAt.later hat hBr
      have hj0 : (0 : Int) ≤ (j : Int) := by omega
      have hk := HKp.out j y hlt hy
      have hle := HLe.out y
      obtain ⟨⟨s0, s1, s2, s3⟩, _⟩ := Li.bound (List.all_eq_true.1 HMo.out y (List.mem_of_getElem? hy))
      have hp1 := mul_lim (m := 1000) (n := 53687091200) (x := y.a) (y := h) s0 s1 (by omega) (by omega)
      have hp2 := mul_lim (m := 1000) (n := 2147483648000000) (x := y.b) (y := m) s2 s3 (by omega) (by omega)
      obtain ⟨P1, hP1⟩ : ∃ p, y.a * h = p := ⟨_, rfl⟩
      obtain ⟨P2, hP2⟩ : ∃ p, y.b * m = p := ⟨_, rfl⟩
      rw [hP1] at hp1 hle
      rw [hP2] at hp2 hle
      have hle' : ¬ y.c < P1 + P2 := by omega
      have hsz := hbr.size
      clear hle hk hy hat
      go_wp2_with fail
      go_roundw
      case rel => exact ⟨j + 1, by omega, by go_num, by go_grown⟩
      case measure => simp [intOf]; omega
end Go.Proofs.Ytldnpnplgfkebaa
