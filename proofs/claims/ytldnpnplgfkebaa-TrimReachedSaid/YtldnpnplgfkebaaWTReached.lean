/- TrimReached: the walk. -/
import Derived.Test.YtldnpnplgfkebaaTReach
import Derived.Test.YtldnpnplgfkebaaWTEnds
namespace Go.Proofs.Ytldnpnplgfkebaa
open Go.RowKit

set_option maxRecDepth 100000 in
set_option maxHeartbeats 2000000 in
theorem trimReached_great (a0 : Option Addr) (l0 c0 : Nat) (at' : Int) (w : World) (hg : 50 < l0) :
    Calls Try.prog 12 #[.slice a0 l0 c0, .int .i64 at'] w fun e w' => e = .returned (.bool true) ∧ Below w.heap.size w w' := by
  go_enter Try.func12, Try.ntmps12
  go_wp2_with fail
  refine (alive_any _).mono ?_
  rintro e w1 ⟨rfl, hb1⟩
  go_wp2_with fail
  refine (valid_great a0 l0 c0 none 0 0 _ (.inl hg)).mono ?_
  rintro e w2 ⟨rfl, hb2⟩
  have hB2 := two hb1 hb2
  clear hb1 hb2
  go_wp2_with fail
  go_returns
  exact ⟨rfl, hB2⟩
/-- What stands in the two rows while corner t is laid in, up to number k. -/
def mixE (k : Nat) (f g : Nat → Int) (i : Nat) : Int := if i < k then f i else g i
/-- The inner loops' heads. -/
def Lo4 (at' : Int) (l : Ld) (t b1 b2 : Nat) (w wr : World) (v : Value) : Prop := ∃ k : Nat, k ≤ 4 ∧ v = .int .i64 k ∧ Quad wr b1 (mixE k (lowE at' l (t + 1)) (lowE at' l t)) ∧ Quad wr b2 (mixE k (higE at' l (t + 1)) (higE at' l t)) ∧ Beside b1 b2 w wr
def Lo3 (at' : Int) (l : Ld) (i b1 b2 : Nat) (w wr : World) (v : Value) : Prop := ∃ j : Nat, j ≤ 2 ∧ v = .int .i64 j ∧ Quad wr b1 (lowE at' l (2 * i + j)) ∧ Quad wr b2 (higE at' l (2 * i + j)) ∧ Beside b1 b2 w wr
def Lo2 (at' : Int) (l : Ld) (b1 b2 : Nat) (w wr : World) (v : Value) : Prop := ∃ i : Nat, i ≤ 2 ∧ v = .int .i64 i ∧ Quad wr b1 (lowE at' l (2 * i)) ∧ Quad wr b2 (higE at' l (2 * i)) ∧ Beside b1 b2 w wr
def Lo5 (at' : Int) (ls : List Ld) (m b1 b2 : Nat) (w wr : World) (v : Value) : Prop := ∃ k : Nat, k ≤ 4 ∧ v = .int .i64 k ∧ Quad wr b1 (mixE k (loS at' (ls.take (m + 1))) (loS at' (ls.take m))) ∧ Quad wr b2 (mixE k (hiS at' (ls.take (m + 1))) (hiS at' (ls.take m))) ∧ Beside b1 b2 w wr
def Lo1 (at' : Int) (ls : List Ld) (b1 b2 : Nat) (w wr : World) (v : Value) : Prop := ∃ m : Nat, m ≤ ls.length ∧ v = .int .i64 m ∧ Quad wr b1 (loS at' (ls.take m)) ∧ Quad wr b2 (hiS at' (ls.take m)) ∧ Below b1 w wr
theorem mix0 (f g : Nat → Int) : mixE 0 f g = g := by
  funext i
  unfold mixE
  rw [if_neg (by omega)]
theorem mix4 {f g : Nat → Int} : ∀ i, i < 4 → f i = mixE 4 f g i := fun i hi => by
  unfold mixE
  rw [if_pos hi]
theorem mix_at (k : Nat) (f g : Nat → Int) : mixE k f g k = g k ∧ mixE (k + 1) f g k = f k := by
  unfold mixE
  exact ⟨if_neg (by omega), if_pos (by omega)⟩
theorem mix_far {k i : Nat} (f g : Nat → Int) (h : i ≠ k) : mixE (k + 1) f g i = mixE k f g i := by
  unfold mixE
  by_cases h1 : i < k
  · rw [if_pos (by omega), if_pos h1]
  · rw [if_neg (by omega), if_neg h1]
theorem low_next (at' : Int) (l : Ld) {t kk : Nat} {n : Int} (hn : coE at' l t kk = n) : (t = 0 → lowE at' l (t + 1) kk = n ∧ higE at' l (t + 1) kk = n) ∧ (t ≠ 0 → lowE at' l (t + 1) kk = min (lowE at' l t kk) n ∧ higE at' l (t + 1) kk = max (higE at' l t kk) n) := by
  subst hn
  refine ⟨fun h => ?_, fun h => ?_⟩
  · subst h
    exact ⟨rfl, rfl⟩
  · unfold lowE higE
    rw [if_neg h, if_neg h]
    cases t with
    | zero => exact absurd rfl h
    | succ t => exact ⟨rfl, rfl⟩
theorem co_at (at' : Int) (l : Ld) {i j : Nat} (hj : j < 2) (kk : Nat) : coE at' l (2 * i + j) kk = cfE at' (plE l i) (weE l j) kk := by
  unfold coE
  rw [show (2 * i + j) / 2 = i by omega, show (2 * i + j) % 2 = j by omega]
theorem pair_cells {w : World} {b : Nat} {x y : Int} (h : Two2 w b x y) {i : Nat} (hi : i < 2) : w.cell? ⟨b, i, none⟩ = some (.int .i64 (if i = 0 then x else y)) := by
  have : i = 0 ∨ i = 1 := by omega
  rcases this with e | e <;> subst e
  · exact h.c0
  · exact h.c1
set_option linter.unusedSimpArgs false in
set_option maxRecDepth 100000 in
set_option maxHeartbeats 8000000 in
theorem trimReached_walk (v : Value) (ls : List Ld) (at' : Int) (w : World) (hv : SlLd w v ls) (h50 : ls.length ≤ 50) :
    Calls Try.prog 12 #[v, .int .i64 at'] w fun e w' => e = .returned (.bool true) ∧ Below w.heap.size w w' := by
  obtain ⟨a0, cap0, rfl, hl0, hc0⟩ := hv.form
  have HV := Lib.hid hv
  clear hv
  go_enter Try.func12, Try.ntmps12
  go_wp2_with fail
  refine (alive_any _).mono ?_
  rintro e w1 ⟨rfl, hb1⟩
  go_wp2_with fail
  refine (valid_any _ _ ls [] _ (ldLater HV.out hb1) (.inl ⟨rfl, rfl⟩) h50 (by simp)).mono ?_
  rintro e w2 ⟨rfl, hb2⟩
  have hB2 := two hb1 hb2
  clear hb1 hb2
  by_cases hval : okayB ls [] = true
  rotate_left 1
  · have hval' : okayB ls [] = false := by simpa using hval
    rw [hval']
    clear hval hval'
    go_wp2_with fail
    go_returns
    exact ⟨rfl, hB2⟩
  have h0 := (okay_loads hval).1
  have HN := Lib.hid h0
  have HOk := Lib.hid (all_ok h0)
  rw [hval]
  clear hval h0
  by_cases hp : at' < -20000
  · go_wp2_with fail
    go_returns
    exact ⟨rfl, hB2⟩
  by_cases hq : 20000 < at'
  · go_wp2_with fail
    go_returns
    exact ⟨rfl, hB2⟩
  have hpl : placeN ls at' = 0 := by
    unfold placeN
    rw [if_pos HN.out, if_pos (inB_iff.2 ⟨by omega, by omega⟩)]
  have HE := Lib.hid (And.intro (reach_heavy (at' := at') HN.out) (And.intro (reach_moment (at' := at') HN.out) (And.intro (reach_shear hpl) (And.intro (reach_bend hpl) hpl))))
  clear hpl
  go_wp2_with fail
  refine (balance_any _ ls _ (ldLater HV.out hB2)).mono ?_
  rintro e w3 ⟨rfl, hb3⟩
  rw [HN.out, HE.out.1, HE.out.2.1]
  have hB3 := two hB2 hb3
  clear hb3 hB2
  go_wp2_with fail
  obtain ⟨W3, hW3⟩ : ∃ W, (w3.alloc (.cells #[.int .i64 (loS at' ls 0), .int .i64 (hiS at' ls 0)] 37)).alloc (.cells #[.int .i64 (loS at' ls 1), .int .i64 (hiS at' ls 1)] 37) = W := ⟨_, rfl⟩
  have K1 := Lib.hid (show Two2 W3 w3.heap.size (loS at' ls 0) (hiS at' ls 0) by subst hW3; exact ⟨by go_cell, by go_cell⟩)
  have K2 := Lib.hid (show Two2 W3 (w3.heap.size + 1) (loS at' ls 1) (hiS at' ls 1) by subst hW3; exact ⟨by go_cell, by go_cell⟩)
  have hBW : Below w.heap.size w W3 := by
    have h9 : Below w3.heap.size w3 W3 := by subst hW3; go_grown
    exact two hB3 h9
  rw [hW3]
  clear hW3 hB3
  generalize w3.heap.size = b1 at *
  refine (shearOf_any _ ls at' _ (ldLater HV.out hBW)).mono ?_
  rintro e w4 ⟨rfl, hb4⟩
  rw [HE.out.2.2.1, HE.out.2.2.2.2]
  replace K1 := Lib.hid (K1.out.later hb4)
  replace K2 := Lib.hid (K2.out.later hb4)
  have hB4 := two hBW hb4
  clear hb4 hBW
  go_wp2_with fail
  obtain ⟨W4, hW4⟩ : ∃ W, w4.alloc (.cells #[.int .i64 (loS at' ls 2), .int .i64 (hiS at' ls 2)] 37) = W := ⟨_, rfl⟩
  have K3 := Lib.hid (show Two2 W4 w4.heap.size (loS at' ls 2) (hiS at' ls 2) by subst hW4; exact ⟨by go_cell, by go_cell⟩)
  have hb4 : Below w4.heap.size w4 W4 := by subst hW4; go_grown
  replace K1 := Lib.hid (K1.out.later hb4)
  replace K2 := Lib.hid (K2.out.later hb4)
  have hBW := two hB4 hb4
  rw [hW4]
  clear hW4 hB4 hb4
  generalize w4.heap.size = b3 at *
  refine (bendOf_any _ ls at' _ (ldLater HV.out hBW)).mono ?_
  rintro e w5 ⟨rfl, hb5⟩
  rw [HE.out.2.2.2.1, HE.out.2.2.2.2]
  replace K1 := Lib.hid (K1.out.later hb5)
  replace K2 := Lib.hid (K2.out.later hb5)
  replace K3 := Lib.hid (K3.out.later hb5)
  have hB5 := two hBW hb5
  clear hb5 hBW
  go_wp2_with fail
  have l1 : b1 + 1 < w5.heap.size := K2.out.lt
  have l3 : b3 < w5.heap.size := K3.out.lt
  have q13 := Quad.new (w5.alloc (.cells #[.int .i64 (loS at' ls 3), .int .i64 (hiS at' ls 3)] 37)) 94
  have q14 := Quad.new ((w5.alloc (.cells #[.int .i64 (loS at' ls 3), .int .i64 (hiS at' ls 3)] 37)).alloc (.cells #[.int .i64 0, .int .i64 0, .int .i64 0, .int .i64 0] 94)) 94
  replace q13 := q13.later ((Below.refl _ _).alloc (Nat.le_refl _) (.cells #[.int .i64 0, .int .i64 0, .int .i64 0, .int .i64 0] 94))
  rw [World.size_alloc] at q13
  rw [World.size_alloc, World.size_alloc] at q14
  obtain ⟨WA, hWA⟩ : ∃ W, ((w5.alloc (.cells #[.int .i64 (loS at' ls 3), .int .i64 (hiS at' ls 3)] 37)).alloc (.cells #[.int .i64 0, .int .i64 0, .int .i64 0, .int .i64 0] 94)).alloc (.cells #[.int .i64 0, .int .i64 0, .int .i64 0, .int .i64 0] 94) = W := ⟨_, rfl⟩
  have K4 := Lib.hid (show Two2 WA w5.heap.size (loS at' ls 3) (hiS at' ls 3) by subst hWA; exact ⟨by go_cell, by go_cell⟩)
  have hb6 : Below w5.heap.size w5 WA := by subst hWA; go_grown
  rw [hWA] at q13 q14 ⊢
  clear hWA
  replace K1 := Lib.hid (K1.out.later hb6)
  replace K2 := Lib.hid (K2.out.later hb6)
  replace K3 := Lib.hid (K3.out.later hb6)
  have hBA := two hB5 hb6
  have hz5 := hB5.size
  clear hb6 hB5
  generalize w5.heap.size = b4 at *
  obtain ⟨B13, h13⟩ : ∃ b, b4 + 1 = b := ⟨_, rfl⟩
  obtain ⟨B14, h14⟩ : ∃ b, B13 + 1 = b := ⟨_, rfl⟩
  rw [h13] at q13 q14 ⊢
  rw [h14] at q14 ⊢
  have hA14 : B14 < WA.heap.size := q14.lt
  have Q13 := Lib.hid q13
  have Q14 := Lib.hid q14
  clear q13 q14
  go_loopw [72] (fun v72 wr => Lo1 at' ls B13 B14 WA wr v72) (fun v72 _ => ls.length - (intOf v72).toNat)
  case atStart => exact ⟨0, by omega, rfl, Q13.out.same (fun _ _ => rfl), Q14.out.same (fun _ _ => rfl), Below.refl _ _⟩
  case round =>
    obtain ⟨m, hm, rfl, h1, h2, hbr⟩ := hrel
    have hBr : Below w.heap.size w wr := hBA.trans (hbr.mono (by omega))
    have HQ13 := Lib.hid h1
    have HQ14 := Lib.hid h2
    clear h1 h2 Q13 Q14
    by_cases hlt : m < ls.length
    rotate_left 1
    · rw [List.take_of_length_le (by omega)] at HQ13 HQ14
      have y0 := (hbr.cell (p := ⟨b1, 0, none⟩) (show b1 < B13 by omega)).trans K1.out.c0
      have y1 := (hbr.cell (p := ⟨b1, 1, none⟩) (show b1 < B13 by omega)).trans K1.out.c1
      have y2 := (hbr.cell (p := ⟨b1 + 1, 0, none⟩) (show b1 + 1 < B13 by omega)).trans K2.out.c0
      have y3 := (hbr.cell (p := ⟨b1 + 1, 1, none⟩) (show b1 + 1 < B13 by omega)).trans K2.out.c1
      have y4 := (hbr.cell (p := ⟨b3, 0, none⟩) (show b3 < B13 by omega)).trans K3.out.c0
      have y5 := (hbr.cell (p := ⟨b3, 1, none⟩) (show b3 < B13 by omega)).trans K3.out.c1
      have y6 := (hbr.cell (p := ⟨b4, 0, none⟩) (show b4 < B13 by omega)).trans K4.out.c0
      have y7 := (hbr.cell (p := ⟨b4, 1, none⟩) (show b4 < B13 by omega)).trans K4.out.c1
      obtain ⟨x0, x1, x2, x3, _⟩ := HQ13.out
      obtain ⟨z0, z1, z2, z3, _⟩ := HQ14.out
      go_wp2_with fail
      go_returns
      exact ⟨rfl, hBr⟩
    obtain ⟨bk, off, l, rfl, hb, hl, hat⟩ := HV.out.at hlt
    obtain ⟨c0, c1, c2, c3⟩ := LdAt.later hat hBr
    have hlt' : (m : Int) < (ls.length : Int) := by omega
    have hm0 : (0 : Int) ≤ (m : Int) := by omega
    have HLi := Lib.hid (ld_in (HOk.out l (List.mem_of_getElem? hl)))
    have HLm := Lib.hid hl
    have hsz := hBr.size
    have hsb := hbr.size
    clear hl hat
    go_wp2_with fail
    have q17 := Quad.new (wr.alloc (.cells #[.int .i64 l.a0, .int .i64 l.a1, .int .i64 l.w0, .int .i64 l.w1] 91)) 94
    have q18 := Quad.new ((wr.alloc (.cells #[.int .i64 l.a0, .int .i64 l.a1, .int .i64 l.w0, .int .i64 l.w1] 91)).alloc (.cells #[.int .i64 0, .int .i64 0, .int .i64 0, .int .i64 0] 94)) 94
    replace q17 := (q17.later ((Below.refl _ _).alloc (Nat.le_refl _) (.cells #[.int .i64 0, .int .i64 0, .int .i64 0, .int .i64 0] 94))).later ((Below.refl _ _).alloc (Nat.le_refl _) (.cells #[.int .i64 l.a0, .int .i64 l.a1] 3))
    replace q18 := q18.later ((Below.refl _ _).alloc (Nat.le_refl _) (.cells #[.int .i64 l.a0, .int .i64 l.a1] 3))
    rw [World.size_alloc] at q17
    rw [World.size_alloc, World.size_alloc] at q18
    obtain ⟨WB, hWB⟩ : ∃ W, (((wr.alloc (.cells #[.int .i64 l.a0, .int .i64 l.a1, .int .i64 l.w0, .int .i64 l.w1] 91)).alloc (.cells #[.int .i64 0, .int .i64 0, .int .i64 0, .int .i64 0] 94)).alloc (.cells #[.int .i64 0, .int .i64 0, .int .i64 0, .int .i64 0] 94)).alloc (.cells #[.int .i64 l.a0, .int .i64 l.a1] 3) = W := ⟨_, rfl⟩
    have HL := Lib.hid (show LdAt WB wr.heap.size 0 l by subst hWB; exact ⟨by go_cell, by go_cell, by go_cell, by go_cell⟩)
    have HP := Lib.hid (show Two2 WB (wr.heap.size + 1 + 1 + 1) l.a0 l.a1 by subst hWB; exact ⟨by go_cell, by go_cell⟩)
    have hbB : Below wr.heap.size wr WB := by subst hWB; go_grown
    rw [hWB] at q17 q18 ⊢
    clear hWB c0 c1 c2 c3
    replace HQ13 := Lib.hid (HQ13.out.later hbB)
    replace HQ14 := Lib.hid (HQ14.out.later hbB)
    have hB1 : Below w.heap.size w WB := two hBr hbB
    have hB2 : Below B13 WA WB := hbr.trans (hbB.mono (by have := hbr.size; omega))
    have h14r : B14 < wr.heap.size := by have := hbr.size; omega
    clear hbB hbr hBr
    obtain ⟨b16, h16⟩ : ∃ b, wr.heap.size = b := ⟨_, rfl⟩
    obtain ⟨B17, h17⟩ : ∃ b, b16 + 1 = b := ⟨_, rfl⟩
    obtain ⟨B18, h18⟩ : ∃ b, B17 + 1 = b := ⟨_, rfl⟩
    obtain ⟨Bp, hBp⟩ : ∃ b, B18 + 1 = b := ⟨_, rfl⟩
    rw [h16] at HL HP q17 q18 h14r ⊢
    rw [h17] at HP q17 q18 ⊢
    rw [h18] at HP q18 ⊢
    rw [hBp] at HP ⊢
    have Q17 := Lib.hid q17
    have Q18 := Lib.hid q18
    clear q17 q18 h16
    go_loopw [84] (fun v84 wy => Lo2 at' l B17 B18 WB wy v84) (fun v84 _ => 2 - (intOf v84).toNat)
    case atStart => exact ⟨0, by omega, rfl, Q17.out.same (fun _ _ => rfl), Q18.out.same (fun _ _ => rfl), Beside.refl _ _ _⟩
    case round =>
      generalize wr = wy at *
      obtain ⟨i, hi, rfl, h1, h2, hs2⟩ := hrel
      have HI17 := Lib.hid h1
      have HI18 := Lib.hid h2
      clear h1 h2
      by_cases hi2 : i < 2
      rotate_left 1
      · have hi4 : 2 * i = 4 := by omega
        have hi3 : ¬ (i : Int) < 2 := by omega
        rw [hi4] at HI17 HI18
        clear hi4
        have HS13 := Lib.hid (hs2.quad HQ13.out (show B13 ≠ B17 by omega) (show B13 ≠ B18 by omega))
        have HS14 := Lib.hid (hs2.quad HQ14.out (show B14 ≠ B17 by omega) (show B14 ≠ B18 by omega))
        have hB3 : Below B13 WA wy := hB2.trans (hs2.below (by omega) (by omega) (by have := hB2.size; omega))
        have HLs : Hid (∀ kk, loS at' (ls.take (m + 1)) kk = loS at' (ls.take m) kk + lowE at' l 4 kk ∧ hiS at' (ls.take (m + 1)) kk = hiS at' (ls.take m) kk + higE at' l 4 kk) :=
          Lib.hid (fun kk => ⟨sum_take (f := fun l => lowE at' l 4 kk) HLm.out, sum_take (f := fun l => higE at' l 4 kk) HLm.out⟩)
        go_wp2_with fail
        go_loopw [153] (fun v153 wu => Lo5 at' ls m B13 B14 wy wu v153) (fun v153 _ => 4 - (intOf v153).toNat)
        case atStart => exact ⟨0, by omega, rfl, by rw [mix0]; exact HS13.out, by rw [mix0]; exact HS14.out, Beside.refl _ _ _⟩
        case round =>
          generalize wr = wu at *
          obtain ⟨k, hk, rfl, h1, h2, hs9⟩ := hrel
          by_cases hk4 : k < 4
          rotate_left 1
          · obtain rfl : k = 4 := by omega
            have HK13 := Lib.hid (h1.same mix4)
            have HK14 := Lib.hid (h2.same mix4)
            clear h1 h2
            go_wp2_with fail
            go_roundw
            case rel => exact ⟨m + 1, by omega, by go_num, HK13.out, HK14.out, hB3.trans (hs9.below (Nat.le_refl _) (by omega) (by have := hB3.size; omega))⟩
            case measure => simp [intOf]; omega
          have HK13 := Lib.hid h1
          have HK14 := Lib.hid h2
          have hx := h1.get hk4
          have hy := h2.get hk4
          rw [(mix_at k _ _).1] at hx hy
          have f13 := h1.fz k
          have f14 := h2.fz k
          have hu : wu.cell? ⟨B17, k, none⟩ = some (.int .i64 (lowE at' l 4 k)) := hs9.cell (HI17.out.get hk4) (by omega) (by omega)
          have hv : wu.cell? ⟨B18, k, none⟩ = some (.int .i64 (higE at' l 4 k)) := hs9.cell (HI18.out.get hk4) (by omega) (by omega)
          obtain ⟨⟨s0, s1⟩, s2, s3⟩ := los_bound (at' := at') hp hq HOk.out h50 m k
          obtain ⟨⟨t0, t1⟩, t2, t3⟩ := low_bound (at' := at') hp hq (HOk.out l (List.mem_of_getElem? HLm.out)) k
          have hls := HLs.out k
          obtain ⟨x, hxe⟩ : ∃ x, loS at' (ls.take m) k = x := ⟨_, rfl⟩
          obtain ⟨y, hye⟩ : ∃ x, hiS at' (ls.take m) k = x := ⟨_, rfl⟩
          obtain ⟨a, hae⟩ : ∃ x, lowE at' l 4 k = x := ⟨_, rfl⟩
          obtain ⟨b, hbe⟩ : ∃ x, higE at' l 4 k = x := ⟨_, rfl⟩
          rw [hxe] at hx s0 s1 hls
          rw [hye] at hy s2 s3 hls
          rw [hae] at hu t0 t1 hls
          rw [hbe] at hv t2 t3 hls
          have HF1 := Lib.hid (show mixE (k + 1) (loS at' (ls.take (m + 1))) (loS at' (ls.take m)) k = x + a by rw [(mix_at k _ _).2, hls.1])
          have HF2 := Lib.hid (show mixE (k + 1) (hiS at' (ls.take (m + 1))) (hiS at' (ls.take m)) k = y + b by rw [(mix_at k _ _).2, hls.2])
          have hk' : (k : Int) < 4 := by omega
          have hk0 : (0 : Int) ≤ (k : Int) := by omega
          have n1 : B13 ≠ B14 := by omega
          have n2 : B14 ≠ B13 := by omega
          have n3 : B17 ≠ B13 := by omega
          have n4 : B18 ≠ B13 := by omega
          clear h1 h2 hxe hye hae hbe hls
          go_wp2_with fail
          have hd1 : Below wu.heap.size wu wu.drew := below_drewN (Below.refl _ _) 1
          have hXY : wu.drew.cell? ⟨B13, k, none⟩ = some (.int .i64 x) ∧ wu.drew.cell? ⟨B17, k, none⟩ = some (.int .i64 a) := ⟨cell_later hd1 hx, cell_later hd1 hu⟩
          have hX := hXY.1
          have gg : wu.drew.frozen? ⟨B13, k, none⟩ = false := f13
          refine AnyV.start (Two 8 (fun w' => w'.cell? ⟨B13, k, none⟩ = some (.int .i64 x) ∧ w'.cell? ⟨B17, k, none⟩ = some (.int .i64 a)) 8 (fun _ => True)) 9 #[false, false, false, false, false, false, false, false, false] (by kernel_rfl) (by kernel_rfl) (by kernel_rfl) (fun _ => ⟨fun _ => hXY, fun _ => trivial⟩) (fun _ => ?_)
          generalize World.drew wu = wd1 at hXY hX gg hd1 ⊢
          refine AnyV.take 8 9 (i := 0) (oi := _) (v := ?_) rfl (by kernel_rfl) (by kernel_rfl) (by kernel_rfl) (by kernel_rfl) (by kernel_rfl) (fun _ _ _ h => h) (Two.other (by decide)) (Or.inl ⟨by kernel_rfl, ?_⟩) (Two.till (fun _ => hXY) (fun _ => trivial)) (fun _ => ?_)
          rotate_left 1
          · intro wz hSw'; have hSw := hSw'.1 rfl; clear hSw'; skip; go_simp; try with_reducible rfl
          try simp only [Act.put, List.setIfInBounds_toArray, List.set_cons_zero, List.set_cons_succ]
          refine AnyV.take 8 9 (i := 1) (oi := _) (v := ?_) rfl (by kernel_rfl) (by kernel_rfl) (by kernel_rfl) (by kernel_rfl) (by kernel_rfl) (fun _ _ _ h => h) (Two.other (by decide)) (Or.inl ⟨by kernel_rfl, ?_⟩) (Two.till (fun _ => hXY) (fun _ => trivial)) (fun _ => ?_)
          rotate_left 1
          · intro wz hSw'; have hSw := hSw'.1 rfl; clear hSw'; skip; go_simp; try with_reducible rfl
          try simp only [Act.put, List.setIfInBounds_toArray, List.set_cons_zero, List.set_cons_succ]
          refine AnyV.take 8 9 (i := 2) (oi := _) (v := ?_) rfl (by kernel_rfl) (by kernel_rfl) (by kernel_rfl) (by kernel_rfl) (by kernel_rfl) (fun _ _ _ h => h) (Two.other (by decide)) (Or.inl ⟨by kernel_rfl, ?_⟩) (Two.till (fun _ => hXY) (fun _ => trivial)) (fun _ => ?_)
          rotate_left 1
          · intro wz hSw'; have hSw := hSw'.1 rfl; clear hSw'; have h1 := hSw.1; go_simp; try with_reducible rfl
          try simp only [Act.put, List.setIfInBounds_toArray, List.set_cons_zero, List.set_cons_succ]
          refine AnyV.take 8 9 (i := 3) (oi := _) (v := ?_) rfl (by kernel_rfl) (by kernel_rfl) (by kernel_rfl) (by kernel_rfl) (by kernel_rfl) (fun _ _ _ h => h) (Two.other (by decide)) (Or.inl ⟨by kernel_rfl, ?_⟩) (Two.till (fun _ => hXY) (fun _ => trivial)) (fun _ => ?_)
          rotate_left 1
          · intro wz hSw'; have hSw := hSw'.1 rfl; clear hSw'; skip; go_simp; try with_reducible rfl
          try simp only [Act.put, List.setIfInBounds_toArray, List.set_cons_zero, List.set_cons_succ]
          refine AnyV.take 8 9 (i := 4) (oi := _) (v := ?_) rfl (by kernel_rfl) (by kernel_rfl) (by kernel_rfl) (by kernel_rfl) (by kernel_rfl) (fun _ _ _ h => h) (Two.other (by decide)) (Or.inl ⟨by kernel_rfl, ?_⟩) (Two.till (fun _ => hXY) (fun _ => trivial)) (fun _ => ?_)
          rotate_left 1
          · intro wz hSw'; have hSw := hSw'.1 rfl; clear hSw'; skip; go_simp; try with_reducible rfl
          try simp only [Act.put, List.setIfInBounds_toArray, List.set_cons_zero, List.set_cons_succ]
          refine AnyV.take 8 9 (i := 5) (oi := _) (v := ?_) rfl (by kernel_rfl) (by kernel_rfl) (by kernel_rfl) (by kernel_rfl) (by kernel_rfl) (fun _ _ _ h => h) (Two.other (by decide)) (Or.inl ⟨by kernel_rfl, ?_⟩) (Two.till (fun _ => hXY) (fun _ => trivial)) (fun _ => ?_)
          rotate_left 1
          · intro wz hSw'; have hSw := hSw'.1 rfl; clear hSw'; have h1 := hSw.2; go_simp; try with_reducible rfl
          try simp only [Act.put, List.setIfInBounds_toArray, List.set_cons_zero, List.set_cons_succ]
          refine AnyV.take 8 9 (i := 6) (oi := _) (v := ?_) rfl (by kernel_rfl) (by kernel_rfl) (by kernel_rfl) (by kernel_rfl) (by kernel_rfl) (fun _ _ _ h => h) (Two.other (by decide)) (Or.inl ⟨by kernel_rfl, ?_⟩) (Two.till (fun _ => hXY) (fun _ => trivial)) (fun _ => ?_)
          rotate_left 1
          · intro wz hSw'; have hSw := hSw'.1 rfl; clear hSw'; skip; go_simp; try with_reducible rfl
          try simp only [Act.put, List.setIfInBounds_toArray, List.set_cons_zero, List.set_cons_succ]
          refine AnyV.take 8 9 (i := 7) (oi := _) (v := ?_) rfl (by kernel_rfl) (by kernel_rfl) (by kernel_rfl) (by kernel_rfl) (by kernel_rfl) (fun _ _ _ h => h) (Two.other (by decide)) (Or.inl ⟨by kernel_rfl, ?_⟩) (Two.till (fun _ => hXY) (fun _ => trivial)) (fun _ => ?_)
          rotate_left 1
          · intro wz hSw'; have hSw := hSw'.1 rfl; clear hSw'; skip; go_simp; try with_reducible rfl
          try simp only [Act.put, List.setIfInBounds_toArray, List.set_cons_zero, List.set_cons_succ]
          refine AnyV.one (i := 8) (o := _) rfl (by kernel_rfl) (fun K hK => ?_)
          go_simp
          refine hK.out _ _ (Two.till (fun h => absurd h (by decide)) (fun _ => trivial)) ?_
          clear hK K
          refine AnyV.done (by kernel_rfl) ?_
          try simp only [Act.put, List.setIfInBounds_toArray, List.set_cons_zero, List.set_cons_succ]
          clear hXY hX gg
          rw [show IntKind.i64.wrap (x + a) = x + a from IntWalk.i64_in _ ⟨by omega, by omega⟩]
          have QA := (HK13.out.later hd1).store hk4 (x + a) HF1.out (fun i _ h => mix_far _ _ h)
          have QB := (HK14.out.later hd1).other n2 (g := B13) (o := k) (.int .i64 (x + a))
          have hsA := (hs9.trans (Beside.of hd1)).trans (Beside.store1 (o := k) wd1 (.int .i64 (x + a)))
          have hy1 : (wd1.setCell ⟨B13, k, none⟩ (.int .i64 (x + a))).cell? ⟨B14, k, none⟩ = some (.int .i64 y) := by rw [cell_far _ _ n2]; exact cell_later hd1 hy
          have hv1 : (wd1.setCell ⟨B13, k, none⟩ (.int .i64 (x + a))).cell? ⟨B18, k, none⟩ = some (.int .i64 b) := by rw [cell_far _ _ n4]; exact cell_later hd1 hv
          have f15 := QB.fz k
          obtain ⟨wv, hwv⟩ : ∃ W, wd1.setCell ⟨B13, k, none⟩ (.int .i64 (x + a)) = W := ⟨_, rfl⟩
          rw [hwv] at QA QB hsA hy1 hv1 f15 ⊢
          have HQA := Lib.hid QA
          have HQB := Lib.hid QB
          clear hwv QA QB hx hy hu hv f13 f14 hd1
          go_wp2_with fail
          have hd2 : Below wv.heap.size wv wv.drew := below_drewN (Below.refl _ _) 1
          have hXY : wv.drew.cell? ⟨B14, k, none⟩ = some (.int .i64 y) ∧ wv.drew.cell? ⟨B18, k, none⟩ = some (.int .i64 b) := ⟨cell_later hd2 hy1, cell_later hd2 hv1⟩
          have hX := hXY.1
          have gg : wv.drew.frozen? ⟨B14, k, none⟩ = false := f15
          refine AnyV.start (Two 8 (fun w' => w'.cell? ⟨B14, k, none⟩ = some (.int .i64 y) ∧ w'.cell? ⟨B18, k, none⟩ = some (.int .i64 b)) 8 (fun _ => True)) 9 #[false, false, false, false, false, false, false, false, false] (by kernel_rfl) (by kernel_rfl) (by kernel_rfl) (fun _ => ⟨fun _ => hXY, fun _ => trivial⟩) (fun _ => ?_)
          generalize World.drew wv = wd2 at hXY hX gg hd2 ⊢
          refine AnyV.take 8 9 (i := 0) (oi := _) (v := ?_) rfl (by kernel_rfl) (by kernel_rfl) (by kernel_rfl) (by kernel_rfl) (by kernel_rfl) (fun _ _ _ h => h) (Two.other (by decide)) (Or.inl ⟨by kernel_rfl, ?_⟩) (Two.till (fun _ => hXY) (fun _ => trivial)) (fun _ => ?_)
          rotate_left 1
          · intro wz hSw'; have hSw := hSw'.1 rfl; clear hSw'; skip; go_simp; try with_reducible rfl
          try simp only [Act.put, List.setIfInBounds_toArray, List.set_cons_zero, List.set_cons_succ]
          refine AnyV.take 8 9 (i := 1) (oi := _) (v := ?_) rfl (by kernel_rfl) (by kernel_rfl) (by kernel_rfl) (by kernel_rfl) (by kernel_rfl) (fun _ _ _ h => h) (Two.other (by decide)) (Or.inl ⟨by kernel_rfl, ?_⟩) (Two.till (fun _ => hXY) (fun _ => trivial)) (fun _ => ?_)
          rotate_left 1
          · intro wz hSw'; have hSw := hSw'.1 rfl; clear hSw'; skip; go_simp; try with_reducible rfl
          try simp only [Act.put, List.setIfInBounds_toArray, List.set_cons_zero, List.set_cons_succ]
          refine AnyV.take 8 9 (i := 2) (oi := _) (v := ?_) rfl (by kernel_rfl) (by kernel_rfl) (by kernel_rfl) (by kernel_rfl) (by kernel_rfl) (fun _ _ _ h => h) (Two.other (by decide)) (Or.inl ⟨by kernel_rfl, ?_⟩) (Two.till (fun _ => hXY) (fun _ => trivial)) (fun _ => ?_)
          rotate_left 1
          · intro wz hSw'; have hSw := hSw'.1 rfl; clear hSw'; have h1 := hSw.1; go_simp; try with_reducible rfl
          try simp only [Act.put, List.setIfInBounds_toArray, List.set_cons_zero, List.set_cons_succ]
          refine AnyV.take 8 9 (i := 3) (oi := _) (v := ?_) rfl (by kernel_rfl) (by kernel_rfl) (by kernel_rfl) (by kernel_rfl) (by kernel_rfl) (fun _ _ _ h => h) (Two.other (by decide)) (Or.inl ⟨by kernel_rfl, ?_⟩) (Two.till (fun _ => hXY) (fun _ => trivial)) (fun _ => ?_)
          rotate_left 1
          · intro wz hSw'; have hSw := hSw'.1 rfl; clear hSw'; skip; go_simp; try with_reducible rfl
          try simp only [Act.put, List.setIfInBounds_toArray, List.set_cons_zero, List.set_cons_succ]
          refine AnyV.take 8 9 (i := 4) (oi := _) (v := ?_) rfl (by kernel_rfl) (by kernel_rfl) (by kernel_rfl) (by kernel_rfl) (by kernel_rfl) (fun _ _ _ h => h) (Two.other (by decide)) (Or.inl ⟨by kernel_rfl, ?_⟩) (Two.till (fun _ => hXY) (fun _ => trivial)) (fun _ => ?_)
          rotate_left 1
          · intro wz hSw'; have hSw := hSw'.1 rfl; clear hSw'; skip; go_simp; try with_reducible rfl
          try simp only [Act.put, List.setIfInBounds_toArray, List.set_cons_zero, List.set_cons_succ]
          refine AnyV.take 8 9 (i := 5) (oi := _) (v := ?_) rfl (by kernel_rfl) (by kernel_rfl) (by kernel_rfl) (by kernel_rfl) (by kernel_rfl) (fun _ _ _ h => h) (Two.other (by decide)) (Or.inl ⟨by kernel_rfl, ?_⟩) (Two.till (fun _ => hXY) (fun _ => trivial)) (fun _ => ?_)
          rotate_left 1
          · intro wz hSw'; have hSw := hSw'.1 rfl; clear hSw'; have h1 := hSw.2; go_simp; try with_reducible rfl
          try simp only [Act.put, List.setIfInBounds_toArray, List.set_cons_zero, List.set_cons_succ]
          refine AnyV.take 8 9 (i := 6) (oi := _) (v := ?_) rfl (by kernel_rfl) (by kernel_rfl) (by kernel_rfl) (by kernel_rfl) (by kernel_rfl) (fun _ _ _ h => h) (Two.other (by decide)) (Or.inl ⟨by kernel_rfl, ?_⟩) (Two.till (fun _ => hXY) (fun _ => trivial)) (fun _ => ?_)
          rotate_left 1
          · intro wz hSw'; have hSw := hSw'.1 rfl; clear hSw'; skip; go_simp; try with_reducible rfl
          try simp only [Act.put, List.setIfInBounds_toArray, List.set_cons_zero, List.set_cons_succ]
          refine AnyV.take 8 9 (i := 7) (oi := _) (v := ?_) rfl (by kernel_rfl) (by kernel_rfl) (by kernel_rfl) (by kernel_rfl) (by kernel_rfl) (fun _ _ _ h => h) (Two.other (by decide)) (Or.inl ⟨by kernel_rfl, ?_⟩) (Two.till (fun _ => hXY) (fun _ => trivial)) (fun _ => ?_)
          rotate_left 1
          · intro wz hSw'; have hSw := hSw'.1 rfl; clear hSw'; skip; go_simp; try with_reducible rfl
          try simp only [Act.put, List.setIfInBounds_toArray, List.set_cons_zero, List.set_cons_succ]
          refine AnyV.one (i := 8) (o := _) rfl (by kernel_rfl) (fun K hK => ?_)
          go_simp
          refine hK.out _ _ (Two.till (fun h => absurd h (by decide)) (fun _ => trivial)) ?_
          clear hK K
          refine AnyV.done (by kernel_rfl) ?_
          try simp only [Act.put, List.setIfInBounds_toArray, List.set_cons_zero, List.set_cons_succ]
          clear hXY hX gg
          rw [show IntKind.i64.wrap (y + b) = y + b from IntWalk.i64_in _ ⟨by omega, by omega⟩]
          have QC := Lib.hid ((HQA.out.later hd2).other n1 (g := B14) (o := k) (.int .i64 (y + b)))
          have QD := Lib.hid ((HQB.out.later hd2).store hk4 (y + b) HF2.out (fun i _ h => mix_far _ _ h))
          have hsB := (hsA.trans (Beside.of hd2)).trans (Beside.store2 (o := k) wd2 (.int .i64 (y + b)))
          clear hy1 hv1 f15
          go_wp2_with fail
          go_roundw
          case rel => exact ⟨k + 1, by omega, by go_num, QC.out, QD.out, hsB⟩
          case measure => simp [intOf]; omega
      have hp0 : wy.cell? ⟨Bp, i, none⟩ = some (.int .i64 (plE l i)) := hs2.cell (pair_cells HP.out hi2) (by omega) (by omega)
      have c2 := hs2.cell HL.out.c2 (by omega) (by omega)
      have c3 := hs2.cell HL.out.c3 (by omega) (by omega)
      have hlp := HLi.out
      have hpb : -20000 ≤ plE l i ∧ plE l i ≤ 20000 := by unfold plE; split <;> omega
      obtain ⟨p, hpe⟩ : ∃ p, plE l i = p := ⟨_, rfl⟩
      rw [hpe] at hp0 hpb
      have HPe := Lib.hid hpe
      have hi' : (i : Int) < 2 := by omega
      have hi0 : (0 : Int) ≤ (i : Int) := by omega
      have h18y : B18 < wy.heap.size := HI18.out.lt
      clear hpe
      go_wp2_with fail
      obtain ⟨WC, hWC⟩ : ∃ W, wy.alloc (.cells #[.int .i64 l.w0, .int .i64 l.w1] 3) = W := ⟨_, rfl⟩
      have HW := Lib.hid (show Two2 WC wy.heap.size l.w0 l.w1 by subst hWC; exact ⟨by go_cell, by go_cell⟩)
      have hbC : Below wy.heap.size wy WC := by subst hWC; go_grown
      rw [hWC]
      clear hWC hp0 c2 c3
      replace HI17 := Lib.hid (HI17.out.later hbC)
      replace HI18 := Lib.hid (HI18.out.later hbC)
      have hs3 : Beside B17 B18 WB WC := hs2.trans (Beside.of hbC)
      clear hbC hs2
      obtain ⟨Bw, hBw⟩ : ∃ b, wy.heap.size = b := ⟨_, rfl⟩
      rw [hBw] at HW h18y ⊢
      clear hBw
      go_loopw [97] (fun v97 wz => Lo3 at' l i B17 B18 WC wz v97) (fun v97 _ => 2 - (intOf v97).toNat)
      case atStart => exact ⟨0, by omega, rfl, HI17.out, HI18.out, Beside.refl _ _ _⟩
      case round =>
        generalize wr = wz at *
        obtain ⟨j, hj, rfl, h1, h2, hs4⟩ := hrel
        have HJ17 := Lib.hid h1
        have HJ18 := Lib.hid h2
        clear h1 h2
        by_cases hj2 : j < 2
        rotate_left 1
        · obtain rfl : j = 2 := by omega
          go_wp2_with fail
          go_roundw
          case rel => exact ⟨i + 1, by omega, by go_num, HJ17.out, HJ18.out, hs3.trans hs4⟩
          case measure => simp [intOf]; omega
        have hw0 : wz.cell? ⟨Bw, j, none⟩ = some (.int .i64 (weE l j)) := hs4.cell (pair_cells HW.out hj2) (by omega) (by omega)
        have hwb : -1073741824 ≤ weE l j ∧ weE l j ≤ 1073741824 := by unfold weE; split <;> omega
        have HCo : Hid (∀ kk, coE at' l (2 * i + j) kk = cfE at' p (weE l j) kk) := Lib.hid (fun kk => by rw [co_at at' l hj2, HPe.out])
        obtain ⟨wt, hwe⟩ : ∃ p, weE l j = p := ⟨_, rfl⟩
        rw [hwe] at hw0 hwb HCo
        have hj' : (j : Int) < 2 := by omega
        have hj0 : (0 : Int) ≤ (j : Int) := by omega
        have h18z : B18 < wz.heap.size := HJ18.out.lt
        clear hwe
        obtain ⟨w0, w1⟩ := hwb
        obtain ⟨p0, p1⟩ := hpb
        have hP0 := mul_lim (m := 1073741824) (n := 20000) (x := wt) (y := p) w0 w1 p0 p1
        have f0 : cfE at' p wt 0 = wt := rfl
        have f1 : cfE at' p wt 1 = wt * p := rfl
        have f2 : cfE at' p wt 2 = wt * innE at' p := rfl
        have f3 : cfE at' p wt 3 = wt * innE at' p * (at' - p) := rfl
        obtain ⟨P, hP⟩ : ∃ P, wt * p = P := ⟨_, rfl⟩
        rw [hP] at hP0 f1
        obtain ⟨P0, P1⟩ := hP0
        by_cases hs : p < at'
        · have hin : innE at' p = 1 := by unfold innE; rw [if_pos hs]
          rw [hin, Int.mul_one] at f2 f3
          obtain ⟨D, hD⟩ : ∃ D, at' - p = D := ⟨_, rfl⟩
          have eD : IntKind.i64.wrap (at' - p) = D := by rw [hD]; exact IntWalk.i64_in _ ⟨by omega, by omega⟩
          have hQ0 := mul_lim (m := 1073741824) (n := 40000) (x := wt) (y := D) w0 w1 (by omega) (by omega)
          rw [hD] at f3
          obtain ⟨Q, hQ⟩ : ∃ P, wt * D = P := ⟨_, rfl⟩
          rw [hQ] at hQ0 f3
          obtain ⟨Q0, Q1⟩ := hQ0
          clear hin
          go_wp2_with fail
          obtain ⟨WD, hWD⟩ : ∃ W, wz.alloc (.cells #[.int .i64 wt, .int .i64 P, .int .i64 wt, .int .i64 Q] 3) = W := ⟨_, rfl⟩
          have HNq := Lib.hid (show Quad WD wz.heap.size (cfE at' p wt) by
            subst hWD
            exact ⟨by rw [f0]; go_cell, by rw [f1]; go_cell, by rw [f2]; go_cell, by rw [f3]; go_cell, fun _ => World.frozen?_alloc_at _ _ _ _ rfl⟩)
          have hbD : Below wz.heap.size wz WD := by subst hWD; go_grown
          rw [hWD]
          clear hWD hw0 f0 f1 f2 f3
          replace HJ17 := Lib.hid (HJ17.out.later hbD)
          replace HJ18 := Lib.hid (HJ18.out.later hbD)
          have hs5 : Beside B17 B18 WC WD := hs4.trans (Beside.of hbD)
          clear hbD hs4
          obtain ⟨Bn, hBn⟩ : ∃ b, wz.heap.size = b := ⟨_, rfl⟩
          rw [hBn] at HNq h18z ⊢
          clear hBn
          go_loopw [121] (fun v121 wq => Lo4 at' l (2 * i + j) B17 B18 WD wq v121) (fun v121 _ => 4 - (intOf v121).toNat)
          case atStart => exact ⟨0, by omega, rfl, by rw [mix0]; exact HJ17.out, by rw [mix0]; exact HJ18.out, Beside.refl _ _ _⟩
          case round =>
            generalize wr = wq at *
            obtain ⟨k, hk, rfl, h1, h2, hs6⟩ := hrel
            by_cases hk4 : k < 4
            rotate_left 1
            · obtain rfl : k = 4 := by omega
              have HK17 := Lib.hid (h1.same mix4)
              have HK18 := Lib.hid (h2.same mix4)
              clear h1 h2
              go_wp2_with fail
              go_roundw
              case rel => exact ⟨j + 1, by omega, by go_num, HK17.out, HK18.out, hs5.trans hs6⟩
              case measure => simp [intOf]; omega
            have hn : wq.cell? ⟨Bn, k, none⟩ = some (.int .i64 (cfE at' p wt k)) := hs6.cell (HNq.out.get hk4) (by omega) (by omega)
            have hnx := low_next at' l (HCo.out k)
            obtain ⟨n, hne⟩ : ∃ n, cfE at' p wt k = n := ⟨_, rfl⟩
            rw [hne] at hn hnx
            have HNx := Lib.hid hnx
            have HK17 := Lib.hid h1
            have HK18 := Lib.hid h2
            have hx := h1.get hk4
            have hy := h2.get hk4
            rw [(mix_at k _ _).1] at hx hy
            have f17 := h1.fz k
            have f18 := h2.fz k
            have hk' : (k : Int) < 4 := by omega
            have hk0 : (0 : Int) ≤ (k : Int) := by omega
            have hne1 : B17 ≠ B18 := by omega
            have hne2 : B18 ≠ B17 := by omega
            clear h1 h2 hnx hne
            obtain ⟨x, hxe⟩ : ∃ x, lowE at' l (2 * i + j) k = x := ⟨_, rfl⟩
            obtain ⟨y, hye⟩ : ∃ x, higE at' l (2 * i + j) k = x := ⟨_, rfl⟩
            rw [hxe] at hx HNx
            rw [hye] at hy HNx
            clear hxe hye
            by_cases ht : i + j = 0
            · have ht' : (i : Int) + (j : Int) = 0 := by omega
              go_wp2_with fail
              obtain ⟨WZ, hWZ⟩ : ∃ W, (wq.setCell ⟨B17, k, none⟩ (.int .i64 n)).setCell ⟨B18, k, none⟩ (.int .i64 n) = W := ⟨_, rfl⟩
              have z17 : Quad WZ B17 (fun a => if a = k then n else mixE k (lowE at' l (2 * i + j + 1)) (lowE at' l (2 * i + j)) a) := by
                rw [← hWZ]
                exact (HK17.out.store hk4 n (by simp) (fun a _ h => if_neg h)).other hne1 _
              have z18 : Quad WZ B18 (fun a => if a = k then n else mixE k (higE at' l (2 * i + j + 1)) (higE at' l (2 * i + j)) a) := by
                rw [← hWZ]
                exact (HK18.out.other hne2 _).store hk4 n (by simp) (fun a _ h => if_neg h)
              have hs7 : Beside B17 B18 WD WZ := by rw [← hWZ]; exact hs6.trans ((Beside.store1 wq _).trans (Beside.store2 _ _))
              rw [hWZ]
              have HZ17 := Lib.hid z17
              have HZ18 := Lib.hid z18
              have HF1 := Lib.hid (show mixE (k + 1) (lowE at' l (2 * i + j + 1)) (lowE at' l (2 * i + j)) k = n by rw [(mix_at k _ _).2, (HNx.out.1 (by omega)).1])
              have HF2 := Lib.hid (show mixE (k + 1) (higE at' l (2 * i + j + 1)) (higE at' l (2 * i + j)) k = n by rw [(mix_at k _ _).2, (HNx.out.1 (by omega)).2])
              have hX0 : WZ.cell? ⟨B17, k, none⟩ = some (.int .i64 n) := by have := z17.get hk4; simpa using this
              have hY0 : WZ.cell? ⟨B18, k, none⟩ = some (.int .i64 n) := by have := z18.get hk4; simpa using this
              replace f17 := z17.fz k
              replace f18 := z18.fz k
              clear hWZ z17 z18 hx hy hn hs6
              have hd : Below WZ.heap.size WZ WZ.drew := below_drewN (Below.refl WZ.heap.size WZ) 1
              have hX : WZ.drew.cell? ⟨B17, k, none⟩ = some (.int .i64 n) := cell_later hd hX0
              have hY : WZ.drew.cell? ⟨B18, k, none⟩ = some (.int .i64 n) := cell_later hd hY0
              have g17 : (WZ.drew).frozen? ⟨B17, k, none⟩ = false := f17
              have g18 : (WZ.drew).frozen? ⟨B18, k, none⟩ = false := f18
              clear hX0 hY0 f17 f18
              refine AnyV.start (Two 13 (fun w' => w'.cell? ⟨B17, k, none⟩ = some (.int .i64 n)) 15 (fun w' => w'.cell? ⟨B18, k, none⟩ = some (.int .i64 n))) 16 #[false, false, false, false, false, false, false, false, false, false, false, false, false, false, false, false] (by kernel_rfl) (by kernel_rfl) (by kernel_rfl) (fun _ => ⟨fun _ => hX, fun _ => hY⟩) (fun _ => ?_)
              generalize World.drew WZ = wd at hX hY g17 g18 hd ⊢
              refine AnyV.take 13 16 (i := 0) (oi := _) (v := ?_) rfl (by kernel_rfl) (by kernel_rfl) (by kernel_rfl) (by kernel_rfl) (by kernel_rfl) (fun _ _ _ h => h) (Two.other (by decide)) (Or.inl ⟨by kernel_rfl, ?_⟩) (Two.till (fun _ => hX) (fun _ => hY)) (fun _ => ?_)
              rotate_left 1
              · intro wz hSw'; have hSw := hSw'.1 rfl; clear hSw'; skip; go_simp; try with_reducible rfl
              try simp only [Act.put, List.setIfInBounds_toArray, List.set_cons_zero, List.set_cons_succ]
              refine AnyV.take 13 16 (i := 2) (oi := _) (v := ?_) rfl (by kernel_rfl) (by kernel_rfl) (by kernel_rfl) (by kernel_rfl) (by kernel_rfl) (fun _ _ _ h => h) (Two.other (by decide)) (Or.inl ⟨by kernel_rfl, ?_⟩) (Two.till (fun _ => hX) (fun _ => hY)) (fun _ => ?_)
              rotate_left 1
              · intro wz hSw'; have hSw := hSw'.1 rfl; clear hSw'; skip; go_simp; try with_reducible rfl
              try simp only [Act.put, List.setIfInBounds_toArray, List.set_cons_zero, List.set_cons_succ]
              refine AnyV.take 13 16 (i := 3) (oi := _) (v := ?_) rfl (by kernel_rfl) (by kernel_rfl) (by kernel_rfl) (by kernel_rfl) (by kernel_rfl) (fun _ _ _ h => h) (Two.other (by decide)) (Or.inl ⟨by kernel_rfl, ?_⟩) (Two.till (fun _ => hX) (fun _ => hY)) (fun _ => ?_)
              rotate_left 1
              · intro wz hSw'; have hSw := hSw'.1 rfl; clear hSw'; skip; go_simp; try with_reducible rfl
              try simp only [Act.put, List.setIfInBounds_toArray, List.set_cons_zero, List.set_cons_succ]
              refine AnyV.take 13 16 (i := 4) (oi := _) (v := ?_) rfl (by kernel_rfl) (by kernel_rfl) (by kernel_rfl) (by kernel_rfl) (by kernel_rfl) (fun _ _ _ h => h) (Two.other (by decide)) (Or.inl ⟨by kernel_rfl, ?_⟩) (Two.till (fun _ => hX) (fun _ => hY)) (fun _ => ?_)
              rotate_left 1
              · intro wz hSw'; have hSw := hSw'.1 rfl; clear hSw'; have h1 := hSw; go_simp; try with_reducible rfl
              try simp only [Act.put, List.setIfInBounds_toArray, List.set_cons_zero, List.set_cons_succ]
              refine AnyV.take 13 16 (i := 5) (oi := _) (v := ?_) rfl (by kernel_rfl) (by kernel_rfl) (by kernel_rfl) (by kernel_rfl) (by kernel_rfl) (fun _ _ _ h => h) (Two.other (by decide)) (Or.inl ⟨by kernel_rfl, ?_⟩) (Two.till (fun _ => hX) (fun _ => hY)) (fun _ => ?_)
              rotate_left 1
              · intro wz hSw'; have hSw := hSw'.1 rfl; clear hSw'; skip; go_simp; try with_reducible rfl
              try simp only [Act.put, List.setIfInBounds_toArray, List.set_cons_zero, List.set_cons_succ]
              refine AnyV.take 13 16 (i := 6) (oi := _) (v := ?_) rfl (by kernel_rfl) (by kernel_rfl) (by kernel_rfl) (by kernel_rfl) (by kernel_rfl) (fun _ _ _ h => h) (Two.other (by decide)) (Or.inl ⟨by kernel_rfl, ?_⟩) (Two.till (fun _ => hX) (fun _ => hY)) (fun _ => ?_)
              rotate_left 1
              · intro wz hSw'; have hSw := hSw'.1 rfl; clear hSw'; skip; go_simp; try with_reducible rfl
              try simp only [Act.put, List.setIfInBounds_toArray, List.set_cons_zero, List.set_cons_succ]
              refine AnyV.take 15 16 (i := 1) (oi := _) (v := ?_) rfl (by kernel_rfl) (by kernel_rfl) (by kernel_rfl) (by kernel_rfl) (by kernel_rfl) (fun _ _ _ h => h) (Two.other (by decide)) (Or.inl ⟨by kernel_rfl, ?_⟩) (Two.till (fun _ => hX) (fun _ => hY)) (fun _ => ?_)
              rotate_left 1
              · intro wz hSw'; have hSw := hSw'.2 rfl; clear hSw'; skip; go_simp; try with_reducible rfl
              try simp only [Act.put, List.setIfInBounds_toArray, List.set_cons_zero, List.set_cons_succ]
              refine AnyV.take 15 16 (i := 7) (oi := _) (v := ?_) rfl (by kernel_rfl) (by kernel_rfl) (by kernel_rfl) (by kernel_rfl) (by kernel_rfl) (fun _ _ _ h => h) (Two.other (by decide)) (Or.inl ⟨by kernel_rfl, ?_⟩) (Two.till (fun _ => hX) (fun _ => hY)) (fun _ => ?_)
              rotate_left 1
              · intro wz hSw'; have hSw := hSw'.2 rfl; clear hSw'; skip; go_simp; try with_reducible rfl
              try simp only [Act.put, List.setIfInBounds_toArray, List.set_cons_zero, List.set_cons_succ]
              refine AnyV.take 15 16 (i := 8) (oi := _) (v := ?_) rfl (by kernel_rfl) (by kernel_rfl) (by kernel_rfl) (by kernel_rfl) (by kernel_rfl) (fun _ _ _ h => h) (Two.other (by decide)) (Or.inl ⟨by kernel_rfl, ?_⟩) (Two.till (fun _ => hX) (fun _ => hY)) (fun _ => ?_)
              rotate_left 1
              · intro wz hSw'; have hSw := hSw'.2 rfl; clear hSw'; skip; go_simp; try with_reducible rfl
              try simp only [Act.put, List.setIfInBounds_toArray, List.set_cons_zero, List.set_cons_succ]
              refine AnyV.take 15 16 (i := 9) (oi := _) (v := ?_) rfl (by kernel_rfl) (by kernel_rfl) (by kernel_rfl) (by kernel_rfl) (by kernel_rfl) (fun _ _ _ h => h) (Two.other (by decide)) (Or.inl ⟨by kernel_rfl, ?_⟩) (Two.till (fun _ => hX) (fun _ => hY)) (fun _ => ?_)
              rotate_left 1
              · intro wz hSw'; have hSw := hSw'.2 rfl; clear hSw'; have h1 := hSw; go_simp; try with_reducible rfl
              try simp only [Act.put, List.setIfInBounds_toArray, List.set_cons_zero, List.set_cons_succ]
              refine AnyV.take 15 16 (i := 10) (oi := _) (v := ?_) rfl (by kernel_rfl) (by kernel_rfl) (by kernel_rfl) (by kernel_rfl) (by kernel_rfl) (fun _ _ _ h => h) (Two.other (by decide)) (Or.inl ⟨by kernel_rfl, ?_⟩) (Two.till (fun _ => hX) (fun _ => hY)) (fun _ => ?_)
              rotate_left 1
              · intro wz hSw'; have hSw := hSw'.2 rfl; clear hSw'; skip; go_simp; try with_reducible rfl
              try simp only [Act.put, List.setIfInBounds_toArray, List.set_cons_zero, List.set_cons_succ]
              refine AnyV.take 15 16 (i := 11) (oi := _) (v := ?_) rfl (by kernel_rfl) (by kernel_rfl) (by kernel_rfl) (by kernel_rfl) (by kernel_rfl) (fun _ _ _ h => h) (Two.other (by decide)) (Or.inl ⟨by kernel_rfl, ?_⟩) (Two.till (fun _ => hX) (fun _ => hY)) (fun _ => ?_)
              rotate_left 1
              · intro wz hSw'; have hSw := hSw'.2 rfl; clear hSw'; skip; go_simp; try with_reducible rfl
              try simp only [Act.put, List.setIfInBounds_toArray, List.set_cons_zero, List.set_cons_succ]
              refine AnyV.take 13 16 (i := 12) (oi := _) (v := ?_) rfl (by kernel_rfl) (by kernel_rfl) (by kernel_rfl) (by kernel_rfl) (by kernel_rfl) (fun _ _ _ h => h) (Two.other (by decide)) (Or.inl ⟨by kernel_rfl, ?_⟩) (Two.till (fun _ => hX) (fun _ => hY)) (fun _ => ?_)
              rotate_left 1
              · intro wz hSw'; have hSw := hSw'.1 rfl; clear hSw'; skip; go_simp; try with_reducible rfl
              try simp only [Act.put, List.setIfInBounds_toArray, List.set_cons_zero, List.set_cons_succ]
              refine AnyV.one (i := 13) (o := _) rfl (by kernel_rfl) (fun K hK => ?_)
              go_simp
              refine hK.out _ _ (Two.till (fun h => absurd h (by decide)) (fun _ => by rw [cell_far _ _ hne2]; exact hY)) ?_
              clear hK K
              try simp only [Act.put, List.setIfInBounds_toArray, List.set_cons_zero, List.set_cons_succ]
              refine AnyV.one (i := 14) (o := _) rfl (by kernel_rfl) (fun K hK => ?_)
              go_simp
              refine hK.out _ _ (Two.till (fun h => absurd h (by decide)) (fun _ => by rw [cell_far _ _ hne2]; exact hY)) ?_
              clear hK K
              try simp only [Act.put, List.setIfInBounds_toArray, List.set_cons_zero, List.set_cons_succ]
              refine AnyV.one (i := 15) (o := _) rfl (by kernel_rfl) (fun K hK => ?_)
              go_simp
              refine hK.out _ _ (Two.till (fun h => absurd h (by decide)) (fun h => absurd h (by decide))) ?_
              clear hK K
              refine AnyV.done (by kernel_rfl) ?_
              try simp only [Act.put, List.setIfInBounds_toArray, List.set_cons_zero, List.set_cons_succ]
              have QA := (((HZ17.out.later hd).store hk4 (n) HF1.out (fun a _ h => by rw [mix_far _ _ h]; exact (if_neg h).symm)).other hne1 (b := B17) (g := B18) (o := k) (.int .i64 (n)))
              have QB := (((HZ18.out.later hd).other hne2 (b := B18) (g := B17) (o := k) (.int .i64 (n))).store hk4 (n) HF2.out (fun a _ h => by rw [mix_far _ _ h]; exact (if_neg h).symm))
              have hs8 := (hs7.trans (Beside.of hd)).trans ((Beside.store1 (o := k) wd (.int .i64 (n))).trans (Beside.store2 (o := k) _ (.int .i64 (n))))
              have HQA := Lib.hid QA
              have HQB := Lib.hid QB
              clear QA QB hX hY g17 g18
              go_wp2_with fail
              go_roundw
              case rel => exact ⟨k + 1, by omega, by go_num, HQA.out, HQB.out, hs8⟩
              case measure => simp [intOf]; omega
            · have ht' : ¬ (i : Int) + (j : Int) = 0 := by omega
              go_wp2_with fail
              have HF1 := Lib.hid (show mixE (k + 1) (lowE at' l (2 * i + j + 1)) (lowE at' l (2 * i + j)) k = min x n by rw [(mix_at k _ _).2, (HNx.out.2 (by omega)).1])
              have HF2 := Lib.hid (show mixE (k + 1) (higE at' l (2 * i + j + 1)) (higE at' l (2 * i + j)) k = max y n by rw [(mix_at k _ _).2, (HNx.out.2 (by omega)).2])
              have HZ17 := HK17
              have HZ18 := HK18
              have hs7 := hs6
              obtain ⟨WZ, hWZ⟩ : ∃ W, wq = W := ⟨_, rfl⟩
              rw [hWZ] at HZ17 HZ18 hs7 hx hy f17 f18
              rw [hWZ]
              have hX0 := hx
              have hY0 := hy
              clear hx hy hn hs6 hWZ
              have hd : Below WZ.heap.size WZ WZ.drew := below_drewN (Below.refl WZ.heap.size WZ) 1
              have hX : WZ.drew.cell? ⟨B17, k, none⟩ = some (.int .i64 x) := cell_later hd hX0
              have hY : WZ.drew.cell? ⟨B18, k, none⟩ = some (.int .i64 y) := cell_later hd hY0
              have g17 : (WZ.drew).frozen? ⟨B17, k, none⟩ = false := f17
              have g18 : (WZ.drew).frozen? ⟨B18, k, none⟩ = false := f18
              clear hX0 hY0 f17 f18
              refine AnyV.start (Two 13 (fun w' => w'.cell? ⟨B17, k, none⟩ = some (.int .i64 x)) 15 (fun w' => w'.cell? ⟨B18, k, none⟩ = some (.int .i64 y))) 16 #[false, false, false, false, false, false, false, false, false, false, false, false, false, false, false, false] (by kernel_rfl) (by kernel_rfl) (by kernel_rfl) (fun _ => ⟨fun _ => hX, fun _ => hY⟩) (fun _ => ?_)
              generalize World.drew WZ = wd at hX hY g17 g18 hd ⊢
              refine AnyV.take 13 16 (i := 0) (oi := _) (v := ?_) rfl (by kernel_rfl) (by kernel_rfl) (by kernel_rfl) (by kernel_rfl) (by kernel_rfl) (fun _ _ _ h => h) (Two.other (by decide)) (Or.inl ⟨by kernel_rfl, ?_⟩) (Two.till (fun _ => hX) (fun _ => hY)) (fun _ => ?_)
              rotate_left 1
              · intro wz hSw'; have hSw := hSw'.1 rfl; clear hSw'; skip; go_simp; try with_reducible rfl
              try simp only [Act.put, List.setIfInBounds_toArray, List.set_cons_zero, List.set_cons_succ]
              refine AnyV.take 13 16 (i := 2) (oi := _) (v := ?_) rfl (by kernel_rfl) (by kernel_rfl) (by kernel_rfl) (by kernel_rfl) (by kernel_rfl) (fun _ _ _ h => h) (Two.other (by decide)) (Or.inl ⟨by kernel_rfl, ?_⟩) (Two.till (fun _ => hX) (fun _ => hY)) (fun _ => ?_)
              rotate_left 1
              · intro wz hSw'; have hSw := hSw'.1 rfl; clear hSw'; skip; go_simp; try with_reducible rfl
              try simp only [Act.put, List.setIfInBounds_toArray, List.set_cons_zero, List.set_cons_succ]
              refine AnyV.take 13 16 (i := 3) (oi := _) (v := ?_) rfl (by kernel_rfl) (by kernel_rfl) (by kernel_rfl) (by kernel_rfl) (by kernel_rfl) (fun _ _ _ h => h) (Two.other (by decide)) (Or.inl ⟨by kernel_rfl, ?_⟩) (Two.till (fun _ => hX) (fun _ => hY)) (fun _ => ?_)
              rotate_left 1
              · intro wz hSw'; have hSw := hSw'.1 rfl; clear hSw'; skip; go_simp; try with_reducible rfl
              try simp only [Act.put, List.setIfInBounds_toArray, List.set_cons_zero, List.set_cons_succ]
              refine AnyV.take 13 16 (i := 4) (oi := _) (v := ?_) rfl (by kernel_rfl) (by kernel_rfl) (by kernel_rfl) (by kernel_rfl) (by kernel_rfl) (fun _ _ _ h => h) (Two.other (by decide)) (Or.inl ⟨by kernel_rfl, ?_⟩) (Two.till (fun _ => hX) (fun _ => hY)) (fun _ => ?_)
              rotate_left 1
              · intro wz hSw'; have hSw := hSw'.1 rfl; clear hSw'; have h1 := hSw; go_simp; try with_reducible rfl
              try simp only [Act.put, List.setIfInBounds_toArray, List.set_cons_zero, List.set_cons_succ]
              refine AnyV.take 13 16 (i := 5) (oi := _) (v := ?_) rfl (by kernel_rfl) (by kernel_rfl) (by kernel_rfl) (by kernel_rfl) (by kernel_rfl) (fun _ _ _ h => h) (Two.other (by decide)) (Or.inl ⟨by kernel_rfl, ?_⟩) (Two.till (fun _ => hX) (fun _ => hY)) (fun _ => ?_)
              rotate_left 1
              · intro wz hSw'; have hSw := hSw'.1 rfl; clear hSw'; skip; go_simp; try with_reducible rfl
              try simp only [Act.put, List.setIfInBounds_toArray, List.set_cons_zero, List.set_cons_succ]
              refine AnyV.take 13 16 (i := 6) (oi := _) (v := ?_) rfl (by kernel_rfl) (by kernel_rfl) (by kernel_rfl) (by kernel_rfl) (by kernel_rfl) (fun _ _ _ h => h) (Two.other (by decide)) (Or.inl ⟨by kernel_rfl, ?_⟩) (Two.till (fun _ => hX) (fun _ => hY)) (fun _ => ?_)
              rotate_left 1
              · intro wz hSw'; have hSw := hSw'.1 rfl; clear hSw'; skip; go_simp; try with_reducible rfl
              try simp only [Act.put, List.setIfInBounds_toArray, List.set_cons_zero, List.set_cons_succ]
              refine AnyV.take 15 16 (i := 1) (oi := _) (v := ?_) rfl (by kernel_rfl) (by kernel_rfl) (by kernel_rfl) (by kernel_rfl) (by kernel_rfl) (fun _ _ _ h => h) (Two.other (by decide)) (Or.inl ⟨by kernel_rfl, ?_⟩) (Two.till (fun _ => hX) (fun _ => hY)) (fun _ => ?_)
              rotate_left 1
              · intro wz hSw'; have hSw := hSw'.2 rfl; clear hSw'; skip; go_simp; try with_reducible rfl
              try simp only [Act.put, List.setIfInBounds_toArray, List.set_cons_zero, List.set_cons_succ]
              refine AnyV.take 15 16 (i := 7) (oi := _) (v := ?_) rfl (by kernel_rfl) (by kernel_rfl) (by kernel_rfl) (by kernel_rfl) (by kernel_rfl) (fun _ _ _ h => h) (Two.other (by decide)) (Or.inl ⟨by kernel_rfl, ?_⟩) (Two.till (fun _ => hX) (fun _ => hY)) (fun _ => ?_)
              rotate_left 1
              · intro wz hSw'; have hSw := hSw'.2 rfl; clear hSw'; skip; go_simp; try with_reducible rfl
              try simp only [Act.put, List.setIfInBounds_toArray, List.set_cons_zero, List.set_cons_succ]
              refine AnyV.take 15 16 (i := 8) (oi := _) (v := ?_) rfl (by kernel_rfl) (by kernel_rfl) (by kernel_rfl) (by kernel_rfl) (by kernel_rfl) (fun _ _ _ h => h) (Two.other (by decide)) (Or.inl ⟨by kernel_rfl, ?_⟩) (Two.till (fun _ => hX) (fun _ => hY)) (fun _ => ?_)
              rotate_left 1
              · intro wz hSw'; have hSw := hSw'.2 rfl; clear hSw'; skip; go_simp; try with_reducible rfl
              try simp only [Act.put, List.setIfInBounds_toArray, List.set_cons_zero, List.set_cons_succ]
              refine AnyV.take 15 16 (i := 9) (oi := _) (v := ?_) rfl (by kernel_rfl) (by kernel_rfl) (by kernel_rfl) (by kernel_rfl) (by kernel_rfl) (fun _ _ _ h => h) (Two.other (by decide)) (Or.inl ⟨by kernel_rfl, ?_⟩) (Two.till (fun _ => hX) (fun _ => hY)) (fun _ => ?_)
              rotate_left 1
              · intro wz hSw'; have hSw := hSw'.2 rfl; clear hSw'; have h1 := hSw; go_simp; try with_reducible rfl
              try simp only [Act.put, List.setIfInBounds_toArray, List.set_cons_zero, List.set_cons_succ]
              refine AnyV.take 15 16 (i := 10) (oi := _) (v := ?_) rfl (by kernel_rfl) (by kernel_rfl) (by kernel_rfl) (by kernel_rfl) (by kernel_rfl) (fun _ _ _ h => h) (Two.other (by decide)) (Or.inl ⟨by kernel_rfl, ?_⟩) (Two.till (fun _ => hX) (fun _ => hY)) (fun _ => ?_)
              rotate_left 1
              · intro wz hSw'; have hSw := hSw'.2 rfl; clear hSw'; skip; go_simp; try with_reducible rfl
              try simp only [Act.put, List.setIfInBounds_toArray, List.set_cons_zero, List.set_cons_succ]
              refine AnyV.take 15 16 (i := 11) (oi := _) (v := ?_) rfl (by kernel_rfl) (by kernel_rfl) (by kernel_rfl) (by kernel_rfl) (by kernel_rfl) (fun _ _ _ h => h) (Two.other (by decide)) (Or.inl ⟨by kernel_rfl, ?_⟩) (Two.till (fun _ => hX) (fun _ => hY)) (fun _ => ?_)
              rotate_left 1
              · intro wz hSw'; have hSw := hSw'.2 rfl; clear hSw'; skip; go_simp; try with_reducible rfl
              try simp only [Act.put, List.setIfInBounds_toArray, List.set_cons_zero, List.set_cons_succ]
              refine AnyV.take 13 16 (i := 12) (oi := _) (v := ?_) rfl (by kernel_rfl) (by kernel_rfl) (by kernel_rfl) (by kernel_rfl) (by kernel_rfl) (fun _ _ _ h => h) (Two.other (by decide)) (Or.inl ⟨by kernel_rfl, ?_⟩) (Two.till (fun _ => hX) (fun _ => hY)) (fun _ => ?_)
              rotate_left 1
              · intro wz hSw'; have hSw := hSw'.1 rfl; clear hSw'; skip; go_simp; try with_reducible rfl
              try simp only [Act.put, List.setIfInBounds_toArray, List.set_cons_zero, List.set_cons_succ]
              refine AnyV.one (i := 13) (o := _) rfl (by kernel_rfl) (fun K hK => ?_)
              go_simp
              refine hK.out _ _ (Two.till (fun h => absurd h (by decide)) (fun _ => by rw [cell_far _ _ hne2]; exact hY)) ?_
              clear hK K
              try simp only [Act.put, List.setIfInBounds_toArray, List.set_cons_zero, List.set_cons_succ]
              refine AnyV.one (i := 14) (o := _) rfl (by kernel_rfl) (fun K hK => ?_)
              go_simp
              refine hK.out _ _ (Two.till (fun h => absurd h (by decide)) (fun _ => by rw [cell_far _ _ hne2]; exact hY)) ?_
              clear hK K
              try simp only [Act.put, List.setIfInBounds_toArray, List.set_cons_zero, List.set_cons_succ]
              refine AnyV.one (i := 15) (o := _) rfl (by kernel_rfl) (fun K hK => ?_)
              go_simp
              refine hK.out _ _ (Two.till (fun h => absurd h (by decide)) (fun h => absurd h (by decide))) ?_
              clear hK K
              refine AnyV.done (by kernel_rfl) ?_
              try simp only [Act.put, List.setIfInBounds_toArray, List.set_cons_zero, List.set_cons_succ]
              have QA := (((HZ17.out.later hd).store hk4 (min x n) HF1.out (fun a _ h => mix_far _ _ h)).other hne1 (b := B17) (g := B18) (o := k) (.int .i64 (max y n)))
              have QB := (((HZ18.out.later hd).other hne2 (b := B18) (g := B17) (o := k) (.int .i64 (min x n))).store hk4 (max y n) HF2.out (fun a _ h => mix_far _ _ h))
              have hs8 := (hs7.trans (Beside.of hd)).trans ((Beside.store1 (o := k) wd (.int .i64 (min x n))).trans (Beside.store2 (o := k) _ (.int .i64 (max y n))))
              have HQA := Lib.hid QA
              have HQB := Lib.hid QB
              clear QA QB hX hY g17 g18
              go_wp2_with fail
              go_roundw
              case rel => exact ⟨k + 1, by omega, by go_num, HQA.out, HQB.out, hs8⟩
              case measure => simp [intOf]; omega
        · have hin : innE at' p = 0 := by unfold innE; rw [if_neg hs]
          rw [hin, Int.mul_zero] at f2 f3
          rw [Int.zero_mul] at f3
          clear hin
          go_wp2_with fail
          obtain ⟨WD, hWD⟩ : ∃ W, wz.alloc (.cells #[.int .i64 wt, .int .i64 P, .int .i64 0, .int .i64 0] 3) = W := ⟨_, rfl⟩
          have HNq := Lib.hid (show Quad WD wz.heap.size (cfE at' p wt) by
            subst hWD
            exact ⟨by rw [f0]; go_cell, by rw [f1]; go_cell, by rw [f2]; go_cell, by rw [f3]; go_cell, fun _ => World.frozen?_alloc_at _ _ _ _ rfl⟩)
          have hbD : Below wz.heap.size wz WD := by subst hWD; go_grown
          rw [hWD]
          clear hWD hw0 f0 f1 f2 f3
          replace HJ17 := Lib.hid (HJ17.out.later hbD)
          replace HJ18 := Lib.hid (HJ18.out.later hbD)
          have hs5 : Beside B17 B18 WC WD := hs4.trans (Beside.of hbD)
          clear hbD hs4
          obtain ⟨Bn, hBn⟩ : ∃ b, wz.heap.size = b := ⟨_, rfl⟩
          rw [hBn] at HNq h18z ⊢
          clear hBn
          go_loopw [121] (fun v121 wq => Lo4 at' l (2 * i + j) B17 B18 WD wq v121) (fun v121 _ => 4 - (intOf v121).toNat)
          case atStart => exact ⟨0, by omega, rfl, by rw [mix0]; exact HJ17.out, by rw [mix0]; exact HJ18.out, Beside.refl _ _ _⟩
          case round =>
            generalize wr = wq at *
            obtain ⟨k, hk, rfl, h1, h2, hs6⟩ := hrel
            by_cases hk4 : k < 4
            rotate_left 1
            · obtain rfl : k = 4 := by omega
              have HK17 := Lib.hid (h1.same mix4)
              have HK18 := Lib.hid (h2.same mix4)
              clear h1 h2
              go_wp2_with fail
              go_roundw
              case rel => exact ⟨j + 1, by omega, by go_num, HK17.out, HK18.out, hs5.trans hs6⟩
              case measure => simp [intOf]; omega
            have hn : wq.cell? ⟨Bn, k, none⟩ = some (.int .i64 (cfE at' p wt k)) := hs6.cell (HNq.out.get hk4) (by omega) (by omega)
            have hnx := low_next at' l (HCo.out k)
            obtain ⟨n, hne⟩ : ∃ n, cfE at' p wt k = n := ⟨_, rfl⟩
            rw [hne] at hn hnx
            have HNx := Lib.hid hnx
            have HK17 := Lib.hid h1
            have HK18 := Lib.hid h2
            have hx := h1.get hk4
            have hy := h2.get hk4
            rw [(mix_at k _ _).1] at hx hy
            have f17 := h1.fz k
            have f18 := h2.fz k
            have hk' : (k : Int) < 4 := by omega
            have hk0 : (0 : Int) ≤ (k : Int) := by omega
            have hne1 : B17 ≠ B18 := by omega
            have hne2 : B18 ≠ B17 := by omega
            clear h1 h2 hnx hne
            obtain ⟨x, hxe⟩ : ∃ x, lowE at' l (2 * i + j) k = x := ⟨_, rfl⟩
            obtain ⟨y, hye⟩ : ∃ x, higE at' l (2 * i + j) k = x := ⟨_, rfl⟩
            rw [hxe] at hx HNx
            rw [hye] at hy HNx
            clear hxe hye
            by_cases ht : i + j = 0
            · have ht' : (i : Int) + (j : Int) = 0 := by omega
              go_wp2_with fail
              obtain ⟨WZ, hWZ⟩ : ∃ W, (wq.setCell ⟨B17, k, none⟩ (.int .i64 n)).setCell ⟨B18, k, none⟩ (.int .i64 n) = W := ⟨_, rfl⟩
              have z17 : Quad WZ B17 (fun a => if a = k then n else mixE k (lowE at' l (2 * i + j + 1)) (lowE at' l (2 * i + j)) a) := by
                rw [← hWZ]
                exact (HK17.out.store hk4 n (by simp) (fun a _ h => if_neg h)).other hne1 _
              have z18 : Quad WZ B18 (fun a => if a = k then n else mixE k (higE at' l (2 * i + j + 1)) (higE at' l (2 * i + j)) a) := by
                rw [← hWZ]
                exact (HK18.out.other hne2 _).store hk4 n (by simp) (fun a _ h => if_neg h)
              have hs7 : Beside B17 B18 WD WZ := by rw [← hWZ]; exact hs6.trans ((Beside.store1 wq _).trans (Beside.store2 _ _))
              rw [hWZ]
              have HZ17 := Lib.hid z17
              have HZ18 := Lib.hid z18
              have HF1 := Lib.hid (show mixE (k + 1) (lowE at' l (2 * i + j + 1)) (lowE at' l (2 * i + j)) k = n by rw [(mix_at k _ _).2, (HNx.out.1 (by omega)).1])
              have HF2 := Lib.hid (show mixE (k + 1) (higE at' l (2 * i + j + 1)) (higE at' l (2 * i + j)) k = n by rw [(mix_at k _ _).2, (HNx.out.1 (by omega)).2])
              have hX0 : WZ.cell? ⟨B17, k, none⟩ = some (.int .i64 n) := by have := z17.get hk4; simpa using this
              have hY0 : WZ.cell? ⟨B18, k, none⟩ = some (.int .i64 n) := by have := z18.get hk4; simpa using this
              replace f17 := z17.fz k
              replace f18 := z18.fz k
              clear hWZ z17 z18 hx hy hn hs6
              have hd : Below WZ.heap.size WZ WZ.drew := below_drewN (Below.refl WZ.heap.size WZ) 1
              have hX : WZ.drew.cell? ⟨B17, k, none⟩ = some (.int .i64 n) := cell_later hd hX0
              have hY : WZ.drew.cell? ⟨B18, k, none⟩ = some (.int .i64 n) := cell_later hd hY0
              have g17 : (WZ.drew).frozen? ⟨B17, k, none⟩ = false := f17
              have g18 : (WZ.drew).frozen? ⟨B18, k, none⟩ = false := f18
              clear hX0 hY0 f17 f18
              refine AnyV.start (Two 13 (fun w' => w'.cell? ⟨B17, k, none⟩ = some (.int .i64 n)) 15 (fun w' => w'.cell? ⟨B18, k, none⟩ = some (.int .i64 n))) 16 #[false, false, false, false, false, false, false, false, false, false, false, false, false, false, false, false] (by kernel_rfl) (by kernel_rfl) (by kernel_rfl) (fun _ => ⟨fun _ => hX, fun _ => hY⟩) (fun _ => ?_)
              generalize World.drew WZ = wd at hX hY g17 g18 hd ⊢
              refine AnyV.take 13 16 (i := 0) (oi := _) (v := ?_) rfl (by kernel_rfl) (by kernel_rfl) (by kernel_rfl) (by kernel_rfl) (by kernel_rfl) (fun _ _ _ h => h) (Two.other (by decide)) (Or.inl ⟨by kernel_rfl, ?_⟩) (Two.till (fun _ => hX) (fun _ => hY)) (fun _ => ?_)
              rotate_left 1
              · intro wz hSw'; have hSw := hSw'.1 rfl; clear hSw'; skip; go_simp; try with_reducible rfl
              try simp only [Act.put, List.setIfInBounds_toArray, List.set_cons_zero, List.set_cons_succ]
              refine AnyV.take 13 16 (i := 2) (oi := _) (v := ?_) rfl (by kernel_rfl) (by kernel_rfl) (by kernel_rfl) (by kernel_rfl) (by kernel_rfl) (fun _ _ _ h => h) (Two.other (by decide)) (Or.inl ⟨by kernel_rfl, ?_⟩) (Two.till (fun _ => hX) (fun _ => hY)) (fun _ => ?_)
              rotate_left 1
              · intro wz hSw'; have hSw := hSw'.1 rfl; clear hSw'; skip; go_simp; try with_reducible rfl
              try simp only [Act.put, List.setIfInBounds_toArray, List.set_cons_zero, List.set_cons_succ]
              refine AnyV.take 13 16 (i := 3) (oi := _) (v := ?_) rfl (by kernel_rfl) (by kernel_rfl) (by kernel_rfl) (by kernel_rfl) (by kernel_rfl) (fun _ _ _ h => h) (Two.other (by decide)) (Or.inl ⟨by kernel_rfl, ?_⟩) (Two.till (fun _ => hX) (fun _ => hY)) (fun _ => ?_)
              rotate_left 1
              · intro wz hSw'; have hSw := hSw'.1 rfl; clear hSw'; skip; go_simp; try with_reducible rfl
              try simp only [Act.put, List.setIfInBounds_toArray, List.set_cons_zero, List.set_cons_succ]
              refine AnyV.take 13 16 (i := 4) (oi := _) (v := ?_) rfl (by kernel_rfl) (by kernel_rfl) (by kernel_rfl) (by kernel_rfl) (by kernel_rfl) (fun _ _ _ h => h) (Two.other (by decide)) (Or.inl ⟨by kernel_rfl, ?_⟩) (Two.till (fun _ => hX) (fun _ => hY)) (fun _ => ?_)
              rotate_left 1
              · intro wz hSw'; have hSw := hSw'.1 rfl; clear hSw'; have h1 := hSw; go_simp; try with_reducible rfl
              try simp only [Act.put, List.setIfInBounds_toArray, List.set_cons_zero, List.set_cons_succ]
              refine AnyV.take 13 16 (i := 5) (oi := _) (v := ?_) rfl (by kernel_rfl) (by kernel_rfl) (by kernel_rfl) (by kernel_rfl) (by kernel_rfl) (fun _ _ _ h => h) (Two.other (by decide)) (Or.inl ⟨by kernel_rfl, ?_⟩) (Two.till (fun _ => hX) (fun _ => hY)) (fun _ => ?_)
              rotate_left 1
              · intro wz hSw'; have hSw := hSw'.1 rfl; clear hSw'; skip; go_simp; try with_reducible rfl
              try simp only [Act.put, List.setIfInBounds_toArray, List.set_cons_zero, List.set_cons_succ]
              refine AnyV.take 13 16 (i := 6) (oi := _) (v := ?_) rfl (by kernel_rfl) (by kernel_rfl) (by kernel_rfl) (by kernel_rfl) (by kernel_rfl) (fun _ _ _ h => h) (Two.other (by decide)) (Or.inl ⟨by kernel_rfl, ?_⟩) (Two.till (fun _ => hX) (fun _ => hY)) (fun _ => ?_)
              rotate_left 1
              · intro wz hSw'; have hSw := hSw'.1 rfl; clear hSw'; skip; go_simp; try with_reducible rfl
              try simp only [Act.put, List.setIfInBounds_toArray, List.set_cons_zero, List.set_cons_succ]
              refine AnyV.take 15 16 (i := 1) (oi := _) (v := ?_) rfl (by kernel_rfl) (by kernel_rfl) (by kernel_rfl) (by kernel_rfl) (by kernel_rfl) (fun _ _ _ h => h) (Two.other (by decide)) (Or.inl ⟨by kernel_rfl, ?_⟩) (Two.till (fun _ => hX) (fun _ => hY)) (fun _ => ?_)
              rotate_left 1
              · intro wz hSw'; have hSw := hSw'.2 rfl; clear hSw'; skip; go_simp; try with_reducible rfl
              try simp only [Act.put, List.setIfInBounds_toArray, List.set_cons_zero, List.set_cons_succ]
              refine AnyV.take 15 16 (i := 7) (oi := _) (v := ?_) rfl (by kernel_rfl) (by kernel_rfl) (by kernel_rfl) (by kernel_rfl) (by kernel_rfl) (fun _ _ _ h => h) (Two.other (by decide)) (Or.inl ⟨by kernel_rfl, ?_⟩) (Two.till (fun _ => hX) (fun _ => hY)) (fun _ => ?_)
              rotate_left 1
              · intro wz hSw'; have hSw := hSw'.2 rfl; clear hSw'; skip; go_simp; try with_reducible rfl
              try simp only [Act.put, List.setIfInBounds_toArray, List.set_cons_zero, List.set_cons_succ]
              refine AnyV.take 15 16 (i := 8) (oi := _) (v := ?_) rfl (by kernel_rfl) (by kernel_rfl) (by kernel_rfl) (by kernel_rfl) (by kernel_rfl) (fun _ _ _ h => h) (Two.other (by decide)) (Or.inl ⟨by kernel_rfl, ?_⟩) (Two.till (fun _ => hX) (fun _ => hY)) (fun _ => ?_)
              rotate_left 1
              · intro wz hSw'; have hSw := hSw'.2 rfl; clear hSw'; skip; go_simp; try with_reducible rfl
              try simp only [Act.put, List.setIfInBounds_toArray, List.set_cons_zero, List.set_cons_succ]
              refine AnyV.take 15 16 (i := 9) (oi := _) (v := ?_) rfl (by kernel_rfl) (by kernel_rfl) (by kernel_rfl) (by kernel_rfl) (by kernel_rfl) (fun _ _ _ h => h) (Two.other (by decide)) (Or.inl ⟨by kernel_rfl, ?_⟩) (Two.till (fun _ => hX) (fun _ => hY)) (fun _ => ?_)
              rotate_left 1
              · intro wz hSw'; have hSw := hSw'.2 rfl; clear hSw'; have h1 := hSw; go_simp; try with_reducible rfl
              try simp only [Act.put, List.setIfInBounds_toArray, List.set_cons_zero, List.set_cons_succ]
              refine AnyV.take 15 16 (i := 10) (oi := _) (v := ?_) rfl (by kernel_rfl) (by kernel_rfl) (by kernel_rfl) (by kernel_rfl) (by kernel_rfl) (fun _ _ _ h => h) (Two.other (by decide)) (Or.inl ⟨by kernel_rfl, ?_⟩) (Two.till (fun _ => hX) (fun _ => hY)) (fun _ => ?_)
              rotate_left 1
              · intro wz hSw'; have hSw := hSw'.2 rfl; clear hSw'; skip; go_simp; try with_reducible rfl
              try simp only [Act.put, List.setIfInBounds_toArray, List.set_cons_zero, List.set_cons_succ]
              refine AnyV.take 15 16 (i := 11) (oi := _) (v := ?_) rfl (by kernel_rfl) (by kernel_rfl) (by kernel_rfl) (by kernel_rfl) (by kernel_rfl) (fun _ _ _ h => h) (Two.other (by decide)) (Or.inl ⟨by kernel_rfl, ?_⟩) (Two.till (fun _ => hX) (fun _ => hY)) (fun _ => ?_)
              rotate_left 1
              · intro wz hSw'; have hSw := hSw'.2 rfl; clear hSw'; skip; go_simp; try with_reducible rfl
              try simp only [Act.put, List.setIfInBounds_toArray, List.set_cons_zero, List.set_cons_succ]
              refine AnyV.take 13 16 (i := 12) (oi := _) (v := ?_) rfl (by kernel_rfl) (by kernel_rfl) (by kernel_rfl) (by kernel_rfl) (by kernel_rfl) (fun _ _ _ h => h) (Two.other (by decide)) (Or.inl ⟨by kernel_rfl, ?_⟩) (Two.till (fun _ => hX) (fun _ => hY)) (fun _ => ?_)
              rotate_left 1
              · intro wz hSw'; have hSw := hSw'.1 rfl; clear hSw'; skip; go_simp; try with_reducible rfl
              try simp only [Act.put, List.setIfInBounds_toArray, List.set_cons_zero, List.set_cons_succ]
              refine AnyV.one (i := 13) (o := _) rfl (by kernel_rfl) (fun K hK => ?_)
              go_simp
              refine hK.out _ _ (Two.till (fun h => absurd h (by decide)) (fun _ => by rw [cell_far _ _ hne2]; exact hY)) ?_
              clear hK K
              try simp only [Act.put, List.setIfInBounds_toArray, List.set_cons_zero, List.set_cons_succ]
              refine AnyV.one (i := 14) (o := _) rfl (by kernel_rfl) (fun K hK => ?_)
              go_simp
              refine hK.out _ _ (Two.till (fun h => absurd h (by decide)) (fun _ => by rw [cell_far _ _ hne2]; exact hY)) ?_
              clear hK K
              try simp only [Act.put, List.setIfInBounds_toArray, List.set_cons_zero, List.set_cons_succ]
              refine AnyV.one (i := 15) (o := _) rfl (by kernel_rfl) (fun K hK => ?_)
              go_simp
              refine hK.out _ _ (Two.till (fun h => absurd h (by decide)) (fun h => absurd h (by decide))) ?_
              clear hK K
              refine AnyV.done (by kernel_rfl) ?_
              try simp only [Act.put, List.setIfInBounds_toArray, List.set_cons_zero, List.set_cons_succ]
              have QA := (((HZ17.out.later hd).store hk4 (n) HF1.out (fun a _ h => by rw [mix_far _ _ h]; exact (if_neg h).symm)).other hne1 (b := B17) (g := B18) (o := k) (.int .i64 (n)))
              have QB := (((HZ18.out.later hd).other hne2 (b := B18) (g := B17) (o := k) (.int .i64 (n))).store hk4 (n) HF2.out (fun a _ h => by rw [mix_far _ _ h]; exact (if_neg h).symm))
              have hs8 := (hs7.trans (Beside.of hd)).trans ((Beside.store1 (o := k) wd (.int .i64 (n))).trans (Beside.store2 (o := k) _ (.int .i64 (n))))
              have HQA := Lib.hid QA
              have HQB := Lib.hid QB
              clear QA QB hX hY g17 g18
              go_wp2_with fail
              go_roundw
              case rel => exact ⟨k + 1, by omega, by go_num, HQA.out, HQB.out, hs8⟩
              case measure => simp [intOf]; omega
            · have ht' : ¬ (i : Int) + (j : Int) = 0 := by omega
              go_wp2_with fail
              have HF1 := Lib.hid (show mixE (k + 1) (lowE at' l (2 * i + j + 1)) (lowE at' l (2 * i + j)) k = min x n by rw [(mix_at k _ _).2, (HNx.out.2 (by omega)).1])
              have HF2 := Lib.hid (show mixE (k + 1) (higE at' l (2 * i + j + 1)) (higE at' l (2 * i + j)) k = max y n by rw [(mix_at k _ _).2, (HNx.out.2 (by omega)).2])
              have HZ17 := HK17
              have HZ18 := HK18
              have hs7 := hs6
              obtain ⟨WZ, hWZ⟩ : ∃ W, wq = W := ⟨_, rfl⟩
              rw [hWZ] at HZ17 HZ18 hs7 hx hy f17 f18
              rw [hWZ]
              have hX0 := hx
              have hY0 := hy
              clear hx hy hn hs6 hWZ
              have hd : Below WZ.heap.size WZ WZ.drew := below_drewN (Below.refl WZ.heap.size WZ) 1
              have hX : WZ.drew.cell? ⟨B17, k, none⟩ = some (.int .i64 x) := cell_later hd hX0
              have hY : WZ.drew.cell? ⟨B18, k, none⟩ = some (.int .i64 y) := cell_later hd hY0
              have g17 : (WZ.drew).frozen? ⟨B17, k, none⟩ = false := f17
              have g18 : (WZ.drew).frozen? ⟨B18, k, none⟩ = false := f18
              clear hX0 hY0 f17 f18
              refine AnyV.start (Two 13 (fun w' => w'.cell? ⟨B17, k, none⟩ = some (.int .i64 x)) 15 (fun w' => w'.cell? ⟨B18, k, none⟩ = some (.int .i64 y))) 16 #[false, false, false, false, false, false, false, false, false, false, false, false, false, false, false, false] (by kernel_rfl) (by kernel_rfl) (by kernel_rfl) (fun _ => ⟨fun _ => hX, fun _ => hY⟩) (fun _ => ?_)
              generalize World.drew WZ = wd at hX hY g17 g18 hd ⊢
              refine AnyV.take 13 16 (i := 0) (oi := _) (v := ?_) rfl (by kernel_rfl) (by kernel_rfl) (by kernel_rfl) (by kernel_rfl) (by kernel_rfl) (fun _ _ _ h => h) (Two.other (by decide)) (Or.inl ⟨by kernel_rfl, ?_⟩) (Two.till (fun _ => hX) (fun _ => hY)) (fun _ => ?_)
              rotate_left 1
              · intro wz hSw'; have hSw := hSw'.1 rfl; clear hSw'; skip; go_simp; try with_reducible rfl
              try simp only [Act.put, List.setIfInBounds_toArray, List.set_cons_zero, List.set_cons_succ]
              refine AnyV.take 13 16 (i := 2) (oi := _) (v := ?_) rfl (by kernel_rfl) (by kernel_rfl) (by kernel_rfl) (by kernel_rfl) (by kernel_rfl) (fun _ _ _ h => h) (Two.other (by decide)) (Or.inl ⟨by kernel_rfl, ?_⟩) (Two.till (fun _ => hX) (fun _ => hY)) (fun _ => ?_)
              rotate_left 1
              · intro wz hSw'; have hSw := hSw'.1 rfl; clear hSw'; skip; go_simp; try with_reducible rfl
              try simp only [Act.put, List.setIfInBounds_toArray, List.set_cons_zero, List.set_cons_succ]
              refine AnyV.take 13 16 (i := 3) (oi := _) (v := ?_) rfl (by kernel_rfl) (by kernel_rfl) (by kernel_rfl) (by kernel_rfl) (by kernel_rfl) (fun _ _ _ h => h) (Two.other (by decide)) (Or.inl ⟨by kernel_rfl, ?_⟩) (Two.till (fun _ => hX) (fun _ => hY)) (fun _ => ?_)
              rotate_left 1
              · intro wz hSw'; have hSw := hSw'.1 rfl; clear hSw'; skip; go_simp; try with_reducible rfl
              try simp only [Act.put, List.setIfInBounds_toArray, List.set_cons_zero, List.set_cons_succ]
              refine AnyV.take 13 16 (i := 4) (oi := _) (v := ?_) rfl (by kernel_rfl) (by kernel_rfl) (by kernel_rfl) (by kernel_rfl) (by kernel_rfl) (fun _ _ _ h => h) (Two.other (by decide)) (Or.inl ⟨by kernel_rfl, ?_⟩) (Two.till (fun _ => hX) (fun _ => hY)) (fun _ => ?_)
              rotate_left 1
              · intro wz hSw'; have hSw := hSw'.1 rfl; clear hSw'; have h1 := hSw; go_simp; try with_reducible rfl
              try simp only [Act.put, List.setIfInBounds_toArray, List.set_cons_zero, List.set_cons_succ]
              refine AnyV.take 13 16 (i := 5) (oi := _) (v := ?_) rfl (by kernel_rfl) (by kernel_rfl) (by kernel_rfl) (by kernel_rfl) (by kernel_rfl) (fun _ _ _ h => h) (Two.other (by decide)) (Or.inl ⟨by kernel_rfl, ?_⟩) (Two.till (fun _ => hX) (fun _ => hY)) (fun _ => ?_)
              rotate_left 1
              · intro wz hSw'; have hSw := hSw'.1 rfl; clear hSw'; skip; go_simp; try with_reducible rfl
              try simp only [Act.put, List.setIfInBounds_toArray, List.set_cons_zero, List.set_cons_succ]
              refine AnyV.take 13 16 (i := 6) (oi := _) (v := ?_) rfl (by kernel_rfl) (by kernel_rfl) (by kernel_rfl) (by kernel_rfl) (by kernel_rfl) (fun _ _ _ h => h) (Two.other (by decide)) (Or.inl ⟨by kernel_rfl, ?_⟩) (Two.till (fun _ => hX) (fun _ => hY)) (fun _ => ?_)
              rotate_left 1
              · intro wz hSw'; have hSw := hSw'.1 rfl; clear hSw'; skip; go_simp; try with_reducible rfl
              try simp only [Act.put, List.setIfInBounds_toArray, List.set_cons_zero, List.set_cons_succ]
              refine AnyV.take 15 16 (i := 1) (oi := _) (v := ?_) rfl (by kernel_rfl) (by kernel_rfl) (by kernel_rfl) (by kernel_rfl) (by kernel_rfl) (fun _ _ _ h => h) (Two.other (by decide)) (Or.inl ⟨by kernel_rfl, ?_⟩) (Two.till (fun _ => hX) (fun _ => hY)) (fun _ => ?_)
              rotate_left 1
              · intro wz hSw'; have hSw := hSw'.2 rfl; clear hSw'; skip; go_simp; try with_reducible rfl
              try simp only [Act.put, List.setIfInBounds_toArray, List.set_cons_zero, List.set_cons_succ]
              refine AnyV.take 15 16 (i := 7) (oi := _) (v := ?_) rfl (by kernel_rfl) (by kernel_rfl) (by kernel_rfl) (by kernel_rfl) (by kernel_rfl) (fun _ _ _ h => h) (Two.other (by decide)) (Or.inl ⟨by kernel_rfl, ?_⟩) (Two.till (fun _ => hX) (fun _ => hY)) (fun _ => ?_)
              rotate_left 1
              · intro wz hSw'; have hSw := hSw'.2 rfl; clear hSw'; skip; go_simp; try with_reducible rfl
              try simp only [Act.put, List.setIfInBounds_toArray, List.set_cons_zero, List.set_cons_succ]
              refine AnyV.take 15 16 (i := 8) (oi := _) (v := ?_) rfl (by kernel_rfl) (by kernel_rfl) (by kernel_rfl) (by kernel_rfl) (by kernel_rfl) (fun _ _ _ h => h) (Two.other (by decide)) (Or.inl ⟨by kernel_rfl, ?_⟩) (Two.till (fun _ => hX) (fun _ => hY)) (fun _ => ?_)
              rotate_left 1
              · intro wz hSw'; have hSw := hSw'.2 rfl; clear hSw'; skip; go_simp; try with_reducible rfl
              try simp only [Act.put, List.setIfInBounds_toArray, List.set_cons_zero, List.set_cons_succ]
              refine AnyV.take 15 16 (i := 9) (oi := _) (v := ?_) rfl (by kernel_rfl) (by kernel_rfl) (by kernel_rfl) (by kernel_rfl) (by kernel_rfl) (fun _ _ _ h => h) (Two.other (by decide)) (Or.inl ⟨by kernel_rfl, ?_⟩) (Two.till (fun _ => hX) (fun _ => hY)) (fun _ => ?_)
              rotate_left 1
              · intro wz hSw'; have hSw := hSw'.2 rfl; clear hSw'; have h1 := hSw; go_simp; try with_reducible rfl
              try simp only [Act.put, List.setIfInBounds_toArray, List.set_cons_zero, List.set_cons_succ]
              refine AnyV.take 15 16 (i := 10) (oi := _) (v := ?_) rfl (by kernel_rfl) (by kernel_rfl) (by kernel_rfl) (by kernel_rfl) (by kernel_rfl) (fun _ _ _ h => h) (Two.other (by decide)) (Or.inl ⟨by kernel_rfl, ?_⟩) (Two.till (fun _ => hX) (fun _ => hY)) (fun _ => ?_)
              rotate_left 1
              · intro wz hSw'; have hSw := hSw'.2 rfl; clear hSw'; skip; go_simp; try with_reducible rfl
              try simp only [Act.put, List.setIfInBounds_toArray, List.set_cons_zero, List.set_cons_succ]
              refine AnyV.take 15 16 (i := 11) (oi := _) (v := ?_) rfl (by kernel_rfl) (by kernel_rfl) (by kernel_rfl) (by kernel_rfl) (by kernel_rfl) (fun _ _ _ h => h) (Two.other (by decide)) (Or.inl ⟨by kernel_rfl, ?_⟩) (Two.till (fun _ => hX) (fun _ => hY)) (fun _ => ?_)
              rotate_left 1
              · intro wz hSw'; have hSw := hSw'.2 rfl; clear hSw'; skip; go_simp; try with_reducible rfl
              try simp only [Act.put, List.setIfInBounds_toArray, List.set_cons_zero, List.set_cons_succ]
              refine AnyV.take 13 16 (i := 12) (oi := _) (v := ?_) rfl (by kernel_rfl) (by kernel_rfl) (by kernel_rfl) (by kernel_rfl) (by kernel_rfl) (fun _ _ _ h => h) (Two.other (by decide)) (Or.inl ⟨by kernel_rfl, ?_⟩) (Two.till (fun _ => hX) (fun _ => hY)) (fun _ => ?_)
              rotate_left 1
              · intro wz hSw'; have hSw := hSw'.1 rfl; clear hSw'; skip; go_simp; try with_reducible rfl
              try simp only [Act.put, List.setIfInBounds_toArray, List.set_cons_zero, List.set_cons_succ]
              refine AnyV.one (i := 13) (o := _) rfl (by kernel_rfl) (fun K hK => ?_)
              go_simp
              refine hK.out _ _ (Two.till (fun h => absurd h (by decide)) (fun _ => by rw [cell_far _ _ hne2]; exact hY)) ?_
              clear hK K
              try simp only [Act.put, List.setIfInBounds_toArray, List.set_cons_zero, List.set_cons_succ]
              refine AnyV.one (i := 14) (o := _) rfl (by kernel_rfl) (fun K hK => ?_)
              go_simp
              refine hK.out _ _ (Two.till (fun h => absurd h (by decide)) (fun _ => by rw [cell_far _ _ hne2]; exact hY)) ?_
              clear hK K
              try simp only [Act.put, List.setIfInBounds_toArray, List.set_cons_zero, List.set_cons_succ]
              refine AnyV.one (i := 15) (o := _) rfl (by kernel_rfl) (fun K hK => ?_)
              go_simp
              refine hK.out _ _ (Two.till (fun h => absurd h (by decide)) (fun h => absurd h (by decide))) ?_
              clear hK K
              refine AnyV.done (by kernel_rfl) ?_
              try simp only [Act.put, List.setIfInBounds_toArray, List.set_cons_zero, List.set_cons_succ]
              have QA := (((HZ17.out.later hd).store hk4 (min x n) HF1.out (fun a _ h => mix_far _ _ h)).other hne1 (b := B17) (g := B18) (o := k) (.int .i64 (max y n)))
              have QB := (((HZ18.out.later hd).other hne2 (b := B18) (g := B17) (o := k) (.int .i64 (min x n))).store hk4 (max y n) HF2.out (fun a _ h => mix_far _ _ h))
              have hs8 := (hs7.trans (Beside.of hd)).trans ((Beside.store1 (o := k) wd (.int .i64 (min x n))).trans (Beside.store2 (o := k) _ (.int .i64 (max y n))))
              have HQA := Lib.hid QA
              have HQB := Lib.hid QB
              clear QA QB hX hY g17 g18
              go_wp2_with fail
              go_roundw
              case rel => exact ⟨k + 1, by omega, by go_num, HQA.out, HQB.out, hs8⟩
              case measure => simp [intOf]; omega
end Go.Proofs.Ytldnpnplgfkebaa
