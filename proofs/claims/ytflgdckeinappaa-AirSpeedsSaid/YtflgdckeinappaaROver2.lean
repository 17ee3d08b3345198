/- The reference's Over and Mul. -/
import Derived.Test.YtflgdckeinappaaROver
import Derived.Test.YtflgdckeinappaaRefs
namespace Go.Proofs.Ytflgdckeinappaa
open Go.RowKit

/-- The least (greatest) of the first n, and of the 0th. -/
def runMin (X : Nat → Int) : Nat → Int | 0 => X 0 | n + 1 => min (runMin X n) (X n)
def runMax (X : Nat → Int) : Nat → Int | 0 => X 0 | n + 1 => max (runMax X n) (X n)
def rdowns (a b c d f g : Int) (i : Nat) : Int := QD (pickA a b i) (pickB c d i) (pickC f g i)
def rups (a b c d f g : Int) (i : Nat) : Int := QU (pickA a b i) (pickB c d i) (pickC f g i)

theorem drewB {w w1 : World} {n : Nat} (h : Below (w.drewN n).heap.size (w.drewN n) w1) : Below w.heap.size w w1 := (below_drewN (Below.refl _ _) n).trans h

/-- What the loop keeps of the boxes. -/
structure OvW (B : Nat) (w wr : World) (a b c d f g : Int) : Prop where
  below : Below B w wr
  size : B + 4 ≤ wr.heap.size
  a0 : wr.cell? ⟨B, 0, none⟩ = some (.int .i64 a)
  a1 : wr.cell? ⟨B, 1, none⟩ = some (.int .i64 b)
  b0 : wr.cell? ⟨B + 1, 0, none⟩ = some (.int .i64 c)
  b1 : wr.cell? ⟨B + 1, 1, none⟩ = some (.int .i64 d)
  c0 : wr.cell? ⟨B + 1 + 1, 0, none⟩ = some (.int .i64 f)
  c1 : wr.cell? ⟨B + 1 + 1, 1, none⟩ = some (.int .i64 g)
  r0 : wr.cell? ⟨B + 1 + 1 + 1, 0, none⟩ = some (.int .i64 0)
  r1 : wr.cell? ⟨B + 1 + 1 + 1, 1, none⟩ = some (.int .i64 0)
  rf0 : wr.frozen? ⟨B + 1 + 1 + 1, 0, none⟩ = false
  rf1 : wr.frozen? ⟨B + 1 + 1 + 1, 1, none⟩ = false

theorem OvW.step {B : Nat} {w wr w1 : World} {a b c d f g : Int} (h : OvW B w wr a b c d f g) (hB : Below wr.heap.size wr w1) : OvW B w w1 a b c d f g := by
  have hz := h.size
  have hz1 := hB.size
  have L : ∀ bb o v, bb < B + 4 → wr.cell? ⟨bb, o, none⟩ = v → w1.cell? ⟨bb, o, none⟩ = v := fun bb o v hb e => by rw [(bcell hB).1 _ _ (by omega)]; exact e
  have F : ∀ bb o v, bb < B + 4 → wr.frozen? ⟨bb, o, none⟩ = v → w1.frozen? ⟨bb, o, none⟩ = v := fun bb o v hb e => by rw [(bcell hB).2 _ _ (by omega)]; exact e
  exact ⟨h.below.trans (hB.mono (by omega)), by omega, L B 0 _ (by omega) h.a0, L B 1 _ (by omega) h.a1, L (B + 1) 0 _ (by omega) h.b0, L (B + 1) 1 _ (by omega) h.b1, L (B + 1 + 1) 0 _ (by omega) h.c0, L (B + 1 + 1) 1 _ (by omega) h.c1, L (B + 1 + 1 + 1) 0 _ (by omega) h.r0, L (B + 1 + 1 + 1) 1 _ (by omega) h.r1, F (B + 1 + 1 + 1) 0 _ (by omega) h.rf0, F (B + 1 + 1 + 1) 1 _ (by omega) h.rf1⟩

/-- The loop's head. -/
def OvHead (B : Nat) (w wr : World) (a b c d f g : Int) (v8 v9 v10 : Value) : Prop := ∃ k : Int, 0 ≤ k ∧ k ≤ 8 ∧ v10 = .int .i64 k ∧ v8 = .int .i64 (runMin (rdowns a b c d f g) k.toNat) ∧ v9 = .int .i64 (runMax (rups a b c d f g) k.toNat) ∧ OvW B w wr a b c d f g
theorem rd0 (a b c d f g : Int) : rdowns a b c d f g 0 = QD a c f ∧ rups a b c d f g 0 = QU a c f := by
  have e1 : pickA a b 0 = a := by unfold pickA endOf; exact if_pos (by decide +kernel)
  have e2 : pickB c d 0 = c := by unfold pickB endOf; exact if_pos (by decide +kernel)
  have e3 : pickC f g 0 = f := by unfold pickC endOf; exact if_pos (by decide +kernel)
  unfold rdowns rups; rw [e1, e2, e3]; exact ⟨rfl, rfl⟩
theorem rd1 (a b c d f g : Int) : rdowns a b c d f g 1 = QD b c f ∧ rups a b c d f g 1 = QU b c f := by
  have e1 : pickA a b 1 = b := by unfold pickA endOf; exact if_neg (by decide +kernel)
  have e2 : pickB c d 1 = c := by unfold pickB endOf; exact if_pos (by decide +kernel)
  have e3 : pickC f g 1 = f := by unfold pickC endOf; exact if_pos (by decide +kernel)
  unfold rdowns rups; rw [e1, e2, e3]; exact ⟨rfl, rfl⟩
theorem rd2 (a b c d f g : Int) : rdowns a b c d f g 2 = QD a d f ∧ rups a b c d f g 2 = QU a d f := by
  have e1 : pickA a b 2 = a := by unfold pickA endOf; exact if_pos (by decide +kernel)
  have e2 : pickB c d 2 = d := by unfold pickB endOf; exact if_neg (by decide +kernel)
  have e3 : pickC f g 2 = f := by unfold pickC endOf; exact if_pos (by decide +kernel)
  unfold rdowns rups; rw [e1, e2, e3]; exact ⟨rfl, rfl⟩
theorem rd3 (a b c d f g : Int) : rdowns a b c d f g 3 = QD b d f ∧ rups a b c d f g 3 = QU b d f := by
  have e1 : pickA a b 3 = b := by unfold pickA endOf; exact if_neg (by decide +kernel)
  have e2 : pickB c d 3 = d := by unfold pickB endOf; exact if_neg (by decide +kernel)
  have e3 : pickC f g 3 = f := by unfold pickC endOf; exact if_pos (by decide +kernel)
  unfold rdowns rups; rw [e1, e2, e3]; exact ⟨rfl, rfl⟩
theorem rd4 (a b c d f g : Int) : rdowns a b c d f g 4 = QD a c g ∧ rups a b c d f g 4 = QU a c g := by
  have e1 : pickA a b 4 = a := by unfold pickA endOf; exact if_pos (by decide +kernel)
  have e2 : pickB c d 4 = c := by unfold pickB endOf; exact if_pos (by decide +kernel)
  have e3 : pickC f g 4 = g := by unfold pickC endOf; exact if_neg (by decide +kernel)
  unfold rdowns rups; rw [e1, e2, e3]; exact ⟨rfl, rfl⟩
theorem rd5 (a b c d f g : Int) : rdowns a b c d f g 5 = QD b c g ∧ rups a b c d f g 5 = QU b c g := by
  have e1 : pickA a b 5 = b := by unfold pickA endOf; exact if_neg (by decide +kernel)
  have e2 : pickB c d 5 = c := by unfold pickB endOf; exact if_pos (by decide +kernel)
  have e3 : pickC f g 5 = g := by unfold pickC endOf; exact if_neg (by decide +kernel)
  unfold rdowns rups; rw [e1, e2, e3]; exact ⟨rfl, rfl⟩
theorem rd6 (a b c d f g : Int) : rdowns a b c d f g 6 = QD a d g ∧ rups a b c d f g 6 = QU a d g := by
  have e1 : pickA a b 6 = a := by unfold pickA endOf; exact if_pos (by decide +kernel)
  have e2 : pickB c d 6 = d := by unfold pickB endOf; exact if_neg (by decide +kernel)
  have e3 : pickC f g 6 = g := by unfold pickC endOf; exact if_neg (by decide +kernel)
  unfold rdowns rups; rw [e1, e2, e3]; exact ⟨rfl, rfl⟩
theorem rd7 (a b c d f g : Int) : rdowns a b c d f g 7 = QD b d g ∧ rups a b c d f g 7 = QU b d g := by
  have e1 : pickA a b 7 = b := by unfold pickA endOf; exact if_neg (by decide +kernel)
  have e2 : pickB c d 7 = d := by unfold pickB endOf; exact if_neg (by decide +kernel)
  have e3 : pickC f g 7 = g := by unfold pickC endOf; exact if_neg (by decide +kernel)
  unfold rdowns rups; rw [e1, e2, e3]; exact ⟨rfl, rfl⟩

theorem QD_bd (x y : Int) {z : Int} (hz : 1 ≤ z) : (-4398046511105 ≤ QD x y z ∧ QD x y z ≤ 4398046511105) ∧ (-4398046511105 ≤ QU x y z ∧ QU x y z ≤ 4398046511105) := by
  have := qQ_bd (x := x.natAbs) (y := y.natAbs) (z := z) (by omega) (by omega) hz
  unfold QD QU qU
  constructor <;> (repeat' split) <;> omega

set_option maxHeartbeats 2000000 in
theorem rover_any (a b c d f g : Int) (w : World) :
    Calls Try.prog 30 #[sp a b, sp c d, sp f g] w fun e w' => e = if3 a b c d f g (fitE (runMin (rdowns a b c d f g) 8) (runMax (rups a b c d f g) 8)) ∧ Below w.heap.size w w' := by
  go_enter Try.func30, Try.ntmps30
  go_wp2_with fail
  refine (rvalid_any _ _ _).mono ?_
  rintro e w1 ⟨rfl, hb1⟩
  obtain ⟨hB, hc, hf⟩ := after (w := w) (by go_grown) hb1
  have hz : w.heap.size + 1 + 1 + 1 < w1.heap.size := by have := hb1.size; simp at this; omega
  by_cases hv1 : validB a b = true
  · rw [hv1]
    have Hv1 := Lib.hid hv1
    clear hv1
    go_wp2_with fail
    refine (rvalid_any _ _ _).mono ?_
    rintro e w2 ⟨rfl, hb2⟩
    clear hc hf hB
    have hbb := two hb1 hb2
    obtain ⟨hB, hc, hf⟩ := after (w := w) (by go_grown) hbb
    have hzz : w.heap.size + 1 + 1 + 1 < w2.heap.size := by have := hb2.size; omega
    by_cases hv2 : validB c d = true
    · rw [hv2]
      have Hv2 := Lib.hid hv2
      clear hv2
      go_wp2_with fail
      refine (rvalid_any _ _ _).mono ?_
      rintro e w3 ⟨rfl, hb3⟩
      clear hc hf hB
      have hbc := two hbb hb3
      obtain ⟨hB, hc, hf⟩ := after (w := w) (by go_grown) hbc
      have hz3 : w.heap.size + 1 + 1 + 1 < w3.heap.size := by have := hb3.size; omega
      by_cases hv3 : validB f g = true
      · rw [hv3]
        have Hv3 := Lib.hid hv3
        clear hv3
        have hv : allValid [(a, b), (c, d), (f, g)] = true := by rw [allValid3, Hv1.out, Hv2.out, Hv3.out]; rfl
        have Hv := Lib.hid hv
        clear hv
        by_cases hf0 : f ≤ 0
        · go_wp2_with fail
          exact bodyPost_ret (v := .tuple #[sp 0 0, .int .i64 12]) (by simp [results, Try.results30, go_sem, *]) rfl ⟨by rw [if3_zero Hv.out hf0], by go_grown⟩
        · obtain ⟨_, _, _⟩ := validB_bd Hv1.out
          obtain ⟨_, _, _⟩ := validB_bd Hv2.out
          obtain ⟨_, _, _⟩ := validB_bd Hv3.out
          go_wp2_with fail
          refine (Quotient_any _ _ _ _ (by omega) (by omega) (by omega) (by omega) (by omega) (by omega)).mono ?_
          rintro e w4 ⟨rfl, hb4⟩
          clear hc hf hB
          have hbd := two hbc hb4
          obtain ⟨hB, hc, hf⟩ := after (w := w) (by go_grown) hbd
          have hz4 : w.heap.size + 1 + 1 + 1 < w4.heap.size := by have := hb4.size; omega
          have ov : OvW w.heap.size w w4 a b c d f g := ⟨hB, by omega, by go_cell, by go_cell, by go_cell, by go_cell, by go_cell, by go_cell, by go_cell, by go_cell, by go_cell, by go_cell⟩
          have OV := Lib.hid ov
          clear ov hc hf hB hbd
          go_wp2_with fail
          go_loopw [8, 9, 10] (fun v8 v9 v10 wr => OvHead w.heap.size w wr a b c d f g v8 v9 v10) (fun _ _ v10 _ => 8 - (intOf v10).toNat)
          case atStart => exact ⟨0, by omega, by omega, rfl, by rw [show (0 : Int).toNat = 0 from rfl]; unfold runMin; rw [(rd0 a b c d f g).1], by rw [show (0 : Int).toNat = 0 from rfl]; unfold runMax; rw [(rd0 a b c d f g).2], OV.out⟩
          case round =>
            obtain ⟨k, hk0, hk8, rfl, rfl, rfl, hov⟩ := hrel
            have OV := Lib.hid hov
            have hbw := hov.below
            have ga0 := hov.a0
            have ga1 := hov.a1
            have gb0 := hov.b0
            have gb1 := hov.b1
            have gc0 := hov.c0
            have gc1 := hov.c1
            have gr0 := hov.r0
            have gr1 := hov.r1
            have gf0 := hov.rf0
            have gf1 := hov.rf1
            have gz := hov.size
            clear hov
            by_cases hlt : k < 8
            · clear gr0 gr1 gf0 gf1
              obtain ⟨m, hm⟩ : ∃ m : Int, runMin (rdowns a b c d f g) k.toNat = m := ⟨_, rfl⟩
              obtain ⟨n, hn⟩ : ∃ n : Int, runMax (rups a b c d f g) k.toNat = n := ⟨_, rfl⟩
              rw [hm, hn]
              have hmn : runMin (rdowns a b c d f g) (k + 1).toNat = min m (rdowns a b c d f g k.toNat) ∧ runMax (rups a b c d f g) (k + 1).toNat = max n (rups a b c d f g k.toNat) := by
                rw [show (k + 1).toNat = k.toNat + 1 by omega]; exact ⟨by rw [runMin, hm], by rw [runMax, hn]⟩
              clear hm hn
              have h8 : k = 0 ∨ k = 1 ∨ k = 2 ∨ k = 3 ∨ k = 4 ∨ k = 5 ∨ k = 6 ∨ k = 7 := by omega
              rcases h8 with rfl | rfl | rfl | rfl | rfl | rfl | rfl | rfl
              · obtain ⟨e1, e2⟩ := rd0 a b c d f g
                rw [show (0 : Int).toNat = 0 from rfl, e1, e2] at hmn
                have HM := Lib.hid hmn
                clear hmn e1 e2
                go_wp2_with fail
                go_quiet (fail)
                go_wp2_with fail
                refine (Quotient_any _ _ _ _ (by omega) (by omega) (by omega) (by omega) (by omega) (by omega)).mono ?_
                rintro e w5 ⟨rfl, hb5⟩
                clear ga0 ga1 gb0 gb1 gc0 gc1
                go_wp2_with fail
                all_goals
                  go_roundw
                  case rel => exact ⟨1, by omega, by omega, rfl, by rw [show (1 : Int) = 0 + 1 from rfl, HM.out.1], by rw [show (1 : Int) = 0 + 1 from rfl, HM.out.2], OV.out.step (drewB hb5)⟩
                  case measure => simp [intOf]
              · obtain ⟨e1, e2⟩ := rd1 a b c d f g
                rw [show (1 : Int).toNat = 1 from rfl, e1, e2] at hmn
                have HM := Lib.hid hmn
                clear hmn e1 e2
                go_wp2_with fail
                go_quiet (fail)
                go_wp2_with fail
                refine (Quotient_any _ _ _ _ (by omega) (by omega) (by omega) (by omega) (by omega) (by omega)).mono ?_
                rintro e w5 ⟨rfl, hb5⟩
                clear ga0 ga1 gb0 gb1 gc0 gc1
                go_wp2_with fail
                all_goals
                  go_roundw
                  case rel => exact ⟨2, by omega, by omega, rfl, by rw [show (2 : Int) = 1 + 1 from rfl, HM.out.1], by rw [show (2 : Int) = 1 + 1 from rfl, HM.out.2], OV.out.step (drewB hb5)⟩
                  case measure => simp [intOf]
              · obtain ⟨e1, e2⟩ := rd2 a b c d f g
                rw [show (2 : Int).toNat = 2 from rfl, e1, e2] at hmn
                have HM := Lib.hid hmn
                clear hmn e1 e2
                go_wp2_with fail
                go_quiet (fail)
                go_wp2_with fail
                refine (Quotient_any _ _ _ _ (by omega) (by omega) (by omega) (by omega) (by omega) (by omega)).mono ?_
                rintro e w5 ⟨rfl, hb5⟩
                clear ga0 ga1 gb0 gb1 gc0 gc1
                go_wp2_with fail
                all_goals
                  go_roundw
                  case rel => exact ⟨3, by omega, by omega, rfl, by rw [show (3 : Int) = 2 + 1 from rfl, HM.out.1], by rw [show (3 : Int) = 2 + 1 from rfl, HM.out.2], OV.out.step (drewB hb5)⟩
                  case measure => simp [intOf]
              · obtain ⟨e1, e2⟩ := rd3 a b c d f g
                rw [show (3 : Int).toNat = 3 from rfl, e1, e2] at hmn
                have HM := Lib.hid hmn
                clear hmn e1 e2
                go_wp2_with fail
                go_quiet (fail)
                go_wp2_with fail
                refine (Quotient_any _ _ _ _ (by omega) (by omega) (by omega) (by omega) (by omega) (by omega)).mono ?_
                rintro e w5 ⟨rfl, hb5⟩
                clear ga0 ga1 gb0 gb1 gc0 gc1
                go_wp2_with fail
                all_goals
                  go_roundw
                  case rel => exact ⟨4, by omega, by omega, rfl, by rw [show (4 : Int) = 3 + 1 from rfl, HM.out.1], by rw [show (4 : Int) = 3 + 1 from rfl, HM.out.2], OV.out.step (drewB hb5)⟩
                  case measure => simp [intOf]
              · obtain ⟨e1, e2⟩ := rd4 a b c d f g
                rw [show (4 : Int).toNat = 4 from rfl, e1, e2] at hmn
                have HM := Lib.hid hmn
                clear hmn e1 e2
                go_wp2_with fail
                go_quiet (fail)
                go_wp2_with fail
                refine (Quotient_any _ _ _ _ (by omega) (by omega) (by omega) (by omega) (by omega) (by omega)).mono ?_
                rintro e w5 ⟨rfl, hb5⟩
                clear ga0 ga1 gb0 gb1 gc0 gc1
                go_wp2_with fail
                all_goals
                  go_roundw
                  case rel => exact ⟨5, by omega, by omega, rfl, by rw [show (5 : Int) = 4 + 1 from rfl, HM.out.1], by rw [show (5 : Int) = 4 + 1 from rfl, HM.out.2], OV.out.step (drewB hb5)⟩
                  case measure => simp [intOf]
              · obtain ⟨e1, e2⟩ := rd5 a b c d f g
                rw [show (5 : Int).toNat = 5 from rfl, e1, e2] at hmn
                have HM := Lib.hid hmn
                clear hmn e1 e2
                go_wp2_with fail
                go_quiet (fail)
                go_wp2_with fail
                refine (Quotient_any _ _ _ _ (by omega) (by omega) (by omega) (by omega) (by omega) (by omega)).mono ?_
                rintro e w5 ⟨rfl, hb5⟩
                clear ga0 ga1 gb0 gb1 gc0 gc1
                go_wp2_with fail
                all_goals
                  go_roundw
                  case rel => exact ⟨6, by omega, by omega, rfl, by rw [show (6 : Int) = 5 + 1 from rfl, HM.out.1], by rw [show (6 : Int) = 5 + 1 from rfl, HM.out.2], OV.out.step (drewB hb5)⟩
                  case measure => simp [intOf]
              · obtain ⟨e1, e2⟩ := rd6 a b c d f g
                rw [show (6 : Int).toNat = 6 from rfl, e1, e2] at hmn
                have HM := Lib.hid hmn
                clear hmn e1 e2
                go_wp2_with fail
                go_quiet (fail)
                go_wp2_with fail
                refine (Quotient_any _ _ _ _ (by omega) (by omega) (by omega) (by omega) (by omega) (by omega)).mono ?_
                rintro e w5 ⟨rfl, hb5⟩
                clear ga0 ga1 gb0 gb1 gc0 gc1
                go_wp2_with fail
                all_goals
                  go_roundw
                  case rel => exact ⟨7, by omega, by omega, rfl, by rw [show (7 : Int) = 6 + 1 from rfl, HM.out.1], by rw [show (7 : Int) = 6 + 1 from rfl, HM.out.2], OV.out.step (drewB hb5)⟩
                  case measure => simp [intOf]
              · obtain ⟨e1, e2⟩ := rd7 a b c d f g
                rw [show (7 : Int).toNat = 7 from rfl, e1, e2] at hmn
                have HM := Lib.hid hmn
                clear hmn e1 e2
                go_wp2_with fail
                go_quiet (fail)
                go_wp2_with fail
                refine (Quotient_any _ _ _ _ (by omega) (by omega) (by omega) (by omega) (by omega) (by omega)).mono ?_
                rintro e w5 ⟨rfl, hb5⟩
                clear ga0 ga1 gb0 gb1 gc0 gc1
                go_wp2_with fail
                all_goals
                  go_roundw
                  case rel => exact ⟨8, by omega, by omega, rfl, by rw [show (8 : Int) = 7 + 1 from rfl, HM.out.1], by rw [show (8 : Int) = 7 + 1 from rfl, HM.out.2], OV.out.step (drewB hb5)⟩
                  case measure => simp [intOf]
            · obtain rfl : k = 8 := by omega
              rw [show (8 : Int).toNat = 8 from rfl]
              clear ga0 ga1 gb0 gb1 gc0 gc1 gr0 gr1 gf0 gf1
              obtain ⟨m, hm⟩ : ∃ m : Int, runMin (rdowns a b c d f g) 8 = m := ⟨_, rfl⟩
              obtain ⟨n, hn⟩ : ∃ n : Int, runMax (rups a b c d f g) 8 = n := ⟨_, rfl⟩
              rw [hm, hn]
              have HM := Lib.hid hm
              have HN := Lib.hid hn
              clear hm hn
              go_wp2_with fail
              refine (rfit_any _ _ _).mono ?_
              rintro e w5 ⟨rfl, hb5⟩
              have ov5 := OV.out.step hb5
              have hbw5 := ov5.below
              have gr0 := ov5.r0
              have gr1 := ov5.r1
              have gf0 := ov5.rf0
              have gf1 := ov5.rf1
              clear ov5 hbw
              by_cases hft : fitB m n = true
              · rw [fitE_yes hft]
                go_wp2_with fail
                exact bodyPost_ret (v := .tuple #[sp m n, .int .i64 0]) (by simp [results, Try.results30, go_sem, *]) rfl ⟨by rw [if3_yes Hv.out (by omega), HM.out, HN.out, fitE_yes hft], by go_grown⟩
              · rw [fitE_no (by simpa using hft)]
                go_wp2_with fail
                exact bodyPost_ret (v := .tuple #[sp 0 0, .int .i64 11]) (by simp [results, Try.results30, go_sem, *]) rfl ⟨by rw [if3_yes Hv.out (by omega), HM.out, HN.out, fitE_no (by simpa using hft)], by go_grown⟩
      · have hv3' : validB f g = false := by simpa using hv3
        rw [hv3']
        go_wp2_with fail
        exact bodyPost_ret (v := .tuple #[sp 0 0, .int .i64 10]) (by simp [results, Try.results30, go_sem, *]) rfl ⟨by rw [if3_no (by rw [allValid3, hv3']; simp)], by go_grown⟩
    · have hv2' : validB c d = false := by simpa using hv2
      rw [hv2']
      go_wp2_with fail
      exact bodyPost_ret (v := .tuple #[sp 0 0, .int .i64 10]) (by simp [results, Try.results30, go_sem, *]) rfl ⟨by rw [if3_no (by rw [allValid3, hv2']; simp)], by go_grown⟩
  · have hv1' : validB a b = false := by simpa using hv1
    rw [hv1']
    go_wp2_with fail
    exact bodyPost_ret (v := .tuple #[sp 0 0, .int .i64 10]) (by simp [results, Try.results30, go_sem, *]) rfl ⟨by rw [if3_no (by rw [allValid3, hv1']; simp)], by go_grown⟩

set_option maxHeartbeats 400000 in
theorem rmul_any (a b c d : Int) (w : World) :
    Calls Try.prog 20 #[sp a b, sp c d] w fun e w' => e = if2 a b c d (fitE (runMin (rdowns a b c d 1 1) 8) (runMax (rups a b c d 1 1) 8)) ∧ Below w.heap.size w w' := by
  go_enter Try.func20, Try.ntmps20
  go_wp2_with fail
  refine (rvalid_any _ _ _).mono ?_
  rintro e w1 ⟨rfl, hb1⟩
  obtain ⟨hB, hc, hf⟩ := after (w := w) (by go_grown) hb1
  have hz : w.heap.size + 1 + 1 < w1.heap.size := by have := hb1.size; simp at this; omega
  by_cases hv1 : validB a b = true
  · rw [hv1]
    have Hv1 := Lib.hid hv1
    clear hv1
    go_wp2_with fail
    refine (rvalid_any _ _ _).mono ?_
    rintro e w2 ⟨rfl, hb2⟩
    clear hc hf hB
    have hbb := two hb1 hb2
    obtain ⟨hB, hc, hf⟩ := after (w := w) (by go_grown) hbb
    have hzz : w.heap.size + 1 + 1 < w2.heap.size := by have := hb2.size; omega
    by_cases hv2 : validB c d = true
    · rw [hv2]
      have hv : allValid [(a, b), (c, d)] = true := by rw [allValid2, Hv1.out, hv2]; rfl
      have Hv := Lib.hid hv
      have hv3 : allValid [(a, b), (c, d), (1, 1)] = true := by rw [allValid3, Hv1.out, hv2, valid1]; rfl
      have Hv3 := Lib.hid hv3
      clear hv2 hv hv3
      go_wp2_with fail
      refine (rover_any _ _ _ _ _ _ _).mono ?_
      rintro e w3 ⟨rfl, hb3⟩
      rw [if3_yes Hv3.out (by omega)]
      clear hc hf hB
      have hbc := two hbb hb3
      obtain ⟨hB, hc, hf⟩ := after (w := w) (by go_grown) hbc
      have hz3 : w.heap.size + 1 + 1 < w3.heap.size := by have := hb3.size; omega
      obtain ⟨m, hm⟩ : ∃ m : Int, runMin (rdowns a b c d 1 1) 8 = m := ⟨_, rfl⟩
      obtain ⟨n, hn⟩ : ∃ n : Int, runMax (rups a b c d 1 1) 8 = n := ⟨_, rfl⟩
      rw [hm, hn]
      have HM := Lib.hid hm
      have HN := Lib.hid hn
      clear hm hn
      by_cases hft : fitB m n = true
      · rw [fitE_yes hft]
        go_wp2_with fail
        exact bodyPost_ret (v := .tuple #[sp m n, .int .i64 0]) (by simp [results, Try.results20, go_sem, *]) rfl ⟨by rw [if2_yes Hv.out, HM.out, HN.out, fitE_yes hft], by go_grown⟩
      · rw [fitE_no (by simpa using hft)]
        go_wp2_with fail
        exact bodyPost_ret (v := .tuple #[sp 0 0, .int .i64 11]) (by simp [results, Try.results20, go_sem, *]) rfl ⟨by rw [if2_yes Hv.out, HM.out, HN.out, fitE_no (by simpa using hft)], by go_grown⟩
    · have hv2' : validB c d = false := by simpa using hv2
      rw [hv2']
      go_wp2_with fail
      exact bodyPost_ret (v := .tuple #[sp 0 0, .int .i64 10]) (by simp [results, Try.results20, go_sem, *]) rfl ⟨by rw [if2_no (by rw [allValid2, hv2']; simp)], by go_grown⟩
  · have hv1' : validB a b = false := by simpa using hv1
    rw [hv1']
    go_wp2_with fail
    exact bodyPost_ret (v := .tuple #[sp 0 0, .int .i64 10]) (by simp [results, Try.results20, go_sem, *]) rfl ⟨by rw [if2_no (by rw [allValid2, hv1']; simp)], by go_grown⟩

end Go.Proofs.Ytflgdckeinappaa
