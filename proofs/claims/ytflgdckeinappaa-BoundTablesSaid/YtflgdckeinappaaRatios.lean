/- ratios: the least and the greatest of the eight quotients. -/
import Derived.Test.YtflgdckeinappaaRatW
import Derived.Deep.RegionHeld3
import Derived.Deep.LoopGhost
namespace Go.Proofs.Ytflgdckeinappaa
open Go.RowKit

set_option maxHeartbeats 1000000 in
theorem ratios_any (a b c d f g : Int) (w : World) (h1 : validB a b = true) (h2 : validB c d = true) (h3 : validB f g = true) (hf : 1 ≤ f) :
    Calls Try.prog 68 #[sp a b, sp c d, sp f g] w fun e w' => e = .returned (sp (min8 (downs a b c d f g)) (max8 (ups a b c d f g))) ∧ Below w.heap.size w w' := by
  go_enter Try.func68, Try.ntmps68
  go_wp2_with fail
  go_loopw [10] (fun v10 wr => ∃ k : Nat, k ≤ 8 ∧ v10 = .int .i64 k ∧ RatW w.heap.size w wr a b c d f g k) (fun v10 _ => 8 - (intOf v10).toNat)
  case atStart =>
    refine ⟨0, by omega, rfl, ⟨by go_grown, by simp, by go_cell, by go_cell, by go_cell, by go_cell, by go_cell, by go_cell, by go_cell, by go_cell, by intro o; go_cell, ?_, by intro o; go_cell, ?_, by intro o; go_cell⟩⟩
    all_goals
      intro j hj
      rw [if_neg (by omega)]
      have h8 : j = 0 ∨ j = 1 ∨ j = 2 ∨ j = 3 ∨ j = 4 ∨ j = 5 ∨ j = 6 ∨ j = 7 := by omega
      rcases h8 with rfl | rfl | rfl | rfl | rfl | rfl | rfl | rfl <;> go_cell
  case round =>
    obtain ⟨k, hk, rfl, hw⟩ := hrel
    have Hw := Lib.hid hw
    clear hw
    by_cases hlt : k < 8
    · have hk0 : (0 : Int) ≤ k := by omega
      have hk8 : (k : Int) < 8 := by omega
      have ga0 := Hw.out.a0
      have ga1 := Hw.out.a1
      have gb0 := Hw.out.b0
      have gb1 := Hw.out.b1
      have gc0 := Hw.out.c0
      have gc1 := Hw.out.c1
      have gd := Hw.out.d0 k hlt
      have gdf := Hw.out.df k
      have gu := Hw.out.u0 k hlt
      have guf := Hw.out.uf k
      rw [if_neg (by omega)] at gd gu
      have gz := Hw.out.size
      have hB : Below wr.heap.size wr wr := Below.refl _ _
      go_wp2_with fail
      go_region_held3 (fun w' => w'.cell? ⟨w.heap.size, 0, none⟩ = some (.int .i64 a) ∧ w'.cell? ⟨w.heap.size, 1, none⟩ = some (.int .i64 b) ∧ w'.cell? ⟨w.heap.size + 1, 0, none⟩ = some (.int .i64 c) ∧ w'.cell? ⟨w.heap.size + 1, 1, none⟩ = some (.int .i64 d) ∧ w'.cell? ⟨w.heap.size + 1 + 1, 0, none⟩ = some (.int .i64 f) ∧ w'.cell? ⟨w.heap.size + 1 + 1, 1, none⟩ = some (.int .i64 g) ∧ w.heap.size + 6 ≤ w'.heap.size)
        (first | (go_split_ands; refine ⟨?_, ?_, ?_, ?_, ?_, ?_, ?_⟩ <;> first | assumption | (rw [cell_far _ _ (by omega)]; assumption) | (exact size_set _ _ (by assumption)) | (rw [(bcell hb1).1 _ _ (by omega)]; assumption) | (rw [(bcell hb1).2 _ _ (by omega)]; assumption) | (have := hb1.size; omega)) | go_keep)
        (first
          | (go_at_call 130; refine (end_any _ _ _ _).mono ?_; rintro e w1 ⟨rfl, hb1⟩; have hB : Below wr.heap.size wr w1 := (by first | exact chain hB hb1 | exact chainD hB hb1))
          | (go_at_call 129; refine (ratio_ends h1 h2 h3 hf _ _ _ _).mono ?_; rintro e w1 ⟨rfl, hb1⟩; have hB : Below wr.heap.size wr w1 := (by first | exact chain hB hb1 | exact chainD hB hb1); have gd : w1.cell? ⟨w.heap.size + 1 + 1 + 1 + 1, k, none⟩ = some (.int .i64 0) := (by rw [(bcell hB).1 _ _ (by omega)]; exact gd); have gdf : w1.frozen? ⟨w.heap.size + 1 + 1 + 1 + 1, k, none⟩ = false := (by rw [(bcell hB).2 _ _ (by omega)]; exact gdf); have gu : w1.cell? ⟨w.heap.size + 1 + 1 + 1 + 1 + 1, k, none⟩ = some (.int .i64 0) := (by rw [(bcell hB).1 _ _ (by omega)]; exact gu); have guf : w1.frozen? ⟨w.heap.size + 1 + 1 + 1 + 1 + 1, k, none⟩ = false := (by rw [(bcell hB).2 _ _ (by omega)]; exact guf)))
      go_wp2_with fail
      go_roundw
      case rel => exact ⟨k + 1, by omega, by go_num, Hw.out.step hlt hB⟩
      case measure => simp [intOf]; omega
    · obtain rfl : k = 8 := by omega
      have gd : ∀ j, j < 8 → wr.cell? ⟨w.heap.size + 1 + 1 + 1 + 1, j, none⟩ = some (.int .i64 (downs a b c d f g j)) := fun j hj => by have := Hw.out.d0 j hj; rwa [if_pos hj] at this
      have gu : ∀ j, j < 8 → wr.cell? ⟨w.heap.size + 1 + 1 + 1 + 1 + 1, j, none⟩ = some (.int .i64 (ups a b c d f g j)) := fun j hj => by have := Hw.out.u0 j hj; rwa [if_pos hj] at this
      have gd0 := gd 0 (by omega)
      have gu0 := gu 0 (by omega)
      have gr0 := Hw.out.r0
      have gr1 := Hw.out.r1
      have grf := Hw.out.rf
      have HD := Lib.hid gd
      have HU := Lib.hid gu
      clear gd gu
      go_wp2_with fail
      go_region_held3 (fun w' => w'.cell? ⟨w.heap.size + 1 + 1 + 1 + 1, 0, none⟩ = some (.int .i64 (downs a b c d f g 0)) ∧ w'.cell? ⟨w.heap.size + 1 + 1 + 1 + 1 + 1, 0, none⟩ = some (.int .i64 (ups a b c d f g 0)))
        (first | (go_split_ands; refine ⟨?_, ?_⟩ <;> first | assumption | (rw [cell_far _ _ (by omega)]; assumption)) | go_keep)
        (first
          | (go_at_call 75; refine (least8 (X := downs a b c d f g) _ (fun j hj => by simpa using HD.out j hj)).mono ?_; rintro e w1 ⟨rfl, rfl⟩)
          | (go_at_call 78; refine (greatest8 (X := ups a b c d f g) _ (fun j hj => by simpa using HU.out j hj)).mono ?_; rintro e w1 ⟨rfl, rfl⟩))
      go_wp2_with fail
      have hbw := Hw.out.below
      exact bodyPost_ret (v := sp (min8 (downs a b c d f g)) (max8 (ups a b c d f g))) (by simp [results, Try.results68, go_sem, *]) rfl ⟨rfl, by go_grown⟩
end Go.Proofs.Ytflgdckeinappaa
