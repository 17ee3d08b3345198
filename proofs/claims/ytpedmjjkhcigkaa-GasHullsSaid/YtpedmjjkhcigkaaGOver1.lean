/- Package gas: a hull's overpressure at a moment. -/
import Derived.Test.YtpedmjjkhcigkaaGExt
namespace Go.Proofs.Ytpedmjjkhcigkaa
open Go.RowKit

set_option maxHeartbeats 4000000 in
theorem over1_any (Y : Nat) (rm gs w0 w1 bl bg ls ms p t u : Int) (w : World) (hY : Eight w Y rm gs w0 w1 bl bg ls ms) (rm0' : 1 ≤ rm) (rm1' : rm ≤ 10000000) (gs0' : 0 ≤ gs) (gs1' : gs ≤ 10000000) (bl0' : 0 ≤ bl) (bl1' : bl ≤ 10000000) (p0' : 0 ≤ p) (p1' : p ≤ 12000) (t0' : 1500 ≤ t) (t1' : t ≤ 3500) (u0' : -300 ≤ u) (u1' : u ≤ 300) :
    Calls Try.prog 131 #[mv p t u, .pointer (some ⟨Y, 0, none⟩)] w fun e w' => e = .returned (sp (gs * (t + u) + bl * t - p * rm) (rm)) ∧ Below w.heap.size w w' := by
  obtain ⟨X, hX⟩ : ∃ x, gs * (t + u) = x := ⟨_, rfl⟩
  have X0 : 0 ≤ X := by rw [← hX]; exact Int.mul_nonneg (by omega) (by omega)
  have X1 : X ≤ 10000000 * 3800 := by rw [← hX]; exact Int.mul_le_mul (by omega) (by omega) (by omega) (by omega)
  have eX : IntKind.i64.wrap X = X := IntWalk.i64_in _ ⟨by omega, by omega⟩
  obtain ⟨Z, hZ⟩ : ∃ x, bl * t = x := ⟨_, rfl⟩
  have Z0 : 0 ≤ Z := by rw [← hZ]; exact Int.mul_nonneg (by omega) (by omega)
  have Z1 : Z ≤ 10000000 * 3500 := by rw [← hZ]; exact Int.mul_le_mul (by omega) (by omega) (by omega) (by omega)
  have eZ : IntKind.i64.wrap Z = Z := IntWalk.i64_in _ ⟨by omega, by omega⟩
  obtain ⟨V, hV⟩ : ∃ x, p * rm = x := ⟨_, rfl⟩
  have V0 : 0 ≤ V := by rw [← hV]; exact Int.mul_nonneg (by omega) (by omega)
  have V1 : V ≤ 12000 * 10000000 := by rw [← hV]; exact Int.mul_le_mul (by omega) (by omega) (by omega) (by omega)
  have eV : IntKind.i64.wrap V = V := IntWalk.i64_in _ ⟨by omega, by omega⟩
  rw [hX, hZ, hV]
  have v0 : IntKind.i64.wrap (X + Z) = X + Z := IntWalk.i64_in _ ⟨by omega, by omega⟩
  have v1 : IntKind.i64.wrap (X + Z - V) = X + Z - V := IntWalk.i64_in _ ⟨by omega, by omega⟩
  have hYz := World.block_lt_of_cell? _ _ hY.c0
  have HY := Lib.hid hY
  clear hY
  go_enter Try.func131, Try.ntmps131
  go_wp2_with fail
  obtain ⟨W, hW⟩ : ∃ W, (w.alloc (.cells #[.int .i64 p, .int .i64 t, .int .i64 u] 141)).alloc (.cells #[.int .i64 0, .int .i64 0] 127) = W := ⟨_, rfl⟩
  have a0 : W.cell? ⟨w.heap.size, 0, none⟩ = some (.int .i64 p) := by subst hW; go_cell
  have a1 : W.cell? ⟨w.heap.size, 1, none⟩ = some (.int .i64 t) := by subst hW; go_cell
  have a2 : W.cell? ⟨w.heap.size, 2, none⟩ = some (.int .i64 u) := by subst hW; go_cell
  have hN : NewBox W (w.heap.size + 1) := by subst hW; exact ⟨by go_cell, by go_cell, by go_cell, by go_cell⟩
  have hBw : Below w.heap.size w W := by subst hW; go_grown
  have k := HY.out.later hBw
  have b0 := k.c0
  have b1 := k.c1
  have b2 := k.c2
  have b3 := k.c3
  have b4 := k.c4
  have b5 := k.c5
  have b6 := k.c6
  have b7 := k.c7
  have HN := Lib.hid hN
  rw [hW]
  clear hW hN k
  have hB : Below W.heap.size W W := Below.refl _ _
  go_region_held3 (fun w' => w'.cell? ⟨w.heap.size, 0, none⟩ = some (.int .i64 p) ∧ w'.cell? ⟨w.heap.size, 1, none⟩ = some (.int .i64 t) ∧ w'.cell? ⟨w.heap.size, 2, none⟩ = some (.int .i64 u) ∧ w'.cell? ⟨Y, 0, none⟩ = some (.int .i64 rm) ∧ w'.cell? ⟨Y, 1, none⟩ = some (.int .i64 gs) ∧ w'.cell? ⟨Y, 2, none⟩ = some (.int .i64 w0) ∧ w'.cell? ⟨Y, 3, none⟩ = some (.int .i64 w1) ∧ w'.cell? ⟨Y, 4, none⟩ = some (.int .i64 bl) ∧ w'.cell? ⟨Y, 5, none⟩ = some (.int .i64 bg) ∧ w'.cell? ⟨Y, 6, none⟩ = some (.int .i64 ls) ∧ w'.cell? ⟨Y, 7, none⟩ = some (.int .i64 ms))
    (first | (go_split_ands; (repeat' apply And.intro) <;> first | assumption | exact cell_later hb (by assumption) | ((repeat rw [cell_far _ _ (by omega)]); assumption)) | go_keep)
    (first
      | (go_at_call 85; refine (gasTemp_any _ _ _ _ (by omega) (by omega) (by omega) (by omega)).mono ?_; rintro e wx ⟨rfl, hb⟩; have hB : Below W.heap.size W wx := (by first | exact chain hB hb | exact chainD hB hb); have c0 := (HN.out.later hB).c0; have c1 := (HN.out.later hB).c1; have f0 := (HN.out.later hB).f0; have f1 := (HN.out.later hB).f1))
  go_wp2_with fail
  have hBx := hBw.trans (hB.mono hBw.size)
  exact bodyPost_ret (v := sp (X + Z - V) (rm)) (by simp [results, Try.results131, go_sem, *]) rfl ⟨rfl, by go_grown⟩
end Go.Proofs.Ytpedmjjkhcigkaa
