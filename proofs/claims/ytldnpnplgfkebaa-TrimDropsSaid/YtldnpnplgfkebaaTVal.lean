/- Package trim: value, worst's comparison, MaxFunc, worst. -/
import Derived.Test.YtldnpnplgfkebaaTBox
import Derived.Laws.EntriesVeiled
namespace Go.Proofs.Ytldnpnplgfkebaa
open Go.RowKit

theorem makeFunc_run : ∀ (fn : Fn) (first cap : Array Value) (w : World), (Instr.makeFunc fn first cap).run Try.prog w = .ok (.func fn first cap) w := fun _ _ _ _ => rfl
set_option maxHeartbeats 400000 in
theorem value_any (a b : Int) (p : Pu) (w : World) (hs : ScB a b) (hp : PuB p) :
    Calls Try.prog 69 #[sp a b, puV p] w fun e w' => e = .returned (.int .i64 (valE a b p)) ∧ Below w.heap.size w w' := by
  obtain ⟨⟨x0, x1⟩, y0, y1⟩ := val_bound hs hp
  obtain ⟨X, hX⟩ : ∃ X, b * p.p = X := ⟨_, rfl⟩
  obtain ⟨Y, hY⟩ : ∃ Y, valE a b p = Y := ⟨_, rfl⟩
  have hY' : p.w * (a + X) = Y := by rw [← hX]; exact hY
  obtain ⟨a0, a1, b0, b1⟩ := hs
  rw [hX] at x0 x1
  rw [hY] at y0 y1
  rw [hY]
  have e1 : IntKind.i64.wrap (b * p.p) = X := by rw [hX]; exact IntWalk.i64_in _ ⟨by omega, by omega⟩
  have e2 : IntKind.i64.wrap (p.w * (a + X)) = Y := by rw [hY']; exact IntWalk.i64_in _ ⟨by omega, by omega⟩
  clear hX hY hY' hp
  go_enter Try.func69, Try.ntmps69
  go_wp2_with fail
  go_returns
  exact ⟨rfl, by go_grown⟩
theorem compare_any (x y : Int) (w : World) : Calls Try.prog 110 #[.int .i64 x, .int .i64 y] w fun e w' => e = .returned (.int .i64 (Lib.compareInt x y)) ∧ Below w.heap.size w w' :=
  (Try.cmp_Compare_int x y w).mono fun _ _ ⟨h, hw⟩ => ⟨h, by rw [hw]; exact Below.refl _ _⟩
set_option maxHeartbeats 2000000 in
theorem worst1_any (B : Nat) (a b : Int) (p q : Pu) (w : World) (hB : Two2 w B a b) (hs : ScB a b) (hp : PuB p) (hq : PuB q) :
    Calls Try.prog 109 #[puV p, puV q, .pointer (some ⟨B, 0, none⟩)] w fun e w' => e = .returned (.int .i64 (Lib.compareInt (valE a b p) (valE a b q))) ∧ Below w.heap.size w w' := by
  have HB0 := Lib.hid hB
  have HS := Lib.hid hs
  have HP := Lib.hid hp
  have HQ := Lib.hid hq
  clear hB hs hp hq
  go_enter Try.func109, Try.ntmps109
  go_wp2_with fail
  obtain ⟨W, hW⟩ : ∃ W, (w.alloc (.cells #[.int .i64 p.p, .int .i64 p.w] 89)).alloc (.cells #[.int .i64 q.p, .int .i64 q.w] 89) = W := ⟨_, rfl⟩
  have p0 : W.cell? ⟨w.heap.size, 0, none⟩ = some (.int .i64 p.p) := by subst hW; go_cell
  have p1 : W.cell? ⟨w.heap.size, 1, none⟩ = some (.int .i64 p.w) := by subst hW; go_cell
  have q0 : W.cell? ⟨w.heap.size + 1, 0, none⟩ = some (.int .i64 q.p) := by subst hW; go_cell
  have q1 : W.cell? ⟨w.heap.size + 1, 1, none⟩ = some (.int .i64 q.w) := by subst hW; go_cell
  have hBw : Below w.heap.size w W := by subst hW; go_grown
  obtain ⟨s0, s1⟩ := HB0.out.later hBw
  rw [hW]
  clear hW
  have hB : Below W.heap.size W W := Below.refl _ _
  go_region_held3 (fun w' => w'.cell? ⟨w.heap.size, 0, none⟩ = some (.int .i64 p.p) ∧ w'.cell? ⟨w.heap.size, 1, none⟩ = some (.int .i64 p.w) ∧ w'.cell? ⟨w.heap.size + 1, 0, none⟩ = some (.int .i64 q.p) ∧ w'.cell? ⟨w.heap.size + 1, 1, none⟩ = some (.int .i64 q.w) ∧ w'.cell? ⟨B, 0, none⟩ = some (.int .i64 a) ∧ w'.cell? ⟨B, 1, none⟩ = some (.int .i64 b))
    (first | (go_split_ands; (repeat' apply And.intro) <;> first | assumption | exact cell_later hb (by assumption)) | go_keep)
    (first
      | (go_at_call 69; refine (value_any a b _ _ HS.out (by first | exact HP.out | exact HQ.out)).mono ?_; rintro e wx ⟨rfl, hb⟩; have hB : Below W.heap.size W wx := (by first | exact chain hB hb | exact chainD hB hb))
      | (go_at_call 110; refine (compare_any _ _ _).mono ?_; rintro e wx ⟨rfl, hb⟩; have hB : Below W.heap.size W wx := (by first | exact chain hB hb | exact chainD hB hb)))
  go_wp2_with fail
  have hBx := hBw.trans (hB.mono hBw.size)
  go_returns
  exact ⟨rfl, by go_grown⟩
end Go.Proofs.Ytldnpnplgfkebaa
