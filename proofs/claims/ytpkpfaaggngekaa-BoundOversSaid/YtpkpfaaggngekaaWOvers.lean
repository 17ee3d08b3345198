/- BoundOvers: the walk. -/
import Derived.Test.YtpkpfaaggngekaaSame
import Derived.Test.YtpkpfaaggngekaaRoots
import Derived.Test.YtpkpfaaggngekaaCells
namespace Go.Proofs.Ytpkpfaaggngekaa
open Go.RowKit

theorem shape_over (a b c d f g : Int) : ∃ x y n : Int, overE a b c d f g = .returned (.tuple #[sp x y, .int .i64 n]) := by
  unfold overE if3; split
  · split
    · exact ⟨_, _, _, rfl⟩
    · exact shape_fit _ _
  · exact ⟨_, _, _, rfl⟩
theorem RootP.shape {lo hi : Int} {e : Ending} (h : RootP lo hi e) : ∃ x y n : Int, e = .returned (.tuple #[sp x y, .int .i64 n]) := by
  rcases h with ⟨a, rfl⟩ | ⟨a, b, rfl⟩ | ⟨a, b, r, s, rfl, c, d⟩
  all_goals exact ⟨_, _, _, rfl⟩

set_option maxRecDepth 100000 in
set_option maxHeartbeats 4000000 in
theorem boundOvers_walk (a b c d f g : Int) (w : World) :
    Calls Try.prog 4 #[sp a b, sp c d, sp f g] w fun e w' => e = .returned (.bool true) ∧ Below w.heap.size w w' := by
  obtain ⟨ox, oy, on, ho⟩ := shape_over a b c d f g
  have HO := Lib.hid ho
  clear ho
  go_enter Try.func4, Try.ntmps4
  go_wp2_with fail
  refine (over_is a b c d f g _).mono ?_
  rintro e w1 ⟨rfl, hb1⟩
  rw [HO.out]
  have hB1 : Below w.heap.size w w1 := (after (w := w) (by go_grown) hb1).1
  have k1 : Cells w1 [(w.heap.size + 1 + 1, 0, .int .i64 f), (w.heap.size + 1 + 1, 1, .int .i64 g), (w.heap.size + 1, 0, .int .i64 c), (w.heap.size + 1, 1, .int .i64 d), (w.heap.size, 0, .int .i64 a), (w.heap.size, 1, .int .i64 b)] := (Cells.cons (by go_cell) (Cells.cons (by go_cell) (Cells.cons (by go_cell) (Cells.cons (by go_cell) (Cells.cons (by go_cell) (Cells.cons (by go_cell) (Cells.nil _))))))).later hb1
  have hz1 : w.heap.size + 1 + 1 < w1.heap.size := by have := hb1.size; simp at this; omega
  clear hb1
  have c0 := k1.first
  have c1 := k1.rest.first
  have b0 := k1.rest.rest.first
  have b1 := k1.rest.rest.rest.first
  have a0 := k1.rest.rest.rest.rest.first
  have a1 := k1.rest.rest.rest.rest.rest.first
  have hy1 : w.heap.size < w1.heap.size := by omega
  have hx1 : w.heap.size + 1 < w1.heap.size := by omega
  have K1 := Lib.hid k1
  clear k1
  go_wp2_with fail
  refine (rover_is a b c d f g _).mono ?_
  rintro e w2 ⟨rfl, hb2⟩
  rw [HO.out]
  have hB2 : Below w.heap.size w w2 := (after (w := w) (by go_grown) hb2).1
  have k2 := K1.out.box.later hb2
  have hy2 : w.heap.size < w2.heap.size := by have := hb2.size; simp at this; omega
  clear hb2 hB1 hz1 hx1 hy1 K1 a0 a1 b0 b1 c0 c1
  have a0 := k2.rest.rest.rest.rest.rest.rest.first
  have a1 := k2.rest.rest.rest.rest.rest.rest.rest.first
  have K2 := Lib.hid k2
  clear k2
  go_wp2_with fail
  refine (root_any a b _).mono ?_
  rintro e w3 ⟨hr, hb3⟩
  obtain ⟨rx, ry, rn, rfl⟩ := hr.shape
  have HR := Lib.hid hr
  have hB3 : Below w.heap.size w w3 := (after (w := w) (by go_grown) hb3).1
  have k3 := K2.out.box.later hb3
  have hy3 : w.heap.size < w3.heap.size := by have := hb3.size; simp at this; omega
  clear hr hb3 hB2 hy2 K2 a0 a1
  have a0 := k3.rest.rest.rest.rest.rest.rest.rest.rest.first
  have a1 := k3.rest.rest.rest.rest.rest.rest.rest.rest.rest.first
  have K3 := Lib.hid k3
  clear k3
  go_wp2_with fail
  refine (rroot_any a b _).mono ?_
  rintro e w4 ⟨hr, hb4⟩
  obtain rfl := hr.uniq HR.out
  clear hr HR
  have hB4 : Below w.heap.size w w4 := (after (w := w) (by go_grown) hb4).1
  have k4 := K3.out.box.later hb4
  clear hb4 hB3 hy3 K3 a0 a1
  have c30 := k4.first
  have c31 := k4.rest.first
  have c20 := k4.rest.rest.first
  have c21 := k4.rest.rest.rest.first
  have c10 := k4.rest.rest.rest.rest.first
  have c11 := k4.rest.rest.rest.rest.rest.first
  have l3 : w3.heap.size < w4.heap.size := World.block_lt_of_cell? _ _ c30
  have l2 : w2.heap.size < w4.heap.size := World.block_lt_of_cell? _ _ c20
  have l1 : w1.heap.size < w4.heap.size := World.block_lt_of_cell? _ _ c10
  clear k4
  have hy4 : w.heap.size ≤ w4.heap.size := hB4.size
  go_wp2_with fail
  go_returns
  exact ⟨rfl, by go_grown⟩
end Go.Proofs.Ytpkpfaaggngekaa
