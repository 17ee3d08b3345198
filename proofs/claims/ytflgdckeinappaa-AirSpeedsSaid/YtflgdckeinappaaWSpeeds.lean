/- AirSpeeds: the walk. -/
import Derived.Test.YtflgdckeinappaaSpAlong
import Derived.Test.YtflgdckeinappaaSpAlong2
namespace Go.Proofs.Ytflgdckeinappaa
open Go.RowKit

def wcells (n : Nat) (a b c d : Int) : List (Nat × Nat × Value) := [(n, 0, .int .i64 a), (n, 1, .int .i64 b), (n, 2, .int .i64 c), (n, 3, .int .i64 d)]
set_option maxRecDepth 100000 in
set_option maxHeartbeats 4000000 in
theorem airSpeeds_walk (a b c d dx dy : Int) (w : World) :
    Calls Try.prog 6 #[wd a b c d, .int .i64 dx, .int .i64 dy] w fun e w' => e = .returned (.bool true) ∧ Below w.heap.size w w' := by
  go_enter Try.func6, Try.ntmps6
  go_wp2_with fail
  refine (speed_any a b c d _).mono ?_
  rintro e w1 ⟨hr, hb1⟩
  have HR := Lib.hid hr
  obtain ⟨x, y, n, rfl⟩ := hr.spi
  have hB1 : Below w.heap.size w w1 := (after (w := w) (by go_grown) hb1).1
  have K1 := Lib.hid ((show Cells (w.alloc (.cells #[.int .i64 a, .int .i64 b, .int .i64 c, .int .i64 d] 55)) (wcells w.heap.size a b c d) from Cells.cons (by go_cell) (Cells.cons (by go_cell) (Cells.cons (by go_cell) (Cells.cons (by go_cell) (Cells.nil _))))).later hb1)
  have hz1 : w.heap.size < w1.heap.size := by have := hb1.size; simp at this; omega
  clear hr hb1
  have a0 := K1.out.first
  have a1 := K1.out.rest.first
  have a2 := K1.out.rest.rest.first
  have a3 := K1.out.rest.rest.rest.first
  go_wp2_with fail
  refine (rspeed_any a b c d _).mono ?_
  rintro e w2 ⟨hr, hb2⟩
  obtain rfl := hr.uniq HR.out
  have hB2 : Below w.heap.size w w2 := (after (w := w) (by go_grown) hb2).1
  have K2 := Lib.hid (K1.out.box.later hb2)
  have hz2 : w.heap.size < w2.heap.size := by have := hb2.size; simp at this; omega
  clear hr HR hb2 hB1 hz1 K1 a0 a1 a2 a3
  have a0 := K2.out.rest.rest.first
  have a1 := K2.out.rest.rest.rest.first
  have a2 := K2.out.rest.rest.rest.rest.first
  have a3 := K2.out.rest.rest.rest.rest.rest.first
  go_wp2_with fail
  refine (along_any a b c d dx dy _).mono ?_
  rintro e w3 ⟨hr, hb3⟩
  have HR := Lib.hid hr
  obtain ⟨x', y', n', rfl⟩ := hr.spi
  have hB3 : Below w.heap.size w w3 := (after (w := w) (by go_grown) hb3).1
  have K3 := Lib.hid (K2.out.box.later hb3)
  have hz3 : w.heap.size < w3.heap.size := by have := hb3.size; simp at this; omega
  clear hr hb3 hB2 hz2 K2 a0 a1 a2 a3
  have a0 := K3.out.rest.rest.rest.rest.first
  have a1 := K3.out.rest.rest.rest.rest.rest.first
  have a2 := K3.out.rest.rest.rest.rest.rest.rest.first
  have a3 := K3.out.rest.rest.rest.rest.rest.rest.rest.first
  go_wp2_with fail
  refine (ralong_any a b c d dx dy _).mono ?_
  rintro e w4 ⟨hr, hb4⟩
  obtain rfl := hr.uniq HR.out
  have hB4 : Below w.heap.size w w4 := (after (w := w) (by go_grown) hb4).1
  have k4 := K3.out.box.later hb4
  clear hr HR hb4 hB3 hz3 K3 a0 a1 a2 a3
  have c30 := k4.first
  have c31 := k4.rest.first
  have c20 := k4.rest.rest.first
  have c21 := k4.rest.rest.rest.first
  have c10 := k4.rest.rest.rest.rest.first
  have c11 := k4.rest.rest.rest.rest.rest.first
  have l3 : w3.heap.size < w4.heap.size := World.block_lt_of_cell? _ _ c30
  have l2 : w2.heap.size < w4.heap.size := World.block_lt_of_cell? _ _ c20
  have l1 : w1.heap.size < w4.heap.size := World.block_lt_of_cell? _ _ c10
  clear k4
  have hy4 : w.heap.size ≤ w4.heap.size := hB4.size
  go_wp2_with fail
  go_returns
  exact ⟨rfl, by go_grown⟩
end Go.Proofs.Ytflgdckeinappaa
