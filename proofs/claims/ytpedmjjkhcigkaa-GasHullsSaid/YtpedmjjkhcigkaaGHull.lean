/- Package gas: CheckHull. (Written by wip/gencheck.py.) -/
import Derived.Test.YtpedmjjkhcigkaaGCheck
namespace Go.Proofs.Ytpedmjjkhcigkaa
open Go.RowKit

def hullB (rm gs w0 w1 bl bg ls ms : Int) : Bool := inB rm 1 10000000 && inB gs 0 10000000 && spB bl bg 0 10000000 && spB w0 w1 (-300) 300 && spB ls ms 0 500
def hullN (rm gs w0 w1 bl bg ls ms : Int) : Int := if hullB rm gs w0 w1 bl bg ls ms then 0 else 33

set_option maxHeartbeats 2000000 in
theorem checkHull_any (rm gs w0 w1' bl bg ls ms : Int) (w : World) : Calls Try.prog 37 #[hullV rm gs w0 w1' bl bg ls ms] w fun e w' => e = .returned (.int .i64 (hullN rm gs w0 w1' bl bg ls ms)) ∧ Below w.heap.size w w' := by
  go_enter Try.func37, Try.ntmps37
  go_wp2_with fail
  refine (inOrder3 _ 1 rm 10000000 _ (by go_cell) (by go_cell) (by go_cell)).mono ?_
  rintro e w1 ⟨rfl, hb1⟩
  have hB1 : Below w.heap.size w w1 := (after (w := w) (by go_grown) hb1).1
  have k1 : Eight w1 w.heap.size rm gs w0 w1' bl bg ls ms := Eight.later ⟨by go_cell, by go_cell, by go_cell, by go_cell, by go_cell, by go_cell, by go_cell, by go_cell⟩ hb1
  have hz1 : w.heap.size < w1.heap.size := World.block_lt_of_cell? _ _ k1.c0
  have K1 := Lib.hid k1
  clear k1 hb1
  have c0 := K1.out.c0
  have c1 := K1.out.c1
  have c2 := K1.out.c2
  have c3 := K1.out.c3
  have c4 := K1.out.c4
  have c5 := K1.out.c5
  have c6 := K1.out.c6
  have c7 := K1.out.c7
  by_cases h1 : inB rm 1 10000000 = true
  rotate_left 1
  · have h1' : inB rm 1 10000000 = false := by simpa using h1
    rw [h1']
    have H1 := Lib.hid h1'
    clear h1 h1'
    go_wp2_with fail
    go_returns
    exact ⟨ret_int (by unfold hullN hullB; rw [H1.out]; simp), by go_grown⟩
  rw [h1]
  have H1 := Lib.hid h1
  clear h1
  go_wp2_with fail
  refine (isAmount_any gs _).mono ?_
  rintro e w2 ⟨rfl, hb2⟩
  have hbb2 : Below w1.heap.size w1 w2 := two (by go_grown) hb2
  have hB2 : Below w.heap.size w w2 := hB1.trans (hbb2.mono hB1.size)
  have k2 := K1.out.later hbb2
  clear hbb2
  have hz2 : w.heap.size < w2.heap.size := World.block_lt_of_cell? _ _ k2.c0
  have K2 := Lib.hid k2
  clear k2 hb2 hz1 hB1 c0 c1 c2 c3 c4 c5 c6 c7
  have c0 := K2.out.c0
  have c1 := K2.out.c1
  have c2 := K2.out.c2
  have c3 := K2.out.c3
  have c4 := K2.out.c4
  have c5 := K2.out.c5
  have c6 := K2.out.c6
  have c7 := K2.out.c7
  by_cases h2 : inB gs 0 10000000 = true
  rotate_left 1
  · have h2' : inB gs 0 10000000 = false := by simpa using h2
    rw [h2']
    have H2 := Lib.hid h2'
    clear h2 h2'
    go_wp2_with fail
    go_returns
    exact ⟨ret_int (by unfold hullN hullB; rw [H1.out, H2.out]; simp), by go_grown⟩
  rw [h2]
  have H2 := Lib.hid h2
  clear h2
  go_wp2_with fail
  refine (inOrder4 _ 0 bl bg 10000000 _ (by go_cell) (by go_cell) (by go_cell) (by go_cell)).mono ?_
  rintro e w3 ⟨rfl, hb3⟩
  have hbb3 : Below w2.heap.size w2 w3 := two (by go_grown) hb3
  have hB3 : Below w.heap.size w w3 := hB2.trans (hbb3.mono hB2.size)
  have k3 := K2.out.later hbb3
  clear hbb3
  have hz3 : w.heap.size < w3.heap.size := World.block_lt_of_cell? _ _ k3.c0
  have K3 := Lib.hid k3
  clear k3 hb3 hz2 hB2 c0 c1 c2 c3 c4 c5 c6 c7
  have c0 := K3.out.c0
  have c1 := K3.out.c1
  have c2 := K3.out.c2
  have c3 := K3.out.c3
  have c4 := K3.out.c4
  have c5 := K3.out.c5
  have c6 := K3.out.c6
  have c7 := K3.out.c7
  by_cases h3 : spB bl bg 0 10000000 = true
  rotate_left 1
  · have h3' : spB bl bg 0 10000000 = false := by simpa using h3
    rw [h3']
    have H3 := Lib.hid h3'
    clear h3 h3'
    go_wp2_with fail
    go_returns
    exact ⟨ret_int (by unfold hullN hullB; rw [H1.out, H2.out, H3.out]; simp), by go_grown⟩
  rw [h3]
  have H3 := Lib.hid h3
  clear h3
  go_wp2_with fail
  refine (isWarm_any w0 w1' _).mono ?_
  rintro e w4 ⟨rfl, hb4⟩
  have hbb4 : Below w3.heap.size w3 w4 := two (by go_grown) hb4
  have hB4 : Below w.heap.size w w4 := hB3.trans (hbb4.mono hB3.size)
  have k4 := K3.out.later hbb4
  clear hbb4
  have hz4 : w.heap.size < w4.heap.size := World.block_lt_of_cell? _ _ k4.c0
  have K4 := Lib.hid k4
  clear k4 hb4 hz3 hB3 c0 c1 c2 c3 c4 c5 c6 c7
  have c0 := K4.out.c0
  have c1 := K4.out.c1
  have c2 := K4.out.c2
  have c3 := K4.out.c3
  have c4 := K4.out.c4
  have c5 := K4.out.c5
  have c6 := K4.out.c6
  have c7 := K4.out.c7
  by_cases h4 : spB w0 w1' (-300) 300 = true
  rotate_left 1
  · have h4' : spB w0 w1' (-300) 300 = false := by simpa using h4
    rw [h4']
    have H4 := Lib.hid h4'
    clear h4 h4'
    go_wp2_with fail
    go_returns
    exact ⟨ret_int (by unfold hullN hullB; rw [H1.out, H2.out, H3.out, H4.out]; simp), by go_grown⟩
  rw [h4]
  have H4 := Lib.hid h4
  clear h4
  go_wp2_with fail
  refine (inOrder4 _ 0 ls ms 500 _ (by go_cell) (by go_cell) (by go_cell) (by go_cell)).mono ?_
  rintro e w5 ⟨rfl, hb5⟩
  have hbb5 : Below w4.heap.size w4 w5 := two (by go_grown) hb5
  have hB5 : Below w.heap.size w w5 := hB4.trans (hbb5.mono hB4.size)
  have k5 := K4.out.later hbb5
  clear hbb5
  have hz5 : w.heap.size < w5.heap.size := World.block_lt_of_cell? _ _ k5.c0
  have K5 := Lib.hid k5
  clear k5 hb5 hz4 hB4 c0 c1 c2 c3 c4 c5 c6 c7
  have c0 := K5.out.c0
  have c1 := K5.out.c1
  have c2 := K5.out.c2
  have c3 := K5.out.c3
  have c4 := K5.out.c4
  have c5 := K5.out.c5
  have c6 := K5.out.c6
  have c7 := K5.out.c7
  by_cases h5 : spB ls ms 0 500 = true
  rotate_left 1
  · have h5' : spB ls ms 0 500 = false := by simpa using h5
    rw [h5']
    have H5 := Lib.hid h5'
    clear h5 h5'
    go_wp2_with fail
    go_returns
    exact ⟨ret_int (by unfold hullN hullB; rw [H1.out, H2.out, H3.out, H4.out, H5.out]; simp), by go_grown⟩
  rw [h5]
  have H5 := Lib.hid h5
  clear h5
  go_wp2_with fail
  go_returns
  exact ⟨ret_int (by unfold hullN hullB; rw [H1.out, H2.out, H3.out, H4.out, H5.out]; rfl), by go_grown⟩
end Go.Proofs.Ytpedmjjkhcigkaa
