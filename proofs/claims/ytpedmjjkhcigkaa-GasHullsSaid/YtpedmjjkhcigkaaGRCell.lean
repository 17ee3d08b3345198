/- The reference of layer 3: Cell. (Written by wip/gencheck.py.) -/
import Derived.Test.YtpedmjjkhcigkaaGRef
namespace Go.Proofs.Ytpedmjjkhcigkaa
open Go.RowKit

set_option maxHeartbeats 2000000 in
theorem rCell_any (rm he ar w0 w1' lk ow : Int) (w : World) : Calls Try.prog 80 #[cellV rm he ar w0 w1' lk ow] w fun e w' => e = .returned (.bool (cellB rm he ar w0 w1' lk ow)) ∧ Below w.heap.size w w' := by
  go_enter Try.func80, Try.ntmps80
  go_wp2_with fail
  refine (rwithin_any rm 1 10000000 _).mono ?_
  rintro e w1 ⟨rfl, rfl⟩
  by_cases h1 : inB rm 1 10000000 = true
  rotate_left 1
  · have h1' : inB rm 1 10000000 = false := by simpa using h1
    rw [h1']
    have H1 := Lib.hid h1'
    clear h1 h1'
    go_wp2_with fail
    go_returns
    exact ⟨ret_bool (by unfold cellB; rw [H1.out]; simp), by go_grown⟩
  rw [h1]
  have H1 := Lib.hid h1
  clear h1
  go_wp2_with fail
  refine (rwithin_any he 0 10000000 _).mono ?_
  rintro e w2 ⟨rfl, rfl⟩
  by_cases h2 : inB he 0 10000000 = true
  rotate_left 1
  · have h2' : inB he 0 10000000 = false := by simpa using h2
    rw [h2']
    have H2 := Lib.hid h2'
    clear h2 h2'
    go_wp2_with fail
    go_returns
    exact ⟨ret_bool (by unfold cellB; rw [H1.out, H2.out]; simp), by go_grown⟩
  rw [h2]
  have H2 := Lib.hid h2
  clear h2
  go_wp2_with fail
  refine (rwithin_any ar 0 10000000 _).mono ?_
  rintro e w3 ⟨rfl, rfl⟩
  by_cases h3 : inB ar 0 10000000 = true
  rotate_left 1
  · have h3' : inB ar 0 10000000 = false := by simpa using h3
    rw [h3']
    have H3 := Lib.hid h3'
    clear h3 h3'
    go_wp2_with fail
    go_returns
    exact ⟨ret_bool (by unfold cellB; rw [H1.out, H2.out, H3.out]; simp), by go_grown⟩
  rw [h3]
  have H3 := Lib.hid h3
  clear h3
  go_wp2_with fail
  refine (rwarm_any w0 w1' _).mono ?_
  rintro e w4 ⟨rfl, hb4⟩
  have hB : Below w.heap.size w w4 := (after (w := w) (by go_grown) hb4).1
  have K := Lib.hid (show Seven w4 w.heap.size rm he ar w0 w1' lk ow from Seven.later ⟨by go_cell, by go_cell, by go_cell, by go_cell, by go_cell, by go_cell, by go_cell⟩ hb4)
  clear hb4
  have c0 := K.out.c0
  have c1 := K.out.c1
  have c2 := K.out.c2
  have c3 := K.out.c3
  have c4 := K.out.c4
  have c5 := K.out.c5
  have c6 := K.out.c6
  have hz : w.heap.size < w4.heap.size := World.block_lt_of_cell? _ _ c0
  by_cases h4 : spB w0 w1' (-300) 300 = true
  rotate_left 1
  · have h4' : spB w0 w1' (-300) 300 = false := by simpa using h4
    rw [h4']
    have H4 := Lib.hid h4'
    clear h4 h4'
    go_wp2_with fail
    go_returns
    exact ⟨ret_bool (by unfold cellB; rw [H1.out, H2.out, H3.out, H4.out]; simp), by go_grown⟩
  rw [h4]
  have H4 := Lib.hid h4
  clear h4
  go_wp2_with fail
  refine (rwithin_any lk 0 100000 _).mono ?_
  rintro e w5 ⟨rfl, rfl⟩
  by_cases h5 : inB lk 0 100000 = true
  rotate_left 1
  · have h5' : inB lk 0 100000 = false := by simpa using h5
    rw [h5']
    have H5 := Lib.hid h5'
    clear h5 h5'
    go_wp2_with fail
    go_returns
    exact ⟨ret_bool (by unfold cellB; rw [H1.out, H2.out, H3.out, H4.out, H5.out]; simp), by go_grown⟩
  rw [h5]
  have H5 := Lib.hid h5
  clear h5
  go_wp2_with fail
  refine (rwithin_any ow 0 999999 _).mono ?_
  rintro e w6 ⟨rfl, rfl⟩
  by_cases h6 : inB ow 0 999999 = true
  rotate_left 1
  · have h6' : inB ow 0 999999 = false := by simpa using h6
    rw [h6']
    have H6 := Lib.hid h6'
    clear h6 h6'
    go_wp2_with fail
    go_returns
    exact ⟨ret_bool (by unfold cellB; rw [H1.out, H2.out, H3.out, H4.out, H5.out, H6.out]; simp), by go_grown⟩
  rw [h6]
  have H6 := Lib.hid h6
  clear h6
  go_wp2_with fail
  go_returns
  exact ⟨ret_bool (by unfold cellB; rw [H1.out, H2.out, H3.out, H4.out, H5.out, H6.out]; rfl), by go_grown⟩
end Go.Proofs.Ytpedmjjkhcigkaa
