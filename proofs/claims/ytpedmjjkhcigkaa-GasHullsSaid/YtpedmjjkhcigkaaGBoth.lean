/- Package gas: checkBoth; the reference's CheckCell and asked. -/
import Derived.Test.YtpedmjjkhcigkaaGRat
import Derived.Test.YtpedmjjkhcigkaaGCell
import Derived.Test.YtpedmjjkhcigkaaGRCell
namespace Go.Proofs.Ytpedmjjkhcigkaa
open Go.RowKit

theorem makeFunc_run : ∀ (fn : Fn) (first cap : Array Value) (w : World), (Instr.makeFunc fn first cap).run Try.prog w = .ok (.func fn first cap) w := fun _ _ _ _ => rfl
theorem cellN_yes {rm he ar w0 w1 lk ow : Int} (h : cellB rm he ar w0 w1 lk ow = true) : cellN rm he ar w0 w1 lk ow = 0 := by unfold cellN; rw [h]; rfl
theorem cellN_no {rm he ar w0 w1 lk ow : Int} (h : cellB rm he ar w0 w1 lk ow = false) : cellN rm he ar w0 w1 lk ow = 31 := by unfold cellN; rw [h]; rfl
theorem bothN_yes {rm he ar w0 w1 lk ow p0 p1 t0 t1 : Int} (h : cellB rm he ar w0 w1 lk ow = true) : bothN rm he ar w0 w1 lk ow p0 p1 t0 t1 = airN p0 p1 t0 t1 := by unfold bothN; rw [h]; rfl
theorem bothN_no {rm he ar w0 w1 lk ow p0 p1 t0 t1 : Int} (h : cellB rm he ar w0 w1 lk ow = false) : bothN rm he ar w0 w1 lk ow p0 p1 t0 t1 = 31 := by unfold bothN; rw [h]; rfl
theorem Four.box {w : World} {a b c d : Int} {o : Obj} {w1 : World} (hb : Below (w.alloc o).heap.size (w.alloc o) w1) (h : Four (w.alloc o) w.heap.size a b c d) : Four w1 w.heap.size a b c d := h.later hb

set_option maxHeartbeats 2000000 in
theorem checkBoth_any (rm he ar w0 w1' lk ow p0 p1 t0 t1 : Int) (w : World) :
    Calls Try.prog 65 #[cellV rm he ar w0 w1' lk ow, airV p0 p1 t0 t1] w fun e w' => e = .returned (.int .i64 (bothN rm he ar w0 w1' lk ow p0 p1 t0 t1)) ∧ Below w.heap.size w w' := by
  go_enter Try.func65, Try.ntmps65
  go_wp2_with fail
  refine (checkCell_any rm he ar w0 w1' lk ow _).mono ?_
  rintro e w1 ⟨rfl, hb1⟩
  have hB1 : Below w.heap.size w w1 := (after (w := w) (by go_grown) hb1).1
  have k1 : Four w1 (w.heap.size + 1) p0 p1 t0 t1 := Four.later ⟨by go_cell, by go_cell, by go_cell, by go_cell⟩ hb1
  obtain ⟨c0, c1, c2, c3⟩ := k1
  clear hb1
  by_cases h1 : cellB rm he ar w0 w1' lk ow = true
  · rw [cellN_yes h1]
    have e1 := bothN_yes (p0 := p0) (p1 := p1) (t0 := t0) (t1 := t1) h1
    have E1 := Lib.hid e1
    clear h1 e1
    go_wp2_with fail
    refine (checkAir_any p0 p1 t0 t1 _).mono ?_
    rintro e w2 ⟨rfl, hb2⟩
    have hB2 : Below w.heap.size w w2 := (after (w := w) (by go_grown) hb2).1
    obtain ⟨n, hn⟩ : ∃ n, airN p0 p1 t0 t1 = n := ⟨_, rfl⟩
    rw [hn]
    have HN := Lib.hid hn
    clear hn hb2 hB1 c0 c1 c2 c3
    go_wp2_with fail
    go_returns
    exact ⟨ret_int (by rw [E1.out, HN.out]), hB2⟩
  · have h1' : cellB rm he ar w0 w1' lk ow = false := by simpa using h1
    rw [cellN_no h1']
    have E1 := Lib.hid (bothN_no (p0 := p0) (p1 := p1) (t0 := t0) (t1 := t1) h1')
    clear h1 h1'
    go_wp2_with fail
    go_returns
    exact ⟨ret_int (by rw [E1.out]), hB1⟩

set_option maxHeartbeats 1000000 in
theorem rCheckCell_any (rm he ar w0 w1' lk ow : Int) (w : World) :
    Calls Try.prog 22 #[cellV rm he ar w0 w1' lk ow] w fun e w' => e = .returned (.int .i64 (cellN rm he ar w0 w1' lk ow)) ∧ Below w.heap.size w w' := by
  go_enter Try.func22, Try.ntmps22
  go_wp2_with fail
  refine (rCell_any rm he ar w0 w1' lk ow _).mono ?_
  rintro e w1 ⟨rfl, hb1⟩
  have hB : Below w.heap.size w w1 := (after (w := w) (by go_grown) hb1).1
  clear hb1
  by_cases h1 : cellB rm he ar w0 w1' lk ow = true
  · rw [h1]
    have E1 := Lib.hid (cellN_yes h1)
    clear h1
    go_wp2_with fail
    go_returns
    exact ⟨ret_int E1.out.symm, by go_grown⟩
  · have h1' : cellB rm he ar w0 w1' lk ow = false := by simpa using h1
    rw [h1']
    have E1 := Lib.hid (cellN_no h1')
    clear h1 h1'
    go_wp2_with fail
    go_returns
    exact ⟨ret_int E1.out.symm, by go_grown⟩
set_option maxHeartbeats 2000000 in
theorem rasked_any (rm he ar w0 w1' lk ow p0 p1 t0 t1 : Int) (w : World) :
    Calls Try.prog 68 #[cellV rm he ar w0 w1' lk ow, airV p0 p1 t0 t1] w fun e w' => e = .returned (.int .i64 (bothN rm he ar w0 w1' lk ow p0 p1 t0 t1)) ∧ Below w.heap.size w w' := by
  go_enter Try.func68, Try.ntmps68
  go_wp2_with fail
  refine (rCell_any rm he ar w0 w1' lk ow _).mono ?_
  rintro e w1 ⟨rfl, hb1⟩
  have hB1 : Below w.heap.size w w1 := (after (w := w) (by go_grown) hb1).1
  have k1 : Four w1 (w.heap.size + 1) p0 p1 t0 t1 := Four.later ⟨by go_cell, by go_cell, by go_cell, by go_cell⟩ hb1
  obtain ⟨c0, c1, c2, c3⟩ := k1
  clear hb1
  by_cases h1 : cellB rm he ar w0 w1' lk ow = true
  · rw [h1]
    have E1 := Lib.hid (bothN_yes (p0 := p0) (p1 := p1) (t0 := t0) (t1 := t1) h1)
    clear h1
    go_wp2_with fail
    refine (rCheckAir_any p0 p1 t0 t1 _).mono ?_
    rintro e w2 ⟨rfl, hb2⟩
    have hB2 : Below w.heap.size w w2 := (after (w := w) (by go_grown) hb2).1
    obtain ⟨n, hn⟩ : ∃ n, airN p0 p1 t0 t1 = n := ⟨_, rfl⟩
    rw [hn]
    have HN := Lib.hid hn
    clear hn hb2 hB1 c0 c1 c2 c3
    go_wp2_with fail
    go_returns
    exact ⟨ret_int (by rw [E1.out, HN.out]), hB2⟩
  · have h1' : cellB rm he ar w0 w1' lk ow = false := by simpa using h1
    rw [h1']
    have E1 := Lib.hid (bothN_no (p0 := p0) (p1 := p1) (t0 := t0) (t1 := t1) h1')
    clear h1 h1'
    go_wp2_with fail
    go_returns
    exact ⟨ret_int (by rw [E1.out]), hB1⟩
end Go.Proofs.Ytpedmjjkhcigkaa
