/- Package gas: checkHullIn; the reference's CheckHull and tight. (Written by wip/gencheck.py out of GBoth.) -/
import Derived.Test.YtpedmjjkhcigkaaGHullM
import Derived.Test.YtpedmjjkhcigkaaGRHull
namespace Go.Proofs.Ytpedmjjkhcigkaa
open Go.RowKit

/-- The error of a hull and air. -/
def tightN (rm gs w0 w1 bl bg ls ms p0 p1 t0 t1 : Int) : Int := if hullB rm gs w0 w1 bl bg ls ms then airN p0 p1 t0 t1 else 33
theorem tight_ok {rm gs w0 w1 bl bg ls ms p0 p1 t0 t1 : Int} (h : tightN rm gs w0 w1 bl bg ls ms p0 p1 t0 t1 = 0) : hullB rm gs w0 w1 bl bg ls ms = true ∧ airB p0 p1 t0 t1 = true := by
  unfold tightN airN at h
  split at h
  · split at h
    · exact ⟨by assumption, by assumption⟩
    · omega
  · omega
theorem hullN_yes {rm gs w0 w1 bl bg ls ms : Int} (h : hullB rm gs w0 w1 bl bg ls ms = true) : hullN rm gs w0 w1 bl bg ls ms = 0 := by unfold hullN; rw [h]; rfl
theorem hullN_no {rm gs w0 w1 bl bg ls ms : Int} (h : hullB rm gs w0 w1 bl bg ls ms = false) : hullN rm gs w0 w1 bl bg ls ms = 33 := by unfold hullN; rw [h]; rfl
theorem tightN_yes {rm gs w0 w1 bl bg ls ms p0 p1 t0 t1 : Int} (h : hullB rm gs w0 w1 bl bg ls ms = true) : tightN rm gs w0 w1 bl bg ls ms p0 p1 t0 t1 = airN p0 p1 t0 t1 := by unfold tightN; rw [h]; rfl
theorem tightN_no {rm gs w0 w1 bl bg ls ms p0 p1 t0 t1 : Int} (h : hullB rm gs w0 w1 bl bg ls ms = false) : tightN rm gs w0 w1 bl bg ls ms p0 p1 t0 t1 = 33 := by unfold tightN; rw [h]; rfl

set_option maxHeartbeats 2000000 in
theorem checkHullIn_any (rm gs w0 w1' bl bg ls ms p0 p1 t0 t1 : Int) (w : World) :
    Calls Try.prog 88 #[hullV rm gs w0 w1' bl bg ls ms, airV p0 p1 t0 t1] w fun e w' => e = .returned (.int .i64 (tightN rm gs w0 w1' bl bg ls ms p0 p1 t0 t1)) ∧ Below w.heap.size w w' := by
  go_enter Try.func88, Try.ntmps88
  go_wp2_with fail
  refine (checkHull_any rm gs w0 w1' bl bg ls ms _).mono ?_
  rintro e w1 ⟨rfl, hb1⟩
  have hB1 : Below w.heap.size w w1 := (after (w := w) (by go_grown) hb1).1
  have k1 : Four w1 (w.heap.size + 1) p0 p1 t0 t1 := Four.later ⟨by go_cell, by go_cell, by go_cell, by go_cell⟩ hb1
  obtain ⟨c0, c1, c2, c3⟩ := k1
  clear hb1
  by_cases h1 : hullB rm gs w0 w1' bl bg ls ms = true
  · rw [hullN_yes h1]
    have e1 := tightN_yes (p0 := p0) (p1 := p1) (t0 := t0) (t1 := t1) h1
    have E1 := Lib.hid e1
    clear h1 e1
    go_wp2_with fail
    refine (checkAir_any p0 p1 t0 t1 _).mono ?_
    rintro e w2 ⟨rfl, hb2⟩
    have hB2 : Below w.heap.size w w2 := (after (w := w) (by go_grown) hb2).1
    obtain ⟨n, hn⟩ : ∃ n, airN p0 p1 t0 t1 = n := ⟨_, rfl⟩
    rw [hn]
    have HN := Lib.hid hn
    clear hn hb2 hB1 c0 c1 c2 c3
    go_wp2_with fail
    go_returns
    exact ⟨ret_int (by rw [E1.out, HN.out]), hB2⟩
  · have h1' : hullB rm gs w0 w1' bl bg ls ms = false := by simpa using h1
    rw [hullN_no h1']
    have E1 := Lib.hid (tightN_no (p0 := p0) (p1 := p1) (t0 := t0) (t1 := t1) h1')
    clear h1 h1'
    go_wp2_with fail
    go_returns
    exact ⟨ret_int (by rw [E1.out]), hB1⟩

set_option maxHeartbeats 1000000 in
theorem rCheckHull_any (rm gs w0 w1' bl bg ls ms : Int) (w : World) :
    Calls Try.prog 38 #[hullV rm gs w0 w1' bl bg ls ms] w fun e w' => e = .returned (.int .i64 (hullN rm gs w0 w1' bl bg ls ms)) ∧ Below w.heap.size w w' := by
  go_enter Try.func38, Try.ntmps38
  go_wp2_with fail
  refine (rHull_any rm gs w0 w1' bl bg ls ms _).mono ?_
  rintro e w1 ⟨rfl, hb1⟩
  have hB : Below w.heap.size w w1 := (after (w := w) (by go_grown) hb1).1
  clear hb1
  by_cases h1 : hullB rm gs w0 w1' bl bg ls ms = true
  · rw [h1]
    have E1 := Lib.hid (hullN_yes h1)
    clear h1
    go_wp2_with fail
    go_returns
    exact ⟨ret_int E1.out.symm, by go_grown⟩
  · have h1' : hullB rm gs w0 w1' bl bg ls ms = false := by simpa using h1
    rw [h1']
    have E1 := Lib.hid (hullN_no h1')
    clear h1 h1'
    go_wp2_with fail
    go_returns
    exact ⟨ret_int E1.out.symm, by go_grown⟩
set_option maxHeartbeats 2000000 in
theorem rtight_any (rm gs w0 w1' bl bg ls ms p0 p1 t0 t1 : Int) (w : World) :
    Calls Try.prog 90 #[hullV rm gs w0 w1' bl bg ls ms, airV p0 p1 t0 t1] w fun e w' => e = .returned (.int .i64 (tightN rm gs w0 w1' bl bg ls ms p0 p1 t0 t1)) ∧ Below w.heap.size w w' := by
  go_enter Try.func90, Try.ntmps90
  go_wp2_with fail
  refine (rHull_any rm gs w0 w1' bl bg ls ms _).mono ?_
  rintro e w1 ⟨rfl, hb1⟩
  have hB1 : Below w.heap.size w w1 := (after (w := w) (by go_grown) hb1).1
  have k1 : Four w1 (w.heap.size + 1) p0 p1 t0 t1 := Four.later ⟨by go_cell, by go_cell, by go_cell, by go_cell⟩ hb1
  obtain ⟨c0, c1, c2, c3⟩ := k1
  clear hb1
  by_cases h1 : hullB rm gs w0 w1' bl bg ls ms = true
  · rw [h1]
    have E1 := Lib.hid (tightN_yes (p0 := p0) (p1 := p1) (t0 := t0) (t1 := t1) h1)
    clear h1
    go_wp2_with fail
    refine (rCheckAir_any p0 p1 t0 t1 _).mono ?_
    rintro e w2 ⟨rfl, hb2⟩
    have hB2 : Below w.heap.size w w2 := (after (w := w) (by go_grown) hb2).1
    obtain ⟨n, hn⟩ : ∃ n, airN p0 p1 t0 t1 = n := ⟨_, rfl⟩
    rw [hn]
    have HN := Lib.hid hn
    clear hn hb2 hB1 c0 c1 c2 c3
    go_wp2_with fail
    go_returns
    exact ⟨ret_int (by rw [E1.out, HN.out]), hB2⟩
  · have h1' : hullB rm gs w0 w1' bl bg ls ms = false := by simpa using h1
    rw [h1']
    have E1 := Lib.hid (tightN_no (p0 := p0) (p1 := p1) (t0 := t0) (t1 := t1) h1')
    clear h1 h1'
    go_wp2_with fail
    go_returns
    exact ⟨ret_int (by rw [E1.out]), hB1⟩
end Go.Proofs.Ytpedmjjkhcigkaa
