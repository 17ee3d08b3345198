/- SamePuts, kept, SameInts, of two lists with the same elements. -/
import Derived.Test.YtldnpnplgfkebaaTBox
import Derived.Laws.StructEq
namespace Go.Proofs.Ytldnpnplgfkebaa
open Go.RowKit

def SgHead (n : Nat) (w wr : World) (v5 : Value) : Prop := ∃ k : Nat, k ≤ n ∧ v5 = .int .i64 k ∧ Below w.heap.size w wr
set_option linter.unusedSimpArgs false in
set_option maxHeartbeats 4000000 in
set_option maxRecDepth 1000000 in
theorem samePuts_eq (v1 v2 : Value) (ps : List Pu) (w : World) (h1 : SlPu w v1 ps) (h2 : SlPu w v2 ps) :
    Calls Try.prog 26 #[v1, v2] w fun e w' => e = .returned (.bool true) ∧ Below w.heap.size w w' := by
  obtain ⟨a1, cap1, rfl, hl1, _⟩ := h1.form
  obtain ⟨a2, cap2, rfl, hl2, _⟩ := h2.form
  have C1 := Lib.hid h1
  have C2 := Lib.hid h2
  clear h1 h2
  go_enter Try.func26, Try.ntmps26
  go_wp2_with fail
  go_loopw [5] (fun v5 wr => SgHead ps.length w wr v5) (fun v5 _ => ps.length - (intOf v5).toNat)
  case atStart => exact ⟨0, by omega, rfl, Below.refl _ _⟩
  case round =>
    obtain ⟨k, hk, rfl, hbr⟩ := hrel
    by_cases hlt : k < ps.length
    · obtain ⟨g1, o1, c, rfl, _, hc, e⟩ := C1.out.at hlt
      obtain ⟨g2, o2, c', rfl, _, hc', f⟩ := C2.out.at hlt
      rw [hc] at hc'
      cases hc'
      obtain ⟨e0, e1⟩ := PuAt.later e hbr
      obtain ⟨f0, f1⟩ := PuAt.later f hbr
      have hk0 : (0 : Int) ≤ (k : Int) := by omega
      have hk1 : (k : Int) < (ps.length : Int) := by omega
      have hm : Try.prog.eqGuardType Try.prog.depth 89 = false := by kernel_rfl
      have hp1 : Try.prog.stoodInHeld 89 = false := by kernel_rfl
      have b0 : (c.p == c.p) = true := by simp
      have b1 : (c.w == c.w) = true := by simp
      clear hc e f
      go_wp2_with fail
      go_quiet (fail)
      have hbr2 := below_drewN hbr nq
      go_wp2_with fail
      go_roundw
      case rel => exact ⟨k + 1, by omega, by go_num, hbr2⟩
      case measure => simp [intOf]; omega
    · go_wp2_with fail
      go_returns
      exact ⟨rfl, hbr⟩
set_option linter.unusedSimpArgs false in
set_option maxHeartbeats 4000000 in
set_option maxRecDepth 1000000 in
theorem kept_eq (v1 v2 : Value) (ps : List Ld) (w : World) (h1 : SlLd w v1 ps) (h2 : SlLd w v2 ps) :
    Calls Try.prog 27 #[v1, v2] w fun e w' => e = .returned (.bool true) ∧ Below w.heap.size w w' := by
  obtain ⟨a1, cap1, rfl, hl1, _⟩ := h1.form
  obtain ⟨a2, cap2, rfl, hl2, _⟩ := h2.form
  have C1 := Lib.hid h1
  have C2 := Lib.hid h2
  clear h1 h2
  go_enter Try.func27, Try.ntmps27
  go_wp2_with fail
  go_loopw [8] (fun v5 wr => SgHead ps.length w wr v5) (fun v5 _ => ps.length - (intOf v5).toNat)
  case atStart => exact ⟨0, by omega, rfl, Below.refl _ _⟩
  case round =>
    obtain ⟨k, hk, rfl, hbr⟩ := hrel
    by_cases hlt : k < ps.length
    · obtain ⟨g1, o1, c, rfl, _, hc, e⟩ := C1.out.at hlt
      obtain ⟨g2, o2, c', rfl, _, hc', f⟩ := C2.out.at hlt
      rw [hc] at hc'
      cases hc'
      obtain ⟨e0, e1, e2, e3⟩ := LdAt.later e hbr
      obtain ⟨f0, f1, f2, f3⟩ := LdAt.later f hbr
      have hk0 : (0 : Int) ≤ (k : Int) := by omega
      have hk1 : (k : Int) < (ps.length : Int) := by omega
      have hm : Try.prog.eqGuardType Try.prog.depth 91 = false := by kernel_rfl
      have hp1 : Try.prog.stoodInHeld 91 = false := by kernel_rfl
      have hp2 : Try.prog.stoodInHeld 37 = false := by kernel_rfl
      have b0 : (c.a0 == c.a0) = true := by simp
      have b1 : (c.a1 == c.a1) = true := by simp
      have b2 : (c.w0 == c.w0) = true := by simp
      have b3 : (c.w1 == c.w1) = true := by simp
      clear hc e f
      go_wp2_with fail
      go_quiet (fail)
      have hbr2 := below_drewN hbr nq
      go_wp2_with fail
      go_roundw
      case rel => exact ⟨k + 1, by omega, by go_num, hbr2⟩
      case measure => simp [intOf]; omega
    · go_wp2_with fail
      go_returns
      exact ⟨ret_bool (by simp), hbr⟩
end Go.Proofs.Ytldnpnplgfkebaa
