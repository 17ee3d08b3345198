/- Package gas: inwards, isNone, and the closure that blow makes. -/
import Derived.Test.YtpedmjjkhcigkaaGTight
import Derived.Test.YtpedmjjkhcigkaaGBlow1
import Derived.Test.YtpedmjjkhcigkaaGEBlow
namespace Go.Proofs.Ytpedmjjkhcigkaa
open Go.RowKit

set_option maxHeartbeats 2000000 in
theorem inwards_any (a b c d : Int) (w : World) (hb : 1 ≤ b) (hb1 : b ≤ 4611686018427387904) (ha : Fair a) (hd : 1 ≤ d) (hd1 : d ≤ 4611686018427387904) (hc : Fair c) :
    Calls Try.prog 134 #[sp a b, sp c d] w fun e w' => e = .returned (sp (cl a b) (fl c d)) ∧ Below w.heap.size w w' := by
  obtain ⟨x, hx⟩ : ∃ x, cl a b = x := ⟨_, rfl⟩
  obtain ⟨y, hy⟩ : ∃ y, fl c d = y := ⟨_, rfl⟩
  rw [hx, hy]
  have HX := Lib.hid hx
  have HY := Lib.hid hy
  have HA := Lib.hid ha
  have HC := Lib.hid hc
  clear hx hy ha hc
  go_enter Try.func134, Try.ntmps134
  go_wp2_with fail
  obtain ⟨W, hW⟩ : ∃ W, ((w.alloc (.cells #[.int .i64 a, .int .i64 b] 127)).alloc (.cells #[.int .i64 c, .int .i64 d] 127)).alloc (.cells #[.int .i64 0, .int .i64 0] 23) = W := ⟨_, rfl⟩
  have a0 : W.cell? ⟨w.heap.size, 0, none⟩ = some (.int .i64 a) := by subst hW; go_cell
  have a1 : W.cell? ⟨w.heap.size, 1, none⟩ = some (.int .i64 b) := by subst hW; go_cell
  have b0 : W.cell? ⟨w.heap.size + 1, 0, none⟩ = some (.int .i64 c) := by subst hW; go_cell
  have b1 : W.cell? ⟨w.heap.size + 1, 1, none⟩ = some (.int .i64 d) := by subst hW; go_cell
  have hN : NewBox W (w.heap.size + 1 + 1) := by subst hW; exact ⟨by go_cell, by go_cell, by go_cell, by go_cell⟩
  have hBw : Below w.heap.size w W := by subst hW; go_grown
  have HN := Lib.hid hN
  rw [hW]
  clear hW hN
  have hB : Below W.heap.size W W := Below.refl _ _
  go_region_held3 (fun w' => w'.cell? ⟨w.heap.size, 0, none⟩ = some (.int .i64 a) ∧ w'.cell? ⟨w.heap.size, 1, none⟩ = some (.int .i64 b) ∧ w'.cell? ⟨w.heap.size + 1, 0, none⟩ = some (.int .i64 c) ∧ w'.cell? ⟨w.heap.size + 1, 1, none⟩ = some (.int .i64 d))
    (first | (go_split_ands; (repeat' apply And.intro) <;> first | assumption | exact cell_later hb (by assumption) | ((repeat rw [cell_far _ _ (by omega)]); assumption)) | go_keep)
    (first
      | (go_at_call 73; refine (up_any _ _ _ hb hb1 HA.out).mono ?_; rintro e wx ⟨rfl, hb⟩; rw [HX.out]; have hB : Below W.heap.size W wx := (by first | exact chain hB hb | exact chainD hB hb); have c0 := (HN.out.later hB).c0; have c1 := (HN.out.later hB).c1; have f0 := (HN.out.later hB).f0; have f1 := (HN.out.later hB).f1)
      | (go_at_call 126; refine (down_any _ _ _ hd hd1 HC.out).mono ?_; rintro e wx ⟨rfl, hb⟩; rw [HY.out]; have hB : Below W.heap.size W wx := (by first | exact chain hB hb | exact chainD hB hb); have c0 := (HN.out.later hB).c0; have c1 := (HN.out.later hB).c1; have f0 := (HN.out.later hB).f0; have f1 := (HN.out.later hB).f1))
  go_wp2_with fail
  have hBx := hBw.trans (hB.mono hBw.size)
  exact bodyPost_ret (v := sp x y) (by simp [results, Try.results134, go_sem, *]) rfl ⟨rfl, by go_grown⟩

set_option maxHeartbeats 400000 in
theorem isNone_any (a b : Int) (w : World) : Calls Try.prog 94 #[sp a b] w fun e w' => e = .returned (.bool (decide (b < a))) ∧ Below w.heap.size w w' := by
  go_enter Try.func94, Try.ntmps94
  go_wp2_with fail
  go_returns
  exact ⟨rfl, by go_grown⟩
set_option maxHeartbeats 400000 in
theorem blow1f_any (Y : Nat) (ov : Int) (w : World) : Calls Try.prog 132 #[.int .i64 ov, .pointer (some ⟨Y, 0, none⟩)] w fun e w' => ∃ O : Nat, e = .returned (.func (.func 133) #[] #[.pointer (some ⟨O, 0, none⟩), .pointer (some ⟨Y, 0, none⟩)]) ∧ w'.cell? ⟨O, 0, none⟩ = some (.int .i64 ov) ∧ Below w.heap.size w w' := by
  have hmf := makeFunc_run
  go_enter Try.func132, Try.ntmps132
  go_wp2_with fail
  exact bodyPost_ret (v := .func (.func 133) #[] #[.pointer (some ⟨w.heap.size, 0, none⟩), .pointer (some ⟨Y, 0, none⟩)]) (by simp [results, Try.results132, go_sem, *]) rfl ⟨w.heap.size, rfl, by go_cell, by go_grown⟩
end Go.Proofs.Ytpedmjjkhcigkaa
