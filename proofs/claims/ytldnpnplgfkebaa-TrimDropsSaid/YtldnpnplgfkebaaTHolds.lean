/- Package trim: what loads leave of a limit (slack.holds). -/
import Derived.Test.YtldnpnplgfkebaaTBag
namespace Go.Proofs.Ytldnpnplgfkebaa
open Go.RowKit

abbrev skV (a b m : Int) : Value := .agg #[.int .i64 a, .int .i64 b, .int .i64 m]
set_option maxRecDepth 100000 in
set_option maxHeartbeats 4000000 in
theorem holds_any (a b m : Int) (q : Value) (ps : List Pu) (w : World) (hq : SlPu w q ps) (h50 : ps.length ≤ 50) (hs : ScB a b) (hp : ∀ p, p ∈ ps → PuB p) :
    Calls Try.prog 86 #[skV a b m, q] w fun e w' => e = .returned (.bool (decide (sumE (valE a b) ps ≤ m))) ∧ Below w.heap.size w w' := by
  have HQ := Lib.hid hq
  have HS := Lib.hid hs
  have HP := Lib.hid hp
  obtain ⟨M, hM⟩ : ∃ M, sumE (valE a b) ps = M := ⟨_, rfl⟩
  have HM := Lib.hid hM
  have hmf := makeFunc_run
  rw [hM]
  clear hq hs hp hM
  by_cases hle : M ≤ m
  all_goals
    go_enter Try.func86, Try.ntmps86
    go_wp2_with fail
    obtain ⟨W, hW⟩ : ∃ W, w.alloc (.cells #[.int .i64 a, .int .i64 b, .int .i64 m] 140) = W := ⟨_, rfl⟩
    have hbW : Below w.heap.size w W := by subst hW; go_grown
    obtain ⟨x0, x1, x2⟩ := show Three W w.heap.size a b m by subst hW; exact ⟨by go_cell, by go_cell, by go_cell⟩
    have HQW := Lib.hid (puLater HQ.out hbW)
    rw [hW]
    clear hW
    have hA : Below W.heap.size W W := Below.refl _ _
    go_region_held3 (fun w' => w'.cell? ⟨w.heap.size, 0, none⟩ = some (.int .i64 a) ∧ w'.cell? ⟨w.heap.size, 1, none⟩ = some (.int .i64 b) ∧ w'.cell? ⟨w.heap.size, 2, none⟩ = some (.int .i64 m))
      (first | (go_split_ands; (repeat' apply And.intro) <;> first | assumption | exact cell_later hb (by assumption)) | go_keep)
      (first
        | (go_at_call 68; refine (totalPuts_any a b q ps _ (puLater HQW.out (by first | exact hA | exact hA.drew)) h50 HS.out HP.out).mono ?_; rintro e wx ⟨rfl, hb⟩; rw [HM.out]; have hA : Below W.heap.size W wx := (by first | exact chain hA hb | exact chainD hA hb)))
    go_wp2_with fail
    have hBf := hbW.trans (hA.mono hbW.size)
    go_returns
    exact ⟨ret_bool (by simp [hle]), by go_grown⟩
end Go.Proofs.Ytldnpnplgfkebaa
