/- Package trim: most, ends; heavinessOf, momentOf. -/
import Derived.Test.YtldnpnplgfkebaaTWorst
namespace Go.Proofs.Ytldnpnplgfkebaa
open Go.RowKit

set_option maxHeartbeats 2000000 in
theorem most1_any (B : Nat) (a b : Int) (l : Ld) (w : World) (hB : Two2 w B a b) (hs : ScB a b) (hl : LdB l) :
    Calls Try.prog 112 #[ldV l, .pointer (some ⟨B, 0, none⟩)] w fun e w' => e = .returned (.int .i64 (mostE a b l)) ∧ Below w.heap.size w w' := by
  have HB0 := Lib.hid hB
  have HS := Lib.hid hs
  have HL := Lib.hid hl
  have HW := Lib.hid (worst_bound (a := a) (b := b) hl)
  unfold mostE
  obtain ⟨P, hP⟩ : ∃ P, worstP a b l = P := ⟨_, rfl⟩
  have HP := Lib.hid hP
  rw [hP] at HW
  rw [hP]
  clear hB hs hl hP
  go_enter Try.func112, Try.ntmps112
  go_wp2_with fail
  obtain ⟨W, hW⟩ : ∃ W, w.alloc (.cells #[.int .i64 l.a0, .int .i64 l.a1, .int .i64 l.w0, .int .i64 l.w1] 91) = W := ⟨_, rfl⟩
  have c0 : W.cell? ⟨w.heap.size, 0, none⟩ = some (.int .i64 l.a0) := by subst hW; go_cell
  have c1 : W.cell? ⟨w.heap.size, 1, none⟩ = some (.int .i64 l.a1) := by subst hW; go_cell
  have c2 : W.cell? ⟨w.heap.size, 2, none⟩ = some (.int .i64 l.w0) := by subst hW; go_cell
  have c3 : W.cell? ⟨w.heap.size, 3, none⟩ = some (.int .i64 l.w1) := by subst hW; go_cell
  have hBw : Below w.heap.size w W := by subst hW; go_grown
  obtain ⟨s0, s1⟩ := HB0.out.later hBw
  rw [hW]
  clear hW
  have hB : Below W.heap.size W W := Below.refl _ _
  go_region_held3 (fun w' => w'.cell? ⟨w.heap.size, 0, none⟩ = some (.int .i64 l.a0) ∧ w'.cell? ⟨w.heap.size, 1, none⟩ = some (.int .i64 l.a1) ∧ w'.cell? ⟨w.heap.size, 2, none⟩ = some (.int .i64 l.w0) ∧ w'.cell? ⟨w.heap.size, 3, none⟩ = some (.int .i64 l.w1) ∧ w'.cell? ⟨B, 0, none⟩ = some (.int .i64 a) ∧ w'.cell? ⟨B, 1, none⟩ = some (.int .i64 b))
    (first | (go_split_ands; (repeat' apply And.intro) <;> first | assumption | exact cell_later hb (by assumption)) | go_keep)
    (first
      | (go_at_call 69; refine (value_any a b P _ HS.out HW.out).mono ?_; rintro e wx ⟨rfl, hb⟩; have hB : Below W.heap.size W wx := (by first | exact chain hB hb | exact chainD hB hb))
      | (go_at_call 67; refine (worst_any a b l _ HS.out HL.out).mono ?_; rintro e wx ⟨rfl, hb⟩; rw [HP.out]; have hB : Below W.heap.size W wx := (by first | exact chain hB hb | exact chainD hB hb)))
  go_wp2_with fail
  have hBx := hBw.trans (hB.mono hBw.size)
  go_returns
  exact ⟨rfl, by go_grown⟩

theorem most_bound {a b : Int} {l : Ld} (hs : ScB a b) (hl : LdB l) : -42952746706567169 ≤ mostE a b l ∧ mostE a b l ≤ 42952746706567169 := by
  have := (val_bound hs (worst_bound (a := a) (b := b) hl)).2
  unfold mostE
  omega
theorem most_take {a b : Int} {ls : List Ld} {k : Nat} (hs : ScB a b) (hl : ∀ l, l ∈ ls → LdB l) (h50 : ls.length ≤ 50) :
    -2147637335328358450 ≤ sumE (mostE a b) (ls.take k) ∧ sumE (mostE a b) (ls.take k) ≤ 2147637335328358450 := by
  have := sum_bound (f := mostE a b) (m := 42952746706567169) (ls.take k) (fun x hx => most_bound hs (hl x (List.mem_of_mem_take hx)))
  have h1 : (ls.take k).length ≤ 50 := by rw [List.length_take]; omega
  omega
theorem sum_full {α : Type} {f : α → Int} {l : List α} {k : Nat} (h : ¬ k < l.length) : sumE f (l.take k) = sumE f l := by rw [List.take_of_length_le (by omega)]
def TotHead {α : Type} (f : α → Int) (ls : List α) (w wr : World) (u v : Value) : Prop := ∃ k : Nat, k ≤ ls.length ∧ u = .int .i64 (sumE f (ls.take k)) ∧ v = .int .i64 k ∧ Below w.heap.size w wr
set_option maxHeartbeats 2000000 in
theorem totalLoads_any (B : Nat) (a b : Int) (v : Value) (ls : List Ld) (w : World) (hv : SlLd w v ls) (h50 : ls.length ≤ 50) (hB : Two2 w B a b) (hs : ScB a b) (hl : ∀ l, l ∈ ls → LdB l) :
    Calls Try.prog 111 #[v, .func (.func 112) #[] #[.pointer (some ⟨B, 0, none⟩)]] w fun e w' => e = .returned (.int .i64 (sumE (mostE a b) ls)) ∧ Below w.heap.size w w' := by
  obtain ⟨ad, cap, rfl, hlen, hcap⟩ := hv.form
  have HV := Lib.hid hv
  have HB := Lib.hid hB
  have HS := Lib.hid hs
  have HL := Lib.hid hl
  clear hv hB hs hl
  go_enter Try.func111, Try.ntmps111
  go_wp2_with fail
  go_loopw [5, 10] (fun v5 v10 wr => TotHead (mostE a b) ls w wr v5 v10) (fun _ v10 _ => ls.length - (intOf v10).toNat)
  case atStart => exact ⟨0, by omega, rfl, rfl, Below.refl _ _⟩
  case round =>
    obtain ⟨k, hk, rfl, rfl, hbr⟩ := hrel
    by_cases hlt : k < ls.length
    · obtain ⟨bk, off, c, rfl, hb, hc, hat⟩ := HV.out.at hlt
      obtain ⟨c0, c1, c2, c3⟩ := LdAt.later hat (show Below w.heap.size w wr from hbr)
      have hlt' : (k : Int) < (ls.length : Int) := by omega
      have hk0 : (0 : Int) ≤ (k : Int) := by omega
      have hbd := most_take (k := k) HS.out HL.out h50
      have hbm := most_bound HS.out (HL.out c (List.mem_of_getElem? hc))
      have HC := Lib.hid (sum_take (f := mostE a b) hc)
      have HLc := Lib.hid (HL.out c (List.mem_of_getElem? hc))
      obtain ⟨X, hX⟩ : ∃ X, sumE (mostE a b) (ls.take k) = X := ⟨_, rfl⟩
      rw [hX] at hbd HC
      rw [hX]
      obtain ⟨Y, hY⟩ : ∃ Y, mostE a b c = Y := ⟨_, rfl⟩
      rw [hY] at hbm HC
      have HY := Lib.hid hY
      obtain ⟨x0, x1⟩ := hbd
      obtain ⟨y0, y1⟩ := hbm
      clear hc hat hX hY
      go_wp2_with fail
      have hsz := hbr.size
      refine (most1_any B a b c _ (HB.out.later (by go_grown)) HS.out HLc.out).mono ?_
      rintro e w1 ⟨rfl, hb1⟩
      rw [HY.out]
      have hB1 : Below w.heap.size w w1 := hbr.trans ((two (W := wr) (by go_grown) hb1).mono hbr.size)
      clear hb1 c0 c1 c2 c3
      go_wp2_with fail
      go_roundw
      case rel => exact ⟨k + 1, by omega, by rw [HC.out], by go_num, hB1⟩
      case measure => simp [intOf]; omega
    · have HX := Lib.hid (sum_full (f := mostE a b) hlt)
      obtain ⟨X, hX⟩ : ∃ X, sumE (mostE a b) (ls.take k) = X := ⟨_, rfl⟩
      rw [hX] at HX
      rw [hX]
      clear hX
      go_wp2_with fail
      go_returns
      exact ⟨ret_int HX.out, hbr⟩
/-- The greatest value of all choices. -/
abbrev mostL (a b : Int) (ls : List Ld) : Int := sumE (mostE a b) ls
set_option maxHeartbeats 1000000 in
theorem most_any (a b : Int) (v : Value) (ls : List Ld) (w : World) (hv : SlLd w v ls) (h50 : ls.length ≤ 50) (hs : ScB a b) (hl : ∀ l, l ∈ ls → LdB l) :
    Calls Try.prog 72 #[sp a b, v] w fun e w' => e = .returned (.int .i64 (mostL a b ls)) ∧ Below w.heap.size w w' := by
  have HV := Lib.hid hv
  have HS := Lib.hid hs
  have HL := Lib.hid hl
  obtain ⟨X, hX⟩ : ∃ X, mostL a b ls = X := ⟨_, rfl⟩
  have HX := Lib.hid hX
  rw [hX]
  clear hv hs hl hX
  have hmf := makeFunc_run
  go_enter Try.func72, Try.ntmps72
  go_wp2_with fail
  refine (totalLoads_any w.heap.size a b v ls _ (ldLater HV.out (by go_grown)) h50 ⟨by go_cell, by go_cell⟩ HS.out HL.out).mono ?_
  rintro e w1 ⟨rfl, hb1⟩
  rw [show sumE (mostE a b) ls = X from HX.out]
  have hB1 : Below w.heap.size w w1 := (after (w := w) (by go_grown) hb1).1
  clear hb1
  go_wp2_with fail
  go_returns
  exact ⟨rfl, hB1⟩
end Go.Proofs.Ytldnpnplgfkebaa
