/- BoundSpans: the walk. -/
import Derived.Test.YtpkpfaaggngekaaSame
import Derived.Deep.RegionHeld3
namespace Go.Proofs.Ytpkpfaaggngekaa
open Go.RowKit

/-- What some cells hold. -/
def Cells (w : World) (L : List (Nat × Nat × Value)) : Prop := ∀ x, x ∈ L → w.cell? ⟨x.1, x.2.1, none⟩ = some x.2.2
theorem Cells.nil (w : World) : Cells w [] := fun x h => by simp at h
theorem Cells.cons {w : World} {L : List (Nat × Nat × Value)} {b o : Nat} {v : Value} (h : w.cell? ⟨b, o, none⟩ = some v) (k : Cells w L) : Cells w ((b, o, v) :: L) := fun x hx => by
  rcases List.mem_cons.1 hx with rfl | hx
  · exact h
  · exact k x hx
theorem Cells.later {W w1 : World} {L : List (Nat × Nat × Value)} (h : Cells W L) (hb : Below W.heap.size W w1) : Cells w1 L := fun x hx => cell_later hb (h x hx)
theorem below_box (w : World) (o : Obj) : Below w.heap.size w (w.alloc o) := (Below.refl _ _).alloc (Nat.le_refl _) _
theorem Cells.box {w : World} {L : List (Nat × Nat × Value)} {x y : Value} {t : TypeId} (h : Cells w L) : Cells (w.alloc (.cells #[x, y] t)) ((w.heap.size, 0, x) :: (w.heap.size, 1, y) :: L) :=
  Cells.cons (by go_cell) (Cells.cons (by go_cell) (h.later (below_box _ _)))
theorem Cells.first {w : World} {L : List (Nat × Nat × Value)} {b o : Nat} {v : Value} (h : Cells w ((b, o, v) :: L)) : w.cell? ⟨b, o, none⟩ = some v := h (b, o, v) (List.mem_cons_self ..)
theorem Cells.rest {w : World} {L : List (Nat × Nat × Value)} {x : Nat × Nat × Value} (h : Cells w (x :: L)) : Cells w L := fun y hy => h y (List.mem_cons_of_mem _ hy)

theorem shape_fit (l h : Int) : ∃ x y n : Int, fitE l h = .returned (.tuple #[sp x y, .int .i64 n]) := by
  unfold fitE; split
  · exact ⟨_, _, _, rfl⟩
  · exact ⟨_, _, _, rfl⟩
theorem shape_if2 {a b c d : Int} {E : Ending} (h : ∃ x y n : Int, E = .returned (.tuple #[sp x y, .int .i64 n])) : ∃ x y n : Int, if2 a b c d E = .returned (.tuple #[sp x y, .int .i64 n]) := by
  unfold if2; split
  · exact h
  · exact ⟨_, _, _, rfl⟩
theorem shape_meet (a b c d : Int) : ∃ x y n : Int, meetE a b c d = .returned (.tuple #[sp x y, .int .i64 n]) := by
  unfold meetE; split
  · exact ⟨_, _, _, rfl⟩
  · exact ⟨_, _, _, rfl⟩
theorem shape_if2b (a b c d : Int) (u : Bool) : ∃ (v : Bool) (n : Int), if2b a b c d u = .returned (.tuple #[.bool v, .int .i64 n]) := by
  unfold if2b; split
  · exact ⟨_, _, rfl⟩
  · exact ⟨_, _, rfl⟩

set_option maxHeartbeats 400000 in
theorem rcheck_any (lo hi : Int) (w : World) :
    Calls Try.prog 27 #[sp lo hi] w fun e w' => e = .returned (.int .i64 (checkN lo hi)) ∧ Below w.heap.size w w' := by
  go_enter Try.func27, Try.ntmps27
  go_wp2_with fail
  refine (rvalid_any _ _ _).mono ?_
  rintro e w1 ⟨rfl, hb1⟩
  obtain ⟨hB, hc, hf⟩ := after (w := w) (by go_grown) hb1
  by_cases hv : validB lo hi = true
  · rw [hv]
    go_wp2_with fail
    go_returns
    exact ⟨ret_int (by rw [checkN_yes hv]), hB⟩
  · have hv' : validB lo hi = false := by simpa using hv
    rw [hv']
    go_wp2_with fail
    go_returns
    exact ⟨ret_int (by rw [checkN_no hv']), hB⟩

set_option maxRecDepth 100000 in
set_option maxHeartbeats 4000000 in
theorem boundSpans_walk (a b c d : Int) (w : World) :
    Calls Try.prog 3 #[sp a b, sp c d] w fun e w' => e = .returned (.bool true) ∧ Below w.heap.size w w' := by
  obtain ⟨addx, addy, addn, hadd⟩ : ∃ x y n : Int, if2 a b c d (fitE (a + c) (b + d)) = .returned (.tuple #[sp x y, .int .i64 n]) := shape_if2 (shape_fit _ _)
  have Hadd := Lib.hid hadd
  clear hadd
  obtain ⟨subx, suby, subn, hsub⟩ : ∃ x y n : Int, if2 a b c d (fitE (a - d) (b - c)) = .returned (.tuple #[sp x y, .int .i64 n]) := shape_if2 (shape_fit _ _)
  have Hsub := Lib.hid hsub
  clear hsub
  obtain ⟨mulx, muly, muln, hmul⟩ : ∃ x y n : Int, mulE a b c d = .returned (.tuple #[sp x y, .int .i64 n]) := shape_if2 (shape_fit _ _)
  have Hmul := Lib.hid hmul
  clear hmul
  obtain ⟨meetx, meety, meetn, hmeet⟩ : ∃ x y n : Int, if2 a b c d (meetE a b c d) = .returned (.tuple #[sp x y, .int .i64 n]) := shape_if2 (shape_meet a b c d)
  have Hmeet := Lib.hid hmeet
  clear hmeet
  obtain ⟨joinx, joiny, joinn, hjoin⟩ : ∃ x y n : Int, if2 a b c d (.returned (.tuple #[sp (min a c) (max b d), .int .i64 0])) = .returned (.tuple #[sp x y, .int .i64 n]) := shape_if2 (⟨_, _, _, rfl⟩)
  have Hjoin := Lib.hid hjoin
  clear hjoin
  obtain ⟨holv, holn, hhol⟩ := shape_if2b a b c d (holdsB a b c d)
  have Hhol := Lib.hid hhol
  clear hhol
  go_enter Try.func3, Try.ntmps3
  go_wp2_with fail
  refine (add_any a b c d _).mono ?_
  rintro e w1 ⟨rfl, hb1⟩
  rw [Hadd.out]
  have hB1 : Below w.heap.size w w1 := (after (w := w) (by go_grown) hb1).1
  have k1 : Cells w1 [(w.heap.size + 1, 0, .int .i64 c), (w.heap.size + 1, 1, .int .i64 d), (w.heap.size, 0, .int .i64 a), (w.heap.size, 1, .int .i64 b)] := (Cells.cons (by go_cell) (Cells.cons (by go_cell) (Cells.cons (by go_cell) (Cells.cons (by go_cell) (Cells.nil _))))).later hb1
  have hz1 : w.heap.size + 1 < w1.heap.size := by have := hb1.size; simp at this; omega
  clear hb1
  have b0 := k1.first
  have b1 := k1.rest.first
  have a0 := k1.rest.rest.first
  have a1 := k1.rest.rest.rest.first
  have hy1 : w.heap.size < w1.heap.size := by omega
  have K1 := Lib.hid k1
  clear k1
  go_wp2_with fail
  refine (radd_any a b c d _).mono ?_
  rintro e w2 ⟨rfl, hb2⟩
  rw [Hadd.out]
  have hB2 : Below w.heap.size w w2 := (after (w := w) (by go_grown) hb2).1
  have k2 := K1.out.box.later hb2
  have hz2 : w.heap.size + 1 < w2.heap.size := by have := hb2.size; simp at this; omega
  clear hb2 hB1 hz1 K1 a0 a1 b0 b1
  have b0 := k2.rest.rest.first
  have b1 := k2.rest.rest.rest.first
  have a0 := k2.rest.rest.rest.rest.first
  have a1 := k2.rest.rest.rest.rest.rest.first
  have hy2 : w.heap.size < w2.heap.size := by omega
  clear hy1
  have K2 := Lib.hid k2
  clear k2
  go_wp2_with fail
  refine (sub_any a b c d _).mono ?_
  rintro e w3 ⟨rfl, hb3⟩
  rw [Hsub.out]
  have hB3 : Below w.heap.size w w3 := (after (w := w) (by go_grown) hb3).1
  have k3 := K2.out.box.later hb3
  have hz3 : w.heap.size + 1 < w3.heap.size := by have := hb3.size; simp at this; omega
  clear hb3 hB2 hz2 K2 a0 a1 b0 b1
  have b0 := k3.rest.rest.rest.rest.first
  have b1 := k3.rest.rest.rest.rest.rest.first
  have a0 := k3.rest.rest.rest.rest.rest.rest.first
  have a1 := k3.rest.rest.rest.rest.rest.rest.rest.first
  have hy3 : w.heap.size < w3.heap.size := by omega
  clear hy2
  have K3 := Lib.hid k3
  clear k3
  go_wp2_with fail
  refine (rsub_any a b c d _).mono ?_
  rintro e w4 ⟨rfl, hb4⟩
  rw [Hsub.out]
  have hB4 : Below w.heap.size w w4 := (after (w := w) (by go_grown) hb4).1
  have k4 := K3.out.box.later hb4
  have hz4 : w.heap.size + 1 < w4.heap.size := by have := hb4.size; simp at this; omega
  clear hb4 hB3 hz3 K3 a0 a1 b0 b1
  have b0 := k4.rest.rest.rest.rest.rest.rest.first
  have b1 := k4.rest.rest.rest.rest.rest.rest.rest.first
  have a0 := k4.rest.rest.rest.rest.rest.rest.rest.rest.first
  have a1 := k4.rest.rest.rest.rest.rest.rest.rest.rest.rest.first
  have hy4 : w.heap.size < w4.heap.size := by omega
  clear hy3
  have K4 := Lib.hid k4
  clear k4
  go_wp2_with fail
  refine (mul_is a b c d _).mono ?_
  rintro e w5 ⟨rfl, hb5⟩
  rw [Hmul.out]
  have hB5 : Below w.heap.size w w5 := (after (w := w) (by go_grown) hb5).1
  have k5 := K4.out.box.later hb5
  have hz5 : w.heap.size + 1 < w5.heap.size := by have := hb5.size; simp at this; omega
  clear hb5 hB4 hz4 K4 a0 a1 b0 b1
  have b0 := k5.rest.rest.rest.rest.rest.rest.rest.rest.first
  have b1 := k5.rest.rest.rest.rest.rest.rest.rest.rest.rest.first
  have a0 := k5.rest.rest.rest.rest.rest.rest.rest.rest.rest.rest.first
  have a1 := k5.rest.rest.rest.rest.rest.rest.rest.rest.rest.rest.rest.first
  have hy5 : w.heap.size < w5.heap.size := by omega
  clear hy4
  have K5 := Lib.hid k5
  clear k5
  go_wp2_with fail
  refine (rmul_is a b c d _).mono ?_
  rintro e w6 ⟨rfl, hb6⟩
  rw [Hmul.out]
  have hB6 : Below w.heap.size w w6 := (after (w := w) (by go_grown) hb6).1
  have k6 := K5.out.box.later hb6
  have hz6 : w.heap.size + 1 < w6.heap.size := by have := hb6.size; simp at this; omega
  clear hb6 hB5 hz5 K5 a0 a1 b0 b1
  have b0 := k6.rest.rest.rest.rest.rest.rest.rest.rest.rest.rest.first
  have b1 := k6.rest.rest.rest.rest.rest.rest.rest.rest.rest.rest.rest.first
  have a0 := k6.rest.rest.rest.rest.rest.rest.rest.rest.rest.rest.rest.rest.first
  have a1 := k6.rest.rest.rest.rest.rest.rest.rest.rest.rest.rest.rest.rest.rest.first
  have hy6 : w.heap.size < w6.heap.size := by omega
  clear hy5
  have K6 := Lib.hid k6
  clear k6
  go_wp2_with fail
  refine (meet_any a b c d _).mono ?_
  rintro e w7 ⟨rfl, hb7⟩
  rw [Hmeet.out]
  have hB7 : Below w.heap.size w w7 := (after (w := w) (by go_grown) hb7).1
  have k7 := K6.out.box.later hb7
  have hz7 : w.heap.size + 1 < w7.heap.size := by have := hb7.size; simp at this; omega
  clear hb7 hB6 hz6 K6 a0 a1 b0 b1
  have b0 := k7.rest.rest.rest.rest.rest.rest.rest.rest.rest.rest.rest.rest.first
  have b1 := k7.rest.rest.rest.rest.rest.rest.rest.rest.rest.rest.rest.rest.rest.first
  have a0 := k7.rest.rest.rest.rest.rest.rest.rest.rest.rest.rest.rest.rest.rest.rest.first
  have a1 := k7.rest.rest.rest.rest.rest.rest.rest.rest.rest.rest.rest.rest.rest.rest.rest.first
  have hy7 : w.heap.size < w7.heap.size := by omega
  clear hy6
  have K7 := Lib.hid k7
  clear k7
  go_wp2_with fail
  refine (rmeet_any a b c d _).mono ?_
  rintro e w8 ⟨rfl, hb8⟩
  rw [Hmeet.out]
  have hB8 : Below w.heap.size w w8 := (after (w := w) (by go_grown) hb8).1
  have k8 := K7.out.box.later hb8
  have hz8 : w.heap.size + 1 < w8.heap.size := by have := hb8.size; simp at this; omega
  clear hb8 hB7 hz7 K7 a0 a1 b0 b1
  have b0 := k8.rest.rest.rest.rest.rest.rest.rest.rest.rest.rest.rest.rest.rest.rest.first
  have b1 := k8.rest.rest.rest.rest.rest.rest.rest.rest.rest.rest.rest.rest.rest.rest.rest.first
  have a0 := k8.rest.rest.rest.rest.rest.rest.rest.rest.rest.rest.rest.rest.rest.rest.rest.rest.first
  have a1 := k8.rest.rest.rest.rest.rest.rest.rest.rest.rest.rest.rest.rest.rest.rest.rest.rest.rest.first
  have hy8 : w.heap.size < w8.heap.size := by omega
  clear hy7
  have K8 := Lib.hid k8
  clear k8
  go_wp2_with fail
  refine (join_any a b c d _).mono ?_
  rintro e w9 ⟨rfl, hb9⟩
  rw [Hjoin.out]
  have hB9 : Below w.heap.size w w9 := (after (w := w) (by go_grown) hb9).1
  have k9 := K8.out.box.later hb9
  have hz9 : w.heap.size + 1 < w9.heap.size := by have := hb9.size; simp at this; omega
  clear hb9 hB8 hz8 K8 a0 a1 b0 b1
  have b0 := k9.rest.rest.rest.rest.rest.rest.rest.rest.rest.rest.rest.rest.rest.rest.rest.rest.first
  have b1 := k9.rest.rest.rest.rest.rest.rest.rest.rest.rest.rest.rest.rest.rest.rest.rest.rest.rest.first
  have a0 := k9.rest.rest.rest.rest.rest.rest.rest.rest.rest.rest.rest.rest.rest.rest.rest.rest.rest.rest.first
  have a1 := k9.rest.rest.rest.rest.rest.rest.rest.rest.rest.rest.rest.rest.rest.rest.rest.rest.rest.rest.rest.first
  have hy9 : w.heap.size < w9.heap.size := by omega
  clear hy8
  have K9 := Lib.hid k9
  clear k9
  go_wp2_with fail
  refine (rjoin_any a b c d _).mono ?_
  rintro e w10 ⟨rfl, hb10⟩
  rw [Hjoin.out]
  have hB10 : Below w.heap.size w w10 := (after (w := w) (by go_grown) hb10).1
  have k10 := K9.out.box.later hb10
  have hz10 : w.heap.size + 1 < w10.heap.size := by have := hb10.size; simp at this; omega
  clear hb10 hB9 hz9 K9 a0 a1 b0 b1
  have b0 := k10.rest.rest.rest.rest.rest.rest.rest.rest.rest.rest.rest.rest.rest.rest.rest.rest.rest.rest.first
  have b1 := k10.rest.rest.rest.rest.rest.rest.rest.rest.rest.rest.rest.rest.rest.rest.rest.rest.rest.rest.rest.first
  have a0 := k10.rest.rest.rest.rest.rest.rest.rest.rest.rest.rest.rest.rest.rest.rest.rest.rest.rest.rest.rest.rest.first
  have a1 := k10.rest.rest.rest.rest.rest.rest.rest.rest.rest.rest.rest.rest.rest.rest.rest.rest.rest.rest.rest.rest.rest.first
  have hy10 : w.heap.size < w10.heap.size := by omega
  clear hy9
  have K10 := Lib.hid k10
  clear k10
  go_wp2_with fail
  refine (holds_any a b c d _).mono ?_
  rintro e w11 ⟨rfl, hb11⟩
  rw [Hhol.out]
  have hB11 : Below w.heap.size w w11 := (after (w := w) (by go_grown) hb11).1
  have k11 := K10.out.box.later hb11
  have hz11 : w.heap.size + 1 < w11.heap.size := by have := hb11.size; simp at this; omega
  clear hb11 hB10 hz10 K10 a0 a1 b0 b1
  have b0 := k11.rest.rest.rest.rest.rest.rest.rest.rest.rest.rest.rest.rest.rest.rest.rest.rest.rest.rest.rest.rest.first
  have b1 := k11.rest.rest.rest.rest.rest.rest.rest.rest.rest.rest.rest.rest.rest.rest.rest.rest.rest.rest.rest.rest.rest.first
  have a0 := k11.rest.rest.rest.rest.rest.rest.rest.rest.rest.rest.rest.rest.rest.rest.rest.rest.rest.rest.rest.rest.rest.rest.first
  have a1 := k11.rest.rest.rest.rest.rest.rest.rest.rest.rest.rest.rest.rest.rest.rest.rest.rest.rest.rest.rest.rest.rest.rest.rest.first
  have hy11 : w.heap.size < w11.heap.size := by omega
  clear hy10
  have K11 := Lib.hid k11
  clear k11
  go_wp2_with fail
  refine (rholds_any a b c d _).mono ?_
  rintro e w12 ⟨rfl, hb12⟩
  rw [Hhol.out]
  have hB12 : Below w.heap.size w w12 := (after (w := w) (by go_grown) hb12).1
  have k12 := K11.out.later hb12
  have hz12 : w.heap.size + 1 < w12.heap.size := by have := hb12.size; omega
  clear hb12 hB11 hz11 K11 a0 a1 b0 b1
  have b0 := k12.rest.rest.rest.rest.rest.rest.rest.rest.rest.rest.rest.rest.rest.rest.rest.rest.rest.rest.rest.rest.first
  have b1 := k12.rest.rest.rest.rest.rest.rest.rest.rest.rest.rest.rest.rest.rest.rest.rest.rest.rest.rest.rest.rest.rest.first
  have a0 := k12.rest.rest.rest.rest.rest.rest.rest.rest.rest.rest.rest.rest.rest.rest.rest.rest.rest.rest.rest.rest.rest.rest.first
  have a1 := k12.rest.rest.rest.rest.rest.rest.rest.rest.rest.rest.rest.rest.rest.rest.rest.rest.rest.rest.rest.rest.rest.rest.rest.first
  have hy12 : w.heap.size < w12.heap.size := by omega
  clear hy11
  have K12 := Lib.hid k12
  clear k12
  go_wp2_with fail
  have c100 := K12.out.first
  have c101 := K12.out.rest.first
  have c90 := K12.out.rest.rest.first
  have c91 := K12.out.rest.rest.rest.first
  have c80 := K12.out.rest.rest.rest.rest.first
  have c81 := K12.out.rest.rest.rest.rest.rest.first
  have c70 := K12.out.rest.rest.rest.rest.rest.rest.first
  have c71 := K12.out.rest.rest.rest.rest.rest.rest.rest.first
  have c60 := K12.out.rest.rest.rest.rest.rest.rest.rest.rest.first
  have c61 := K12.out.rest.rest.rest.rest.rest.rest.rest.rest.rest.first
  have c50 := K12.out.rest.rest.rest.rest.rest.rest.rest.rest.rest.rest.first
  have c51 := K12.out.rest.rest.rest.rest.rest.rest.rest.rest.rest.rest.rest.first
  have c40 := K12.out.rest.rest.rest.rest.rest.rest.rest.rest.rest.rest.rest.rest.first
  have c41 := K12.out.rest.rest.rest.rest.rest.rest.rest.rest.rest.rest.rest.rest.rest.first
  have c30 := K12.out.rest.rest.rest.rest.rest.rest.rest.rest.rest.rest.rest.rest.rest.rest.first
  have c31 := K12.out.rest.rest.rest.rest.rest.rest.rest.rest.rest.rest.rest.rest.rest.rest.rest.first
  have c20 := K12.out.rest.rest.rest.rest.rest.rest.rest.rest.rest.rest.rest.rest.rest.rest.rest.rest.first
  have c21 := K12.out.rest.rest.rest.rest.rest.rest.rest.rest.rest.rest.rest.rest.rest.rest.rest.rest.rest.first
  have c10 := K12.out.rest.rest.rest.rest.rest.rest.rest.rest.rest.rest.rest.rest.rest.rest.rest.rest.rest.rest.first
  have c11 := K12.out.rest.rest.rest.rest.rest.rest.rest.rest.rest.rest.rest.rest.rest.rest.rest.rest.rest.rest.rest.first
  have hB := hB12
  clear hB12
  simp only [List.append_eq, List.cons_append, List.nil_append]
  go_region_held3 (fun w' => w'.cell? ⟨w10.heap.size, 0, none⟩ = some (.int .i64 joinx) ∧ w'.cell? ⟨w10.heap.size, 1, none⟩ = some (.int .i64 joiny) ∧ w'.cell? ⟨w9.heap.size, 0, none⟩ = some (.int .i64 joinx) ∧ w'.cell? ⟨w9.heap.size, 1, none⟩ = some (.int .i64 joiny) ∧ w'.cell? ⟨w8.heap.size, 0, none⟩ = some (.int .i64 meetx) ∧ w'.cell? ⟨w8.heap.size, 1, none⟩ = some (.int .i64 meety) ∧ w'.cell? ⟨w7.heap.size, 0, none⟩ = some (.int .i64 meetx) ∧ w'.cell? ⟨w7.heap.size, 1, none⟩ = some (.int .i64 meety) ∧ w'.cell? ⟨w6.heap.size, 0, none⟩ = some (.int .i64 mulx) ∧ w'.cell? ⟨w6.heap.size, 1, none⟩ = some (.int .i64 muly) ∧ w'.cell? ⟨w5.heap.size, 0, none⟩ = some (.int .i64 mulx) ∧ w'.cell? ⟨w5.heap.size, 1, none⟩ = some (.int .i64 muly) ∧ w'.cell? ⟨w4.heap.size, 0, none⟩ = some (.int .i64 subx) ∧ w'.cell? ⟨w4.heap.size, 1, none⟩ = some (.int .i64 suby) ∧ w'.cell? ⟨w3.heap.size, 0, none⟩ = some (.int .i64 subx) ∧ w'.cell? ⟨w3.heap.size, 1, none⟩ = some (.int .i64 suby) ∧ w'.cell? ⟨w2.heap.size, 0, none⟩ = some (.int .i64 addx) ∧ w'.cell? ⟨w2.heap.size, 1, none⟩ = some (.int .i64 addy) ∧ w'.cell? ⟨w1.heap.size, 0, none⟩ = some (.int .i64 addx) ∧ w'.cell? ⟨w1.heap.size, 1, none⟩ = some (.int .i64 addy) ∧ w'.cell? ⟨w.heap.size, 0, none⟩ = some (.int .i64 a) ∧ w'.cell? ⟨w.heap.size, 1, none⟩ = some (.int .i64 b))
    (first | (go_split_ands; (repeat' apply And.intro) <;> first | assumption | exact cell_later hb (by assumption)) | go_keep)
    (first
      | (go_at_call 26; refine (check_any _ _ _).mono ?_; rintro e w13 ⟨rfl, hb⟩; have hB : Below w.heap.size w w13 := (by first | exact (after hB hb).1 | exact (after hB.drew hb).1))
      | (go_at_call 27; refine (rcheck_any _ _ _).mono ?_; rintro e w14 ⟨rfl, hb⟩; have hB : Below w.heap.size w w14 := (by first | exact (after hB hb).1 | exact (after hB.drew hb).1)))
  go_wp2_with fail
  go_returns
  exact ⟨rfl, by go_grown⟩
end Go.Proofs.Ytpkpfaaggngekaa
