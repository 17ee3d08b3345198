/- The reference of layer 4: Shear, Bend. -/
import Derived.Test.YtmadkefpjoheeaaTRSh
namespace Go.Proofs.Ytmadkefpjoheeaa
open Go.RowKit

set_option maxRecDepth 100000 in
set_option maxHeartbeats 4000000 in
theorem rshearOf_any (v : Value) (ls : List Ld) (at' : Int) (w : World) (hv : SlLd w v ls) :
    Calls Try.prog 33 #[v, .int .i64 at'] w fun e w' => e = .returned (.tuple #[sp (shearE ls at').1 (shearE ls at').2, .int .i64 (placeN ls at')]) ∧ Below w.heap.size w w' := by
  have HV := Lib.hid hv
  obtain ⟨n, hn⟩ : ∃ n, loadsN ls = n := ⟨_, rfl⟩
  have HN := Lib.hid hn
  clear hv
  by_cases h0 : n = 0
  rotate_left 1
  · have hp : placeN ls at' = n := by unfold placeN; rw [hn, if_neg h0]
    unfold shearE
    rw [hp, if_neg h0]
    clear hn hp
    go_enter Try.func33, Try.ntmps33
    go_wp2_with fail
    refine (rcheckLd_any v ls _ (ldLater HV.out (by go_grown))).mono ?_
    rintro e w1 ⟨rfl, hb1⟩
    rw [HN.out]
    have hB1 : Below w.heap.size w w1 := (after (w := w) (by go_grown) hb1).1
    obtain ⟨r0, r1, f0, f1⟩ := show Box2 w1 w.heap.size 0 0 from Box2.later ⟨by go_cell, by go_cell, by go_cell, by go_cell⟩ hb1
    clear hb1
    go_wp2_with fail
    exact bodyPost_ret (v := .tuple #[sp 0 0, .int .i64 n]) (by simp [results, Try.results33, go_sem, *]) rfl ⟨rfl, by go_grown⟩
  subst h0
  obtain ⟨h40, hok⟩ := loadsN_ok hn
  by_cases hp : inB at' (-20000) 20000 = true
  rotate_left 1
  · have HP := Lib.hid (show inB at' (-20000) 20000 = false by simpa using hp)
    have hpn : placeN ls at' = 2 := by unfold placeN; rw [hn, if_pos rfl, if_neg hp]
    unfold shearE
    rw [hpn, if_neg (by omega)]
    clear hn hp hpn hok
    go_enter Try.func33, Try.ntmps33
    go_wp2_with fail
    refine (rcheckLd_any v ls _ (ldLater HV.out (by go_grown))).mono ?_
    rintro e w1 ⟨rfl, hb1⟩
    rw [HN.out]
    have hB1 : Below w.heap.size w w1 := (after (w := w) (by go_grown) hb1).1
    obtain ⟨r0, r1, f0, f1⟩ := show Box2 w1 w.heap.size 0 0 from Box2.later ⟨by go_cell, by go_cell, by go_cell, by go_cell⟩ hb1
    clear hb1
    go_wp2_with fail
    refine (rplace_any at' _).mono ?_
    rintro e w2 ⟨rfl, rfl⟩
    rw [HP.out]
    go_wp2_with fail
    exact bodyPost_ret (v := .tuple #[sp 0 0, .int .i64 2]) (by simp [results, Try.results33, go_sem, *]) rfl ⟨rfl, by go_grown⟩
  have HP := Lib.hid hp
  have hpn : placeN ls at' = 0 := by unfold placeN; rw [hn, if_pos rfl, if_pos hp]
  unfold shearE
  rw [hpn, if_pos rfl]
  have hla : ∀ l, l ∈ ls → l.ok = true := fun l hl => List.all_eq_true.1 hok l hl
  obtain ⟨p0, p1⟩ := inB_iff.1 hp
  obtain ⟨A, hA⟩ : ∃ A, (shearS at' ls).1 = A := ⟨_, rfl⟩
  obtain ⟨B, hB⟩ : ∃ A, (shearS at' ls).2 = A := ⟨_, rfl⟩
  have HI := Lib.hid (And.intro hA hB)
  rw [hA, hB]
  have HLa := Lib.hid hla
  clear hn hp hpn hok hla hA hB
  go_enter Try.func33, Try.ntmps33
  go_wp2_with fail
  refine (rcheckLd_any v ls _ (ldLater HV.out (by go_grown))).mono ?_
  rintro e w1 ⟨rfl, hb1⟩
  rw [HN.out]
  have hB1 : Below w.heap.size w w1 := (after (w := w) (by go_grown) hb1).1
  have R1 := Lib.hid (show Box2 w1 w.heap.size 0 0 from Box2.later ⟨by go_cell, by go_cell, by go_cell, by go_cell⟩ hb1)
  clear hb1
  go_wp2_with fail
  refine (rplace_any at' _).mono ?_
  rintro e w2 ⟨rfl, rfl⟩
  rw [HP.out]
  go_wp2_with fail
  refine (rshear_any at' v ls _ (ldLater HV.out hB1) (by omega) HLa.out p0 p1).mono ?_
  rintro e w3 ⟨rfl, hb3⟩
  rw [show sumE _ ls = A from HI.out.1, show sumE _ ls = B from HI.out.2]
  have hB3 := hB1.trans (hb3.mono hB1.size)
  obtain ⟨r0, r1, f0, f1⟩ := R1.out.later hb3
  clear hb3
  go_wp2_with fail
  exact bodyPost_ret (v := .tuple #[sp A B, .int .i64 0]) (by simp [results, Try.results33, go_sem, *]) rfl ⟨rfl, by go_grown⟩
set_option maxRecDepth 100000 in
set_option maxHeartbeats 4000000 in
theorem rbendOf_any (v : Value) (ls : List Ld) (at' : Int) (w : World) (hv : SlLd w v ls) :
    Calls Try.prog 35 #[v, .int .i64 at'] w fun e w' => e = .returned (.tuple #[sp (bendE ls at').1 (bendE ls at').2, .int .i64 (placeN ls at')]) ∧ Below w.heap.size w w' := by
  have HV := Lib.hid hv
  obtain ⟨n, hn⟩ : ∃ n, loadsN ls = n := ⟨_, rfl⟩
  have HN := Lib.hid hn
  clear hv
  by_cases h0 : n = 0
  rotate_left 1
  · have hp : placeN ls at' = n := by unfold placeN; rw [hn, if_neg h0]
    unfold bendE
    rw [hp, if_neg h0]
    clear hn hp
    go_enter Try.func35, Try.ntmps35
    go_wp2_with fail
    refine (rcheckLd_any v ls _ (ldLater HV.out (by go_grown))).mono ?_
    rintro e w1 ⟨rfl, hb1⟩
    rw [HN.out]
    have hB1 : Below w.heap.size w w1 := (after (w := w) (by go_grown) hb1).1
    obtain ⟨r0, r1, f0, f1⟩ := show Box2 w1 w.heap.size 0 0 from Box2.later ⟨by go_cell, by go_cell, by go_cell, by go_cell⟩ hb1
    clear hb1
    go_wp2_with fail
    exact bodyPost_ret (v := .tuple #[sp 0 0, .int .i64 n]) (by simp [results, Try.results35, go_sem, *]) rfl ⟨rfl, by go_grown⟩
  subst h0
  obtain ⟨h40, hok⟩ := loadsN_ok hn
  by_cases hp : inB at' (-20000) 20000 = true
  rotate_left 1
  · have HP := Lib.hid (show inB at' (-20000) 20000 = false by simpa using hp)
    have hpn : placeN ls at' = 2 := by unfold placeN; rw [hn, if_pos rfl, if_neg hp]
    unfold bendE
    rw [hpn, if_neg (by omega)]
    clear hn hp hpn hok
    go_enter Try.func35, Try.ntmps35
    go_wp2_with fail
    refine (rcheckLd_any v ls _ (ldLater HV.out (by go_grown))).mono ?_
    rintro e w1 ⟨rfl, hb1⟩
    rw [HN.out]
    have hB1 : Below w.heap.size w w1 := (after (w := w) (by go_grown) hb1).1
    obtain ⟨r0, r1, f0, f1⟩ := show Box2 w1 w.heap.size 0 0 from Box2.later ⟨by go_cell, by go_cell, by go_cell, by go_cell⟩ hb1
    clear hb1
    go_wp2_with fail
    refine (rplace_any at' _).mono ?_
    rintro e w2 ⟨rfl, rfl⟩
    rw [HP.out]
    go_wp2_with fail
    exact bodyPost_ret (v := .tuple #[sp 0 0, .int .i64 2]) (by simp [results, Try.results35, go_sem, *]) rfl ⟨rfl, by go_grown⟩
  have HP := Lib.hid hp
  have hpn : placeN ls at' = 0 := by unfold placeN; rw [hn, if_pos rfl, if_pos hp]
  unfold bendE
  rw [hpn, if_pos rfl]
  have hla : ∀ l, l ∈ ls → l.ok = true := fun l hl => List.all_eq_true.1 hok l hl
  obtain ⟨p0, p1⟩ := inB_iff.1 hp
  obtain ⟨A, hA⟩ : ∃ A, (bendS at' ls).1 = A := ⟨_, rfl⟩
  obtain ⟨B, hB⟩ : ∃ A, (bendS at' ls).2 = A := ⟨_, rfl⟩
  have HI := Lib.hid (And.intro hA hB)
  rw [hA, hB]
  have HLa := Lib.hid hla
  clear hn hp hpn hok hla hA hB
  go_enter Try.func35, Try.ntmps35
  go_wp2_with fail
  refine (rcheckLd_any v ls _ (ldLater HV.out (by go_grown))).mono ?_
  rintro e w1 ⟨rfl, hb1⟩
  rw [HN.out]
  have hB1 : Below w.heap.size w w1 := (after (w := w) (by go_grown) hb1).1
  have R1 := Lib.hid (show Box2 w1 w.heap.size 0 0 from Box2.later ⟨by go_cell, by go_cell, by go_cell, by go_cell⟩ hb1)
  clear hb1
  go_wp2_with fail
  refine (rplace_any at' _).mono ?_
  rintro e w2 ⟨rfl, rfl⟩
  rw [HP.out]
  go_wp2_with fail
  refine (rbend_any at' v ls _ (ldLater HV.out hB1) (by omega) HLa.out p0 p1).mono ?_
  rintro e w3 ⟨rfl, hb3⟩
  rw [show sumE _ ls = A from HI.out.1, show sumE _ ls = B from HI.out.2]
  have hB3 := hB1.trans (hb3.mono hB1.size)
  obtain ⟨r0, r1, f0, f1⟩ := R1.out.later hb3
  clear hb3
  go_wp2_with fail
  exact bodyPost_ret (v := .tuple #[sp A B, .int .i64 0]) (by simp [results, Try.results35, go_sem, *]) rfl ⟨rfl, by go_grown⟩
end Go.Proofs.Ytmadkefpjoheeaa
