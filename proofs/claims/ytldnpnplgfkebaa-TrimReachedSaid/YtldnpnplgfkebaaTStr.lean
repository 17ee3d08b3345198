/- Package trim: Shear, Bend. -/
import Derived.Test.YtldnpnplgfkebaaTShE
namespace Go.Proofs.Ytldnpnplgfkebaa
open Go.RowKit

/-- The error of loads, then of a place. -/
def placeN (ls : List Ld) (at' : Int) : Int := if loadsN ls = 0 then (if inB at' (-20000) 20000 then 0 else 2) else loadsN ls
theorem astern_all {at' : Int} {ls : List Ld} (hl : ∀ l, l ∈ ls → l.ok = true) (h0 : -20000 ≤ at') (h1 : at' ≤ 20000) : ∀ l, l ∈ ls.map (asternL at') → LdB l := fun l hl' => by
  obtain ⟨x, hx, rfl⟩ := List.mem_map.1 hl'
  exact (astern_bound at' (hl x hx) h0 h1).1
def shearE (ls : List Ld) (at' : Int) : Int × Int := if placeN ls at' = 0 then shearS at' ls else (0, 0)
set_option maxRecDepth 100000 in
set_option maxHeartbeats 4000000 in
theorem atshear_any (v : Value) (ls : List Ld) (at' : Int) (w : World) (hv : SlLd w v ls) :
    Calls Try.prog 77 #[v, .int .i64 at', .func (.func 61) #[] #[]] w fun e w' => e = .returned (.tuple #[sp (shearE ls at').1 (shearE ls at').2, .int .i64 (placeN ls at')]) ∧ Below w.heap.size w w' := by
  have HV := Lib.hid hv
  obtain ⟨n, hn⟩ : ∃ n, loadsN ls = n := ⟨_, rfl⟩
  have HN := Lib.hid hn
  clear hv
  by_cases h0 : n = 0
  rotate_left 1
  · have hp : placeN ls at' = n := by unfold placeN; rw [hn, if_neg h0]
    unfold shearE
    rw [hp, if_neg h0]
    clear hn hp
    go_enter Try.func77, Try.ntmps77
    go_wp2_with fail
    refine (checkLd_any v ls _ (ldLater HV.out (by go_grown))).mono ?_
    rintro e w1 ⟨rfl, hb1⟩
    rw [HN.out]
    have hB1 : Below w.heap.size w w1 := (after (w := w) (by go_grown) hb1).1
    obtain ⟨r0, r1, f0, f1⟩ := show Box2 w1 w.heap.size 0 0 from Box2.later ⟨by go_cell, by go_cell, by go_cell, by go_cell⟩ hb1
    clear hb1
    go_wp2_with fail
    exact bodyPost_ret (v := .tuple #[sp 0 0, .int .i64 n]) (by simp [results, Try.results77, go_sem, *]) rfl ⟨rfl, by go_grown⟩
  subst h0
  obtain ⟨h40, hok⟩ := loadsN_ok hn
  by_cases hp : inB at' (-20000) 20000 = true
  rotate_left 1
  · have HP := Lib.hid (show inB at' (-20000) 20000 = false by simpa using hp)
    have hpn : placeN ls at' = 2 := by unfold placeN; rw [hn, if_pos rfl, if_neg hp]
    unfold shearE
    rw [hpn, if_neg (by omega)]
    clear hn hp hpn hok
    go_enter Try.func77, Try.ntmps77
    go_wp2_with fail
    refine (checkLd_any v ls _ (ldLater HV.out (by go_grown))).mono ?_
    rintro e w1 ⟨rfl, hb1⟩
    rw [HN.out]
    have hB1 : Below w.heap.size w w1 := (after (w := w) (by go_grown) hb1).1
    have R1 := Lib.hid (show Box2 w1 w.heap.size 0 0 from Box2.later ⟨by go_cell, by go_cell, by go_cell, by go_cell⟩ hb1)
    clear hb1
    go_wp2_with fail
    refine (isPlace_any at' _).mono ?_
    rintro e w2 ⟨rfl, hb2⟩
    rw [HP.out]
    have hB2 := hB1.trans (hb2.mono hB1.size)
    obtain ⟨r0, r1, f0, f1⟩ := R1.out.later hb2
    clear hb2 hB1
    go_wp2_with fail
    exact bodyPost_ret (v := .tuple #[sp 0 0, .int .i64 2]) (by simp [results, Try.results77, go_sem, *]) rfl ⟨rfl, by go_grown⟩
  have HP := Lib.hid hp
  have hpn : placeN ls at' = 0 := by unfold placeN; rw [hn, if_pos rfl, if_pos hp]
  unfold shearE
  rw [hpn, if_pos rfl]
  have hla : ∀ l, l ∈ ls → l.ok = true := fun l hl => List.all_eq_true.1 hok l hl
  obtain ⟨p0, p1⟩ := inB_iff.1 hp
  obtain ⟨i0, i1⟩ := shear_is hla p0 p1
  obtain ⟨A, hA⟩ : ∃ A, (shearS at' ls).1 = A := ⟨_, rfl⟩
  obtain ⟨B, hB⟩ : ∃ A, (shearS at' ls).2 = A := ⟨_, rfl⟩
  have HI := Lib.hid (And.intro (i0.trans hA) (i1.trans hB))
  rw [hA, hB]
  have HLa := Lib.hid hla
  have HLb := Lib.hid (astern_all hla p0 p1)
  clear hn hp hpn hok hla i0 i1 hA hB
  go_enter Try.func77, Try.ntmps77
  go_wp2_with fail
  refine (checkLd_any v ls _ (ldLater HV.out (by go_grown))).mono ?_
  rintro e w1 ⟨rfl, hb1⟩
  rw [HN.out]
  have hB1 : Below w.heap.size w w1 := (after (w := w) (by go_grown) hb1).1
  have R1 := Lib.hid (show Box2 w1 w.heap.size 0 0 from Box2.later ⟨by go_cell, by go_cell, by go_cell, by go_cell⟩ hb1)
  clear hb1
  go_wp2_with fail
  refine (isPlace_any at' _).mono ?_
  rintro e w2 ⟨rfl, hb2⟩
  rw [HP.out]
  have hB2 := hB1.trans (hb2.mono hB1.size)
  replace R1 := Lib.hid (R1.out.later hb2)
  clear hb2 hB1
  go_wp2_with fail
  refine (astern_any at' v ls _ (ldLater HV.out hB2) (by omega) HLa.out p0 p1).mono ?_
  rintro e w3 ⟨u, rfl, hu, hb3⟩
  have hB3 := hB2.trans (hb3.mono hB2.size)
  replace R1 := Lib.hid (R1.out.later hb3)
  have HU := Lib.hid hu
  clear hb3 hB2 hu
  go_wp2_with fail
  refine (heavinessOf_any u (ls.map (asternL at')) _ HU.out (by simp; omega) HLb.out).mono ?_
  rintro e w4 ⟨rfl, hb4⟩
  rw [HI.out.1, HI.out.2]
  have hB4 := hB3.trans (hb4.mono hB3.size)
  obtain ⟨r0, r1, f0, f1⟩ := R1.out.later hb4
  clear hb4 hB3
  go_wp2_with fail
  exact bodyPost_ret (v := .tuple #[sp A B, .int .i64 0]) (by simp [results, Try.results77, go_sem, *]) rfl ⟨rfl, by go_grown⟩
set_option maxHeartbeats 1000000 in
theorem shearOf_any (v : Value) (ls : List Ld) (at' : Int) (w : World) (hv : SlLd w v ls) :
    Calls Try.prog 32 #[v, .int .i64 at'] w fun e w' => e = .returned (.tuple #[sp (shearE ls at').1 (shearE ls at').2, .int .i64 (placeN ls at')]) ∧ Below w.heap.size w w' := by
  have HV := Lib.hid hv
  obtain ⟨A, hA⟩ : ∃ A, (shearE ls at').1 = A := ⟨_, rfl⟩
  obtain ⟨B, hB⟩ : ∃ A, (shearE ls at').2 = A := ⟨_, rfl⟩
  obtain ⟨n, hn⟩ : ∃ A, placeN ls at' = A := ⟨_, rfl⟩
  have HI := Lib.hid (And.intro hA (And.intro hB hn))
  rw [hA, hB, hn]
  clear hv hA hB hn
  go_enter Try.func32, Try.ntmps32
  go_wp2_with fail
  refine (atshear_any v ls at' _ (ldLater HV.out (by go_grown))).mono ?_
  rintro e w1 ⟨rfl, hb1⟩
  rw [HI.out.1, HI.out.2.1, HI.out.2.2]
  have hB1 : Below w.heap.size w w1 := (after (w := w) (by go_grown) hb1).1
  obtain ⟨r0, r1, f0, f1⟩ := show Box2 w1 w.heap.size 0 0 from Box2.later ⟨by go_cell, by go_cell, by go_cell, by go_cell⟩ hb1
  clear hb1
  go_wp2_with fail
  exact bodyPost_ret (v := .tuple #[sp A B, .int .i64 n]) (by simp [results, Try.results32, go_sem, *]) rfl ⟨rfl, by go_grown⟩
def bendE (ls : List Ld) (at' : Int) : Int × Int := if placeN ls at' = 0 then bendS at' ls else (0, 0)
set_option maxRecDepth 100000 in
set_option maxHeartbeats 4000000 in
theorem atbend_any (v : Value) (ls : List Ld) (at' : Int) (w : World) (hv : SlLd w v ls) :
    Calls Try.prog 77 #[v, .int .i64 at', .func (.func 62) #[] #[]] w fun e w' => e = .returned (.tuple #[sp (bendE ls at').1 (bendE ls at').2, .int .i64 (placeN ls at')]) ∧ Below w.heap.size w w' := by
  have HV := Lib.hid hv
  obtain ⟨n, hn⟩ : ∃ n, loadsN ls = n := ⟨_, rfl⟩
  have HN := Lib.hid hn
  clear hv
  by_cases h0 : n = 0
  rotate_left 1
  · have hp : placeN ls at' = n := by unfold placeN; rw [hn, if_neg h0]
    unfold bendE
    rw [hp, if_neg h0]
    clear hn hp
    go_enter Try.func77, Try.ntmps77
    go_wp2_with fail
    refine (checkLd_any v ls _ (ldLater HV.out (by go_grown))).mono ?_
    rintro e w1 ⟨rfl, hb1⟩
    rw [HN.out]
    have hB1 : Below w.heap.size w w1 := (after (w := w) (by go_grown) hb1).1
    obtain ⟨r0, r1, f0, f1⟩ := show Box2 w1 w.heap.size 0 0 from Box2.later ⟨by go_cell, by go_cell, by go_cell, by go_cell⟩ hb1
    clear hb1
    go_wp2_with fail
    exact bodyPost_ret (v := .tuple #[sp 0 0, .int .i64 n]) (by simp [results, Try.results77, go_sem, *]) rfl ⟨rfl, by go_grown⟩
  subst h0
  obtain ⟨h40, hok⟩ := loadsN_ok hn
  by_cases hp : inB at' (-20000) 20000 = true
  rotate_left 1
  · have HP := Lib.hid (show inB at' (-20000) 20000 = false by simpa using hp)
    have hpn : placeN ls at' = 2 := by unfold placeN; rw [hn, if_pos rfl, if_neg hp]
    unfold bendE
    rw [hpn, if_neg (by omega)]
    clear hn hp hpn hok
    go_enter Try.func77, Try.ntmps77
    go_wp2_with fail
    refine (checkLd_any v ls _ (ldLater HV.out (by go_grown))).mono ?_
    rintro e w1 ⟨rfl, hb1⟩
    rw [HN.out]
    have hB1 : Below w.heap.size w w1 := (after (w := w) (by go_grown) hb1).1
    have R1 := Lib.hid (show Box2 w1 w.heap.size 0 0 from Box2.later ⟨by go_cell, by go_cell, by go_cell, by go_cell⟩ hb1)
    clear hb1
    go_wp2_with fail
    refine (isPlace_any at' _).mono ?_
    rintro e w2 ⟨rfl, hb2⟩
    rw [HP.out]
    have hB2 := hB1.trans (hb2.mono hB1.size)
    obtain ⟨r0, r1, f0, f1⟩ := R1.out.later hb2
    clear hb2 hB1
    go_wp2_with fail
    exact bodyPost_ret (v := .tuple #[sp 0 0, .int .i64 2]) (by simp [results, Try.results77, go_sem, *]) rfl ⟨rfl, by go_grown⟩
  have HP := Lib.hid hp
  have hpn : placeN ls at' = 0 := by unfold placeN; rw [hn, if_pos rfl, if_pos hp]
  unfold bendE
  rw [hpn, if_pos rfl]
  have hla : ∀ l, l ∈ ls → l.ok = true := fun l hl => List.all_eq_true.1 hok l hl
  obtain ⟨p0, p1⟩ := inB_iff.1 hp
  obtain ⟨i0, i1⟩ := bend_is (at' := at') hla
  obtain ⟨A, hA⟩ : ∃ A, (bendS at' ls).1 = A := ⟨_, rfl⟩
  obtain ⟨B, hB⟩ : ∃ A, (bendS at' ls).2 = A := ⟨_, rfl⟩
  have HI := Lib.hid (And.intro (i0.trans hA) (i1.trans hB))
  rw [hA, hB]
  have HLa := Lib.hid hla
  have HLb := Lib.hid (astern_all hla p0 p1)
  clear hn hp hpn hok hla i0 i1 hA hB
  go_enter Try.func77, Try.ntmps77
  go_wp2_with fail
  refine (checkLd_any v ls _ (ldLater HV.out (by go_grown))).mono ?_
  rintro e w1 ⟨rfl, hb1⟩
  rw [HN.out]
  have hB1 : Below w.heap.size w w1 := (after (w := w) (by go_grown) hb1).1
  have R1 := Lib.hid (show Box2 w1 w.heap.size 0 0 from Box2.later ⟨by go_cell, by go_cell, by go_cell, by go_cell⟩ hb1)
  clear hb1
  go_wp2_with fail
  refine (isPlace_any at' _).mono ?_
  rintro e w2 ⟨rfl, hb2⟩
  rw [HP.out]
  have hB2 := hB1.trans (hb2.mono hB1.size)
  replace R1 := Lib.hid (R1.out.later hb2)
  clear hb2 hB1
  go_wp2_with fail
  refine (astern_any at' v ls _ (ldLater HV.out hB2) (by omega) HLa.out p0 p1).mono ?_
  rintro e w3 ⟨u, rfl, hu, hb3⟩
  have hB3 := hB2.trans (hb3.mono hB2.size)
  replace R1 := Lib.hid (R1.out.later hb3)
  have HU := Lib.hid hu
  clear hb3 hB2 hu
  go_wp2_with fail
  refine (momentOf_any u (ls.map (asternL at')) _ HU.out (by simp; omega) HLb.out).mono ?_
  rintro e w4 ⟨rfl, hb4⟩
  rw [HI.out.1, HI.out.2]
  have hB4 := hB3.trans (hb4.mono hB3.size)
  obtain ⟨r0, r1, f0, f1⟩ := R1.out.later hb4
  clear hb4 hB3
  go_wp2_with fail
  exact bodyPost_ret (v := .tuple #[sp A B, .int .i64 0]) (by simp [results, Try.results77, go_sem, *]) rfl ⟨rfl, by go_grown⟩
set_option maxHeartbeats 1000000 in
theorem bendOf_any (v : Value) (ls : List Ld) (at' : Int) (w : World) (hv : SlLd w v ls) :
    Calls Try.prog 34 #[v, .int .i64 at'] w fun e w' => e = .returned (.tuple #[sp (bendE ls at').1 (bendE ls at').2, .int .i64 (placeN ls at')]) ∧ Below w.heap.size w w' := by
  have HV := Lib.hid hv
  obtain ⟨A, hA⟩ : ∃ A, (bendE ls at').1 = A := ⟨_, rfl⟩
  obtain ⟨B, hB⟩ : ∃ A, (bendE ls at').2 = A := ⟨_, rfl⟩
  obtain ⟨n, hn⟩ : ∃ A, placeN ls at' = A := ⟨_, rfl⟩
  have HI := Lib.hid (And.intro hA (And.intro hB hn))
  rw [hA, hB, hn]
  clear hv hA hB hn
  go_enter Try.func34, Try.ntmps34
  go_wp2_with fail
  refine (atbend_any v ls at' _ (ldLater HV.out (by go_grown))).mono ?_
  rintro e w1 ⟨rfl, hb1⟩
  rw [HI.out.1, HI.out.2.1, HI.out.2.2]
  have hB1 : Below w.heap.size w w1 := (after (w := w) (by go_grown) hb1).1
  obtain ⟨r0, r1, f0, f1⟩ := show Box2 w1 w.heap.size 0 0 from Box2.later ⟨by go_cell, by go_cell, by go_cell, by go_cell⟩ hb1
  clear hb1
  go_wp2_with fail
  exact bodyPost_ret (v := .tuple #[sp A B, .int .i64 n]) (by simp [results, Try.results34, go_sem, *]) rfl ⟨rfl, by go_grown⟩
end Go.Proofs.Ytldnpnplgfkebaa
