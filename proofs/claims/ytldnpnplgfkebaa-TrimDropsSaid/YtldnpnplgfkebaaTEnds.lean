/- Package trim: ends, heavinessOf, momentOf, Balance. -/
import Derived.Test.YtldnpnplgfkebaaTMost
import Derived.Test.YtldnpnplgfkebaaTList
namespace Go.Proofs.Ytldnpnplgfkebaa
open Go.RowKit

theorem loads_bound {ls : List Ld} (h : ls.all Ld.ok = true) : ∀ l, l ∈ ls → LdB l := fun l hl => Ld.bound (List.all_eq_true.1 h l hl)
theorem loadsN_ok {ls : List Ld} (h : loadsN ls = 0) : ls.length ≤ 40 ∧ ls.all Ld.ok = true := by
  unfold loadsN listN at h
  split at h
  · omega
  · split at h
    · exact ⟨by omega, by assumption⟩
    · omega
theorem mostL_bound {a b : Int} {ls : List Ld} (hs : ScB a b) (hl : ∀ l, l ∈ ls → LdB l) (h50 : ls.length ≤ 50) : -2147637335328358450 ≤ mostL a b ls ∧ mostL a b ls ≤ 2147637335328358450 := by
  have := most_take (k := ls.length) hs hl h50
  rw [List.take_length] at this
  exact this
set_option maxHeartbeats 2000000 in
theorem ends_any (a b : Int) (v : Value) (ls : List Ld) (w : World) (hv : SlLd w v ls) (h50 : ls.length ≤ 50) (hs : ScB a b) (hl : ∀ l, l ∈ ls → LdB l) :
    Calls Try.prog 107 #[sp a b, v] w fun e w' => e = .returned (sp (-mostL (-a) (-b) ls) (mostL a b ls)) ∧ Below w.heap.size w w' := by
  have hs' : ScB (-a) (-b) := by unfold ScB at hs ⊢; omega
  obtain ⟨x0, x1⟩ := mostL_bound hs hl h50
  obtain ⟨y0, y1⟩ := mostL_bound hs' hl h50
  obtain ⟨X, hX⟩ : ∃ X, mostL a b ls = X := ⟨_, rfl⟩
  obtain ⟨Y, hY⟩ : ∃ Y, mostL (-a) (-b) ls = Y := ⟨_, rfl⟩
  rw [hX] at x0 x1
  rw [hY] at y0 y1
  rw [hX, hY]
  have HX := Lib.hid hX
  have HY := Lib.hid hY
  have HV := Lib.hid hv
  have HS := Lib.hid hs
  have HS' := Lib.hid hs'
  have HL := Lib.hid hl
  obtain ⟨a0, a1, b0, b1⟩ := hs
  have eY : IntKind.i64.wrap (-Y) = -Y := IntWalk.i64_in _ ⟨by omega, by omega⟩
  clear hX hY hv hs' hl
  go_enter Try.func107, Try.ntmps107
  go_wp2_with fail
  obtain ⟨W, hW⟩ : ∃ W, ((w.alloc (.cells #[.int .i64 a, .int .i64 b] 117)).alloc (.cells #[.int .i64 0, .int .i64 0] 37)).alloc (.cells #[.int .i64 (-a), .int .i64 (-b)] 117) = W := ⟨_, rfl⟩
  have c0 : W.cell? ⟨w.heap.size, 0, none⟩ = some (.int .i64 a) := by subst hW; go_cell
  have c1 : W.cell? ⟨w.heap.size, 1, none⟩ = some (.int .i64 b) := by subst hW; go_cell
  have d0 : W.cell? ⟨w.heap.size + 1 + 1, 0, none⟩ = some (.int .i64 (-a)) := by subst hW; go_cell
  have d1 : W.cell? ⟨w.heap.size + 1 + 1, 1, none⟩ = some (.int .i64 (-b)) := by subst hW; go_cell
  have hN : Box2 W (w.heap.size + 1) 0 0 := by subst hW; exact ⟨by go_cell, by go_cell, by go_cell, by go_cell⟩
  have hBw : Below w.heap.size w W := by subst hW; go_grown
  have HN := Lib.hid hN
  have HVW := Lib.hid (ldLater HV.out hBw)
  rw [hW]
  clear hW hN
  have hB : Below W.heap.size W W := Below.refl _ _
  go_region_held3 (fun w' => w'.cell? ⟨w.heap.size, 0, none⟩ = some (.int .i64 a) ∧ w'.cell? ⟨w.heap.size, 1, none⟩ = some (.int .i64 b) ∧ w'.cell? ⟨w.heap.size + 1 + 1, 0, none⟩ = some (.int .i64 (-a)) ∧ w'.cell? ⟨w.heap.size + 1 + 1, 1, none⟩ = some (.int .i64 (-b)))
    (first | (go_split_ands; (repeat' apply And.intro) <;> first | assumption | exact cell_later hb (by assumption) | ((repeat rw [cell_far _ _ (by omega)]); assumption)) | go_keep)
    (first
      | (go_at_call 72; refine (most_any _ _ v ls _ (ldLater HVW.out (by first | exact hB | exact hB.drew)) h50 (by first | exact HS.out | exact HS'.out) HL.out).mono ?_; rintro e wx ⟨rfl, hb⟩; have hB : Below W.heap.size W wx := (by first | exact chain hB hb | exact chainD hB hb); have z0 := (HN.out.later hB).c0; have z1 := (HN.out.later hB).c1; have f0 := (HN.out.later hB).f0; have f1 := (HN.out.later hB).f1))
  rw [HX.out, HY.out]
  go_wp2_with fail
  have hBx := hBw.trans (hB.mono hBw.size)
  exact bodyPost_ret (v := sp (-Y) X) (by simp [results, Try.results107, go_sem, *]) rfl ⟨rfl, by go_grown⟩

theorem scb10 : ScB 1 0 := by unfold ScB; omega
theorem scb01 : ScB 0 1 := by unfold ScB; omega
set_option maxHeartbeats 1000000 in
theorem heavinessOf_any (v : Value) (ls : List Ld) (w : World) (hv : SlLd w v ls) (h50 : ls.length ≤ 50) (hl : ∀ l, l ∈ ls → LdB l) :
    Calls Try.prog 61 #[v] w fun e w' => e = .returned (sp (-mostL (-1) (-0) ls) (mostL 1 0 ls)) ∧ Below w.heap.size w w' := by
  have HV := Lib.hid hv
  have HL := Lib.hid hl
  obtain ⟨X, hX⟩ : ∃ X, mostL 1 0 ls = X := ⟨_, rfl⟩
  obtain ⟨Y, hY⟩ : ∃ Y, -mostL (-1) (-0) ls = Y := ⟨_, rfl⟩
  have HX := Lib.hid hX
  have HY := Lib.hid hY
  rw [hX, hY]
  clear hv hl hX hY
  go_enter Try.func61, Try.ntmps61
  go_wp2_with fail
  refine (ends_any 1 0 v ls _ (ldLater HV.out (by go_grown)) h50 scb10 HL.out).mono ?_
  rintro e w1 ⟨rfl, hb1⟩
  rw [HX.out, HY.out]
  have hB1 : Below w.heap.size w w1 := (after (w := w) (by go_grown) hb1).1
  obtain ⟨z0, z1, f0, f1⟩ := show Box2 w1 w.heap.size 0 0 from Box2.later ⟨by go_cell, by go_cell, by go_cell, by go_cell⟩ hb1
  clear hb1
  go_wp2_with fail
  exact bodyPost_ret (v := sp Y X) (by simp [results, Try.results61, go_sem, *]) rfl ⟨rfl, by go_grown⟩
set_option maxHeartbeats 1000000 in
theorem momentOf_any (v : Value) (ls : List Ld) (w : World) (hv : SlLd w v ls) (h50 : ls.length ≤ 50) (hl : ∀ l, l ∈ ls → LdB l) :
    Calls Try.prog 62 #[v] w fun e w' => e = .returned (sp (-mostL (-0) (-1) ls) (mostL 0 1 ls)) ∧ Below w.heap.size w w' := by
  have HV := Lib.hid hv
  have HL := Lib.hid hl
  obtain ⟨X, hX⟩ : ∃ X, mostL 0 1 ls = X := ⟨_, rfl⟩
  obtain ⟨Y, hY⟩ : ∃ Y, -mostL (-0) (-1) ls = Y := ⟨_, rfl⟩
  have HX := Lib.hid hX
  have HY := Lib.hid hY
  rw [hX, hY]
  clear hv hl hX hY
  go_enter Try.func62, Try.ntmps62
  go_wp2_with fail
  refine (ends_any 0 1 v ls _ (ldLater HV.out (by go_grown)) h50 scb01 HL.out).mono ?_
  rintro e w1 ⟨rfl, hb1⟩
  rw [HX.out, HY.out]
  have hB1 : Below w.heap.size w w1 := (after (w := w) (by go_grown) hb1).1
  obtain ⟨z0, z1, f0, f1⟩ := show Box2 w1 w.heap.size 0 0 from Box2.later ⟨by go_cell, by go_cell, by go_cell, by go_cell⟩ hb1
  clear hb1
  go_wp2_with fail
  exact bodyPost_ret (v := sp Y X) (by simp [results, Try.results62, go_sem, *]) rfl ⟨rfl, by go_grown⟩

/-- What Balance returns. -/
def heavyS (ls : List Ld) : Int × Int := if loadsN ls = 0 then (-mostL (-1) (-0) ls, mostL 1 0 ls) else (0, 0)
def momentS (ls : List Ld) : Int × Int := if loadsN ls = 0 then (-mostL (-0) (-1) ls, mostL 0 1 ls) else (0, 0)
set_option maxHeartbeats 2000000 in
theorem balance_any (v : Value) (ls : List Ld) (w : World) (hv : SlLd w v ls) :
    Calls Try.prog 22 #[v] w fun e w' => e = .returned (.tuple #[sp (heavyS ls).1 (heavyS ls).2, sp (momentS ls).1 (momentS ls).2, .int .i64 (loadsN ls)]) ∧ Below w.heap.size w w' := by
  have HV := Lib.hid hv
  obtain ⟨n, hn⟩ : ∃ n, loadsN ls = n := ⟨_, rfl⟩
  have HN := Lib.hid hn
  unfold heavyS momentS
  rw [hn]
  clear hv
  by_cases h0 : n = 0
  · subst h0
    obtain ⟨h40, hok⟩ := loadsN_ok hn
    rw [if_pos rfl, if_pos rfl]
    obtain ⟨A, hA⟩ : ∃ X, -mostL (-1) (-0) ls = X := ⟨_, rfl⟩
    obtain ⟨B, hB⟩ : ∃ X, mostL 1 0 ls = X := ⟨_, rfl⟩
    obtain ⟨C, hC⟩ : ∃ X, -mostL (-0) (-1) ls = X := ⟨_, rfl⟩
    obtain ⟨D, hD⟩ : ∃ X, mostL 0 1 ls = X := ⟨_, rfl⟩
    have HA := Lib.hid hA
    have HB := Lib.hid hB
    have HC := Lib.hid hC
    have HD := Lib.hid hD
    have HL := Lib.hid (loads_bound hok)
    rw [hA, hB, hC, hD]
    clear hA hB hC hD hok hn
    go_enter Try.func22, Try.ntmps22
    go_wp2_with fail
    refine (checkLd_any v ls _ (ldLater HV.out (by go_grown))).mono ?_
    rintro e w1 ⟨rfl, hb1⟩
    rw [HN.out]
    have hB1 : Below w.heap.size w w1 := (after (w := w) (by go_grown) hb1).1
    have R1 := Lib.hid (show Box2 w1 w.heap.size 0 0 from Box2.later ⟨by go_cell, by go_cell, by go_cell, by go_cell⟩ hb1)
    have R2 := Lib.hid (show Box2 w1 (w.heap.size + 1) 0 0 from Box2.later ⟨by go_cell, by go_cell, by go_cell, by go_cell⟩ hb1)
    clear hb1
    go_wp2_with fail
    refine (heavinessOf_any v ls _ (ldLater HV.out hB1) (by omega) HL.out).mono ?_
    rintro e w2 ⟨rfl, hb2⟩
    rw [HA.out, HB.out]
    have hB2 : Below w.heap.size w w2 := hB1.trans (hb2.mono hB1.size)
    replace R1 := Lib.hid (R1.out.later hb2)
    replace R2 := Lib.hid (R2.out.later hb2)
    clear hb2 hB1
    go_wp2_with fail
    refine (momentOf_any v ls _ (ldLater HV.out hB2) (by omega) HL.out).mono ?_
    rintro e w3 ⟨rfl, hb3⟩
    rw [HC.out, HD.out]
    have hB3 : Below w.heap.size w w3 := hB2.trans (hb3.mono hB2.size)
    obtain ⟨r0, r1, f0, f1⟩ := R1.out.later hb3
    obtain ⟨s0, s1, g0, g1⟩ := R2.out.later hb3
    clear hb3 hB2
    have z1 := World.block_lt_of_cell? _ _ s0
    go_wp2_with fail
    exact bodyPost_ret (v := .tuple #[sp A B, sp C D, .int .i64 0]) (by simp [results, Try.results22, go_sem, *]) rfl ⟨rfl, by go_grown⟩
  · rw [if_neg h0, if_neg h0]
    clear hn
    go_enter Try.func22, Try.ntmps22
    go_wp2_with fail
    refine (checkLd_any v ls _ (ldLater HV.out (by go_grown))).mono ?_
    rintro e w1 ⟨rfl, hb1⟩
    rw [HN.out]
    have hB1 : Below w.heap.size w w1 := (after (w := w) (by go_grown) hb1).1
    obtain ⟨r0, r1, f0, f1⟩ := show Box2 w1 w.heap.size 0 0 from Box2.later ⟨by go_cell, by go_cell, by go_cell, by go_cell⟩ hb1
    obtain ⟨s0, s1, g0, g1⟩ := show Box2 w1 (w.heap.size + 1) 0 0 from Box2.later ⟨by go_cell, by go_cell, by go_cell, by go_cell⟩ hb1
    have z1 := World.block_lt_of_cell? _ _ s0
    clear hb1
    go_wp2_with fail
    exact bodyPost_ret (v := .tuple #[sp 0 0, sp 0 0, .int .i64 n]) (by simp [results, Try.results22, go_sem, *]) rfl ⟨rfl, by go_grown⟩
end Go.Proofs.Ytldnpnplgfkebaa
