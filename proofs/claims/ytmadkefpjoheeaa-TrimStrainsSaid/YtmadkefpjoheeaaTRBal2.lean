/- The reference of layer 4: Balance, the walk. -/
import Derived.Test.YtmadkefpjoheeaaTRBal
import Derived.Test.YtmadkefpjoheeaaTail
import Derived.Test.YtmadkefpjoheeaaTCorn
namespace Go.Proofs.Ytmadkefpjoheeaa
open Go.RowKit

/-- What stands while loads are summed up. -/
structure RbS (w wr : World) (n6 : Nat) (h0 h1 m0 m1 : Int) : Prop where
  below : Below w.heap.size w wr
  r1 : Box2 wr w.heap.size 0 0
  r2 : Box2 wr (w.heap.size + 1) 0 0
  h : Box2 wr n6 h0 h1
  m : Box2 wr (n6 + 1) m0 m1
  lt : w.heap.size + 1 < n6
theorem Box2.far {w : World} {B n o : Nat} {x y : Int} (k : Box2 w B x y) (h : B ≠ n) (v : Value) : Box2 (w.setCell ⟨n, o, none⟩ v) B x y :=
  ⟨by rw [cell_far _ _ h]; exact k.c0, by rw [cell_far _ _ h]; exact k.c1, by simpa using k.f0, by simpa using k.f1⟩
theorem Box2.set0 {w : World} {B : Nat} {x y : Int} (k : Box2 w B x y) (z : Int) : Box2 (w.setCell ⟨B, 0, none⟩ (.int .i64 z)) B z y := by
  obtain ⟨c0, c1, f0, f1⟩ := k
  exact ⟨by go_cell, by go_cell, by go_cell, by go_cell⟩
theorem Box2.set1 {w : World} {B : Nat} {x y : Int} (k : Box2 w B x y) (z : Int) : Box2 (w.setCell ⟨B, 1, none⟩ (.int .i64 z)) B x z := by
  obtain ⟨c0, c1, f0, f1⟩ := k
  exact ⟨by go_cell, by go_cell, by go_cell, by go_cell⟩
section
variable {w wr w1 : World} {n6 : Nat} {h0 h1 m0 m1 : Int}
theorem RbS.later (k : RbS w wr n6 h0 h1 m0 m1) (hb : Below wr.heap.size wr w1) : RbS w w1 n6 h0 h1 m0 m1 :=
  ⟨k.below.trans (hb.mono k.below.size), k.r1.later hb, k.r2.later hb, k.h.later hb, k.m.later hb, k.lt⟩
theorem RbS.drewN (k : RbS w wr n6 h0 h1 m0 m1) (n : Nat) : RbS w (wr.drewN n) n6 h0 h1 m0 m1 := k.later (below_drewN (Below.refl _ _) n)
theorem RbS.drew (k : RbS w wr n6 h0 h1 m0 m1) : RbS w wr.drew n6 h0 h1 m0 m1 := k.later (below_drewN (Below.refl _ _) 1)
theorem RbS.sb (k : RbS w wr n6 h0 h1 m0 m1) {n o : Nat} (hn : n6 ≤ n) (v : Value) : Below w.heap.size w (wr.setCell ⟨n, o, none⟩ v) := k.below.setCell (by have := k.lt; simp; omega) v
theorem RbS.h0' (k : RbS w wr n6 h0 h1 m0 m1) (z : Int) : RbS w (wr.setCell ⟨n6, 0, none⟩ (.int .i64 z)) n6 z h1 m0 m1 :=
  ⟨k.sb (Nat.le_refl _) _, k.r1.far (by have := k.lt; omega) _, k.r2.far (by have := k.lt; omega) _, k.h.set0 z, k.m.far (by omega) _, k.lt⟩
theorem RbS.h1' (k : RbS w wr n6 h0 h1 m0 m1) (z : Int) : RbS w (wr.setCell ⟨n6, 1, none⟩ (.int .i64 z)) n6 h0 z m0 m1 :=
  ⟨k.sb (Nat.le_refl _) _, k.r1.far (by have := k.lt; omega) _, k.r2.far (by have := k.lt; omega) _, k.h.set1 z, k.m.far (by omega) _, k.lt⟩
theorem RbS.m0' (k : RbS w wr n6 h0 h1 m0 m1) (z : Int) : RbS w (wr.setCell ⟨n6 + 1, 0, none⟩ (.int .i64 z)) n6 h0 h1 z m1 :=
  ⟨k.sb (Nat.le_succ _) _, k.r1.far (by have := k.lt; omega) _, k.r2.far (by have := k.lt; omega) _, k.h.far (by omega) _, k.m.set0 z, k.lt⟩
theorem RbS.m1' (k : RbS w wr n6 h0 h1 m0 m1) (z : Int) : RbS w (wr.setCell ⟨n6 + 1, 1, none⟩ (.int .i64 z)) n6 h0 h1 m0 z :=
  ⟨k.sb (Nat.le_succ _) _, k.r1.far (by have := k.lt; omega) _, k.r2.far (by have := k.lt; omega) _, k.h.far (by omega) _, k.m.set1 z, k.lt⟩
end
def RbHead (ls : List Ld) (w : World) (n6 : Nat) (wr : World) (v : Value) : Prop := ∃ k : Nat, k ≤ ls.length ∧ v = .int .i64 k ∧ RbS w wr n6 (sumE Ld.w0 (ls.take k)) (sumE Ld.w1 (ls.take k)) (sumE loE (ls.take k)) (sumE hiE (ls.take k))
/-- min and max as they run. -/
def mn (x y : Int) : Int := if y < x then y else x
def mx (x y : Int) : Int := if x < y then y else x
def loTo (l : Ld) (j : Nat) : Int :=
  if j = 1 then prodE ⟨l.a0, l.w0⟩ else if j = 2 then mn (prodE ⟨l.a0, l.w0⟩) (prodE ⟨l.a1, l.w0⟩) else if j = 3 then mn (mn (prodE ⟨l.a0, l.w0⟩) (prodE ⟨l.a1, l.w0⟩)) (prodE ⟨l.a0, l.w1⟩) else mn (mn (mn (prodE ⟨l.a0, l.w0⟩) (prodE ⟨l.a1, l.w0⟩)) (prodE ⟨l.a0, l.w1⟩)) (prodE ⟨l.a1, l.w1⟩)
def hiTo (l : Ld) (j : Nat) : Int :=
  if j = 1 then prodE ⟨l.a0, l.w0⟩ else if j = 2 then mx (prodE ⟨l.a0, l.w0⟩) (prodE ⟨l.a1, l.w0⟩) else if j = 3 then mx (mx (prodE ⟨l.a0, l.w0⟩) (prodE ⟨l.a1, l.w0⟩)) (prodE ⟨l.a0, l.w1⟩) else mx (mx (mx (prodE ⟨l.a0, l.w0⟩) (prodE ⟨l.a1, l.w0⟩)) (prodE ⟨l.a0, l.w1⟩)) (prodE ⟨l.a1, l.w1⟩)
theorem mn_is (x y : Int) : mn x y = min x y := by unfold mn; split <;> omega
theorem mx_is (x y : Int) : mx x y = max x y := by unfold mx; split <;> omega
theorem loTo4 (l : Ld) : loTo l 4 = loE l := by unfold loTo loE; simp only [mn_is]; rfl
theorem hiTo4 (l : Ld) : hiTo l 4 = hiE l := by unfold hiTo hiE; simp only [mx_is]; rfl
theorem prod_bd {p : Pu} (h : PuB p) : -42949672960000 ≤ prodE p ∧ prodE p ≤ 42949672960000 := by
  obtain ⟨a, b, c, d⟩ := h
  have := mul_lim (m := 40000) (n := 1073741824) a b c d
  unfold prodE; omega
theorem wrap_prod {a b : Int} (h : PuB ⟨a, b⟩) : IntKind.i64.wrap (a * b) = prodE ⟨a, b⟩ := by
  have h1 : -42949672960000 ≤ a * b ∧ a * b ≤ 42949672960000 := prod_bd h
  show IntKind.i64.wrap (a * b) = a * b
  exact IntWalk.i64_in _ ⟨by omega, by omega⟩
theorem loTo2 (l : Ld) : loTo l 2 = mn (loTo l 1) (prodE ⟨l.a1, l.w0⟩) := rfl
theorem loTo3 (l : Ld) : loTo l 3 = mn (loTo l 2) (prodE ⟨l.a0, l.w1⟩) := rfl
theorem loTo4' (l : Ld) : loTo l 4 = mn (loTo l 3) (prodE ⟨l.a1, l.w1⟩) := rfl
theorem hiTo2 (l : Ld) : hiTo l 2 = mx (hiTo l 1) (prodE ⟨l.a1, l.w0⟩) := rfl
theorem hiTo3 (l : Ld) : hiTo l 3 = mx (hiTo l 2) (prodE ⟨l.a0, l.w1⟩) := rfl
theorem hiTo4' (l : Ld) : hiTo l 4 = mx (hiTo l 3) (prodE ⟨l.a1, l.w1⟩) := rfl
theorem lohi_bd {l : Ld} (h : LdB l) : (-42949672960000 ≤ loE l ∧ loE l ≤ 42949672960000) ∧ (-42949672960000 ≤ hiE l ∧ hiE l ≤ 42949672960000) := by
  have h0 := prod_bd (corner_bound h ⟨l.a0, l.w0⟩ (by simp [cornersP]))
  have h1 := prod_bd (corner_bound h ⟨l.a1, l.w0⟩ (by simp [cornersP]))
  have h2 := prod_bd (corner_bound h ⟨l.a0, l.w1⟩ (by simp [cornersP]))
  have h3 := prod_bd (corner_bound h ⟨l.a1, l.w1⟩ (by simp [cornersP]))
  unfold loE hiE
  omega
theorem sums_bd {f : Ld → Int} {ls : List Ld} (k : Nat) (hf : ∀ l, l ∈ ls → -42949672960000 ≤ f l ∧ f l ≤ 42949672960000) (h50 : ls.length ≤ 50) : -2147483648000000 ≤ sumE f (ls.take k) ∧ sumE f (ls.take k) ≤ 2147483648000000 := by
  have := sum_bound (f := f) (m := 42949672960000) (ls.take k) (fun x hx => hf x (List.mem_of_mem_take hx))
  have h1 : (ls.take k).length ≤ 50 := by rw [List.length_take]; omega
  omega
/-- The head of the loop over corners. -/
def RbIn (l : Ld) (w : World) (n6 g : Nat) (h0 h1 m0 m1 : Int) (wr : World) (v10 v11 v12 : Value) : Prop := ∃ j : Nat, (j = 1 ∨ j = 2 ∨ j = 3 ∨ j = 4) ∧ v12 = .int .i64 j ∧ v10 = .int .i64 (loTo l j) ∧ v11 = .int .i64 (hiTo l j) ∧ RbS w wr n6 h0 h1 m0 m1 ∧ Corns wr g l

set_option linter.unusedSimpArgs false in
set_option maxRecDepth 100000 in
set_option maxHeartbeats 8000000 in
theorem rbalance_any (v : Value) (ls : List Ld) (w : World) (hv : SlLd w v ls) :
    Calls Try.prog 23 #[v] w fun e w' => e = .returned (.tuple #[sp (heavyS ls).1 (heavyS ls).2, sp (momentS ls).1 (momentS ls).2, .int .i64 (loadsN ls)]) ∧ Below w.heap.size w w' := by
  have HV := Lib.hid hv
  obtain ⟨n, hn⟩ : ∃ n, loadsN ls = n := ⟨_, rfl⟩
  have HN := Lib.hid hn
  by_cases h0 : n = 0
  rotate_left 1
  · unfold heavyS momentS
    rw [hn]
    rw [if_neg h0, if_neg h0]
    clear hn hv
    go_enter Try.func23, Try.ntmps23
    go_wp2_with fail
    refine (rcheckLd_any v ls _ (ldLater HV.out (by go_grown))).mono ?_
    rintro e w1 ⟨rfl, hb1⟩
    rw [HN.out]
    have hB1 : Below w.heap.size w w1 := (after (w := w) (by go_grown) hb1).1
    obtain ⟨r0, r1, f0, f1⟩ := show Box2 w1 w.heap.size 0 0 from Box2.later ⟨by go_cell, by go_cell, by go_cell, by go_cell⟩ hb1
    obtain ⟨s0, s1, g0, g1⟩ := show Box2 w1 (w.heap.size + 1) 0 0 from Box2.later ⟨by go_cell, by go_cell, by go_cell, by go_cell⟩ hb1
    have z1 := World.block_lt_of_cell? _ _ s0
    clear hb1
    go_wp2_with fail
    exact bodyPost_ret (v := .tuple #[sp 0 0, sp 0 0, .int .i64 n]) (by simp [results, Try.results23, go_sem, *]) rfl ⟨rfl, by go_grown⟩
  subst h0
  rw [heavy_is hn, moment_is hn, hn]
  obtain ⟨h40, hok⟩ := loadsN_ok hn
  have HL := Lib.hid (loads_bound hok)
  obtain ⟨ad, cap, rfl, hlen, hcap⟩ := hv.form
  obtain ⟨A, hA⟩ : ∃ X, sumE Ld.w0 ls = X := ⟨_, rfl⟩
  obtain ⟨B, hB⟩ : ∃ X, sumE Ld.w1 ls = X := ⟨_, rfl⟩
  obtain ⟨C, hC⟩ : ∃ X, sumE loE ls = X := ⟨_, rfl⟩
  obtain ⟨D, hD⟩ : ∃ X, sumE hiE ls = X := ⟨_, rfl⟩
  have HA := Lib.hid hA
  have HB := Lib.hid hB
  have HC := Lib.hid hC
  have HD := Lib.hid hD
  rw [hA, hB, hC, hD]
  clear hA hB hC hD hok hn hv
  go_enter Try.func23, Try.ntmps23
  go_wp2_with fail
  refine (rcheckLd_any _ ls _ (ldLater HV.out (by go_grown))).mono ?_
  rintro e w1 ⟨rfl, hb1⟩
  rw [HN.out]
  have hB1 : Below w.heap.size w w1 := (after (w := w) (by go_grown) hb1).1
  have R1 := Lib.hid (show Box2 w1 w.heap.size 0 0 from Box2.later ⟨by go_cell, by go_cell, by go_cell, by go_cell⟩ hb1)
  have R2 := Lib.hid (show Box2 w1 (w.heap.size + 1) 0 0 from Box2.later ⟨by go_cell, by go_cell, by go_cell, by go_cell⟩ hb1)
  have z1 := R2.out.lt
  clear hb1
  go_wp2_with fail
  go_loopw [8] (fun v8 wr => RbHead ls w w1.heap.size wr v8) (fun v8 _ => ls.length - (intOf v8).toNat)
  case atStart =>
    have hb9 : Below w1.heap.size w1 ((w1.alloc (.cells #[.int .i64 0, .int .i64 0] 37)).alloc (.cells #[.int .i64 0, .int .i64 0] 37)) := by go_grown
    have hs9 : RbS w ((w1.alloc (.cells #[.int .i64 0, .int .i64 0] 37)).alloc (.cells #[.int .i64 0, .int .i64 0] 37)) w1.heap.size 0 0 0 0 := ⟨by have := hB1.size; go_grown, R1.out.later hb9, R2.out.later hb9, ⟨by go_cell, by go_cell, by go_cell, by go_cell⟩, ⟨by go_cell, by go_cell, by go_cell, by go_cell⟩, z1⟩
    exact ⟨0, by omega, rfl, hs9⟩
  case round =>
    obtain ⟨k, hk, rfl, hS⟩ := hrel
    generalize wr = wo at *
    clear R1 R2 z1 hB1
    have HS := Lib.hid hS
    clear hS
    by_cases hlt : k < ls.length
    rotate_left 1
    · have hk9 : ls.take k = ls := List.take_of_length_le (by omega)
      rw [hk9, HA.out, HB.out, HC.out, HD.out] at HS
      obtain ⟨y0, y1, yf0, yf1⟩ := HS.out.h
      obtain ⟨t0, t1, tf0, tf1⟩ := HS.out.m
      obtain ⟨r0, r1, rf0, rf1⟩ := HS.out.r1
      obtain ⟨q0, q1, qf0, qf1⟩ := HS.out.r2
      have q9 := HS.out.lt
      have n1 : w.heap.size ≠ w1.heap.size := by omega
      have n2 : w.heap.size ≠ w1.heap.size + 1 := by omega
      have n3 : w.heap.size + 1 ≠ w1.heap.size := by omega
      have n4 : w1.heap.size ≠ w.heap.size := by omega
      have n5 : w1.heap.size + 1 ≠ w.heap.size := by omega
      have n6 : w1.heap.size ≠ w.heap.size + 1 := by omega
      have hbe := HS.out.below
      have hbz := hbe.size
      have z0 := World.block_lt_of_cell? _ _ r0
      have z1 := World.block_lt_of_cell? _ _ q0
      clear hk9
      go_wp2_with fail
      go_region
      all_goals go_wp2_with fail
      all_goals exact bodyPost_ret (v := .tuple #[sp A B, sp C D, .int .i64 0]) (by simp [results, Try.results23, go_sem, *]) rfl ⟨rfl, by go_grown⟩
    obtain ⟨bk, off, c, rfl, hb, hc, hat⟩ := HV.out.at hlt
    have HLc := Lib.hid (HL.out c (List.mem_of_getElem? hc))
    have HAt := Lib.hid hat
    have hlt' : (k : Int) < (ls.length : Int) := by omega
    have hk0 : (0 : Int) ≤ (k : Int) := by omega
    have hkt : ((k : Int).toNat) = k := by omega
    have T0 := Lib.hid (sum_take (f := Ld.w0) hc)
    have T1 := Lib.hid (sum_take (f := Ld.w1) hc)
    have T2 := Lib.hid (sum_take (f := loE) hc)
    have T3 := Lib.hid (sum_take (f := hiE) hc)
    have b0 := sums_bd (f := Ld.w0) k (fun l hl => by have := (HL.out l hl).w0; omega) (by omega)
    have b1 := sums_bd (f := Ld.w1) k (fun l hl => by have := (HL.out l hl).w1; omega) (by omega)
    have b2 := sums_bd (f := loE) k (fun l hl => (lohi_bd (HL.out l hl)).1) (by omega)
    have b3 := sums_bd (f := hiE) k (fun l hl => (lohi_bd (HL.out l hl)).2) (by omega)
    obtain ⟨s0, e0⟩ : ∃ X, sumE Ld.w0 (ls.take k) = X := ⟨_, rfl⟩
    obtain ⟨s1, e1⟩ : ∃ X, sumE Ld.w1 (ls.take k) = X := ⟨_, rfl⟩
    obtain ⟨s2, e2⟩ : ∃ X, sumE loE (ls.take k) = X := ⟨_, rfl⟩
    obtain ⟨s3, e3⟩ : ∃ X, sumE hiE (ls.take k) = X := ⟨_, rfl⟩
    rw [e0] at b0 T0 HS
    rw [e1] at b1 T1 HS
    rw [e2] at b2 T2 HS
    rw [e3] at b3 T3 HS
    have l0 := HLc.out.w0
    have l1 := HLc.out.w1
    have g0 : IntKind.i64.wrap (s0 + c.w0) = s0 + c.w0 := IntWalk.i64_in _ ⟨by omega, by omega⟩
    have g1 : IntKind.i64.wrap (s1 + c.w1) = s1 + c.w1 := IntWalk.i64_in _ ⟨by omega, by omega⟩
    have G0 := Lib.hid g0
    have G1 := Lib.hid g1
    clear hc hat e0 e1 e2 e3 g0 g1
    obtain ⟨c0, c1, c2, c3⟩ := LdAt.later HAt.out (show Below w.heap.size w wo from HS.out.below)
    obtain ⟨y0, y1, yf0, yf1⟩ := HS.out.h
    go_wp2_with fail
    have g0 := G0.out
    refine AnyT.begin (fun w' => w' = World.drew _) 10 (by kernel_rfl) rfl (fun hHeld => ?_)
    refine AnyT.take (i := 0) (oi := _) (v := ?_) rfl (by kernel_rfl) (by kernel_rfl) (by kernel_rfl) (by kernel_rfl) (fun _ _ _ h => h) (Or.inl ⟨by kernel_rfl, ?_⟩) (by assumption) ?_
    rotate_left 1
    · intro wz hSw; subst hSw; go_simp; try with_reducible rfl
    try simp only [Act.put, List.setIfInBounds_toArray, List.set_cons_zero, List.set_cons_succ]
    refine AnyT.take (i := 1) (oi := _) (v := ?_) rfl (by kernel_rfl) (by kernel_rfl) (by kernel_rfl) (by kernel_rfl) (fun _ _ _ h => h) (Or.inl ⟨by kernel_rfl, ?_⟩) (by assumption) ?_
    rotate_left 1
    · intro wz hSw; subst hSw; go_simp; try with_reducible rfl
    try simp only [Act.put, List.setIfInBounds_toArray, List.set_cons_zero, List.set_cons_succ]
    refine AnyT.take (i := 2) (oi := _) (v := ?_) rfl (by kernel_rfl) (by kernel_rfl) (by kernel_rfl) (by kernel_rfl) (fun _ _ _ h => h) (Or.inl ⟨by kernel_rfl, ?_⟩) (by assumption) ?_
    rotate_left 1
    · intro wz hSw; subst hSw; go_simp; try with_reducible rfl
    try simp only [Act.put, List.setIfInBounds_toArray, List.set_cons_zero, List.set_cons_succ]
    refine AnyT.take (i := 3) (oi := _) (v := ?_) rfl (by kernel_rfl) (by kernel_rfl) (by kernel_rfl) (by kernel_rfl) (fun _ _ _ h => h) (Or.inl ⟨by kernel_rfl, ?_⟩) (by assumption) ?_
    rotate_left 1
    · intro wz hSw; subst hSw; go_simp; try with_reducible rfl
    try simp only [Act.put, List.setIfInBounds_toArray, List.set_cons_zero, List.set_cons_succ]
    refine AnyT.take (i := 4) (oi := _) (v := ?_) rfl (by kernel_rfl) (by kernel_rfl) (by kernel_rfl) (by kernel_rfl) (fun _ _ _ h => h) (Or.inl ⟨by kernel_rfl, ?_⟩) (by assumption) ?_
    rotate_left 1
    · intro wz hSw; subst hSw; go_simp; try with_reducible rfl
    try simp only [Act.put, List.setIfInBounds_toArray, List.set_cons_zero, List.set_cons_succ]
    refine AnyT.take (i := 5) (oi := _) (v := ?_) rfl (by kernel_rfl) (by kernel_rfl) (by kernel_rfl) (by kernel_rfl) (fun _ _ _ h => h) (Or.inl ⟨by kernel_rfl, ?_⟩) (by assumption) ?_
    rotate_left 1
    · intro wz hSw; subst hSw; go_simp; try with_reducible rfl
    try simp only [Act.put, List.setIfInBounds_toArray, List.set_cons_zero, List.set_cons_succ]
    refine AnyT.take (i := 6) (oi := _) (v := ?_) rfl (by kernel_rfl) (by kernel_rfl) (by kernel_rfl) (by kernel_rfl) (fun _ _ _ h => h) (Or.inl ⟨by kernel_rfl, ?_⟩) (by assumption) ?_
    rotate_left 1
    · intro wz hSw; subst hSw; go_simp; try with_reducible rfl
    try simp only [Act.put, List.setIfInBounds_toArray, List.set_cons_zero, List.set_cons_succ]
    refine AnyT.take (i := 7) (oi := _) (v := ?_) rfl (by kernel_rfl) (by kernel_rfl) (by kernel_rfl) (by kernel_rfl) (fun _ _ _ h => h) (Or.inl ⟨by kernel_rfl, ?_⟩) (by assumption) ?_
    rotate_left 1
    · intro wz hSw; subst hSw; go_simp; try with_reducible rfl
    try simp only [Act.put, List.setIfInBounds_toArray, List.set_cons_zero, List.set_cons_succ]
    refine AnyT.take (i := 8) (oi := _) (v := ?_) rfl (by kernel_rfl) (by kernel_rfl) (by kernel_rfl) (by kernel_rfl) (fun _ _ _ h => h) (Or.inl ⟨by kernel_rfl, ?_⟩) (by assumption) ?_
    rotate_left 1
    · intro wz hSw; subst hSw; go_simp; try with_reducible rfl
    try simp only [Act.put, List.setIfInBounds_toArray, List.set_cons_zero, List.set_cons_succ]
    refine AnyT.take (i := 9) (oi := _) (v := ?_) rfl (by kernel_rfl) (by kernel_rfl) (by kernel_rfl) (by kernel_rfl) (fun _ _ _ h => h) (Or.inl ⟨by kernel_rfl, ?_⟩) (by assumption) ?_
    rotate_left 1
    · intro wz hSw; subst hSw; go_simp; try with_reducible rfl
    try simp only [Act.put, List.setIfInBounds_toArray, List.set_cons_zero, List.set_cons_succ]
    clear hHeld
    refine AnyT.one (i := 10) (o := _) rfl (by kernel_rfl) (fun K hK => ?_)
    go_simp
    refine hK.out _ _ (fun h => absurd rfl h) ?_
    clear hK K
    refine AnyT.done (by kernel_rfl) ?_
    try simp only [Act.put, List.setIfInBounds_toArray, List.set_cons_zero, List.set_cons_succ]
    have hS1 := (HS.out.h0' (s0 + c.w0)).drew
    clear g0 c0 c1 c2 c3 y0 y1 yf0 yf1 HS
    generalize (wo.setCell ⟨w1.heap.size, 0, none⟩ (.int .i64 (s0 + c.w0))).drew = wa at *
    have HS := Lib.hid hS1
    clear hS1
    obtain ⟨c0, c1, c2, c3⟩ := LdAt.later HAt.out (show Below w.heap.size w wa from HS.out.below)
    obtain ⟨y0, y1, yf0, yf1⟩ := HS.out.h
    go_wp2_with fail
    have g1 := G1.out
    refine AnyT.begin (fun w' => w' = World.drew _) 10 (by kernel_rfl) rfl (fun hHeld => ?_)
    refine AnyT.take (i := 0) (oi := _) (v := ?_) rfl (by kernel_rfl) (by kernel_rfl) (by kernel_rfl) (by kernel_rfl) (fun _ _ _ h => h) (Or.inl ⟨by kernel_rfl, ?_⟩) (by assumption) ?_
    rotate_left 1
    · intro wz hSw; subst hSw; go_simp; try with_reducible rfl
    try simp only [Act.put, List.setIfInBounds_toArray, List.set_cons_zero, List.set_cons_succ]
    refine AnyT.take (i := 1) (oi := _) (v := ?_) rfl (by kernel_rfl) (by kernel_rfl) (by kernel_rfl) (by kernel_rfl) (fun _ _ _ h => h) (Or.inl ⟨by kernel_rfl, ?_⟩) (by assumption) ?_
    rotate_left 1
    · intro wz hSw; subst hSw; go_simp; try with_reducible rfl
    try simp only [Act.put, List.setIfInBounds_toArray, List.set_cons_zero, List.set_cons_succ]
    refine AnyT.take (i := 2) (oi := _) (v := ?_) rfl (by kernel_rfl) (by kernel_rfl) (by kernel_rfl) (by kernel_rfl) (fun _ _ _ h => h) (Or.inl ⟨by kernel_rfl, ?_⟩) (by assumption) ?_
    rotate_left 1
    · intro wz hSw; subst hSw; go_simp; try with_reducible rfl
    try simp only [Act.put, List.setIfInBounds_toArray, List.set_cons_zero, List.set_cons_succ]
    refine AnyT.take (i := 3) (oi := _) (v := ?_) rfl (by kernel_rfl) (by kernel_rfl) (by kernel_rfl) (by kernel_rfl) (fun _ _ _ h => h) (Or.inl ⟨by kernel_rfl, ?_⟩) (by assumption) ?_
    rotate_left 1
    · intro wz hSw; subst hSw; go_simp; try with_reducible rfl
    try simp only [Act.put, List.setIfInBounds_toArray, List.set_cons_zero, List.set_cons_succ]
    refine AnyT.take (i := 4) (oi := _) (v := ?_) rfl (by kernel_rfl) (by kernel_rfl) (by kernel_rfl) (by kernel_rfl) (fun _ _ _ h => h) (Or.inl ⟨by kernel_rfl, ?_⟩) (by assumption) ?_
    rotate_left 1
    · intro wz hSw; subst hSw; go_simp; try with_reducible rfl
    try simp only [Act.put, List.setIfInBounds_toArray, List.set_cons_zero, List.set_cons_succ]
    refine AnyT.take (i := 5) (oi := _) (v := ?_) rfl (by kernel_rfl) (by kernel_rfl) (by kernel_rfl) (by kernel_rfl) (fun _ _ _ h => h) (Or.inl ⟨by kernel_rfl, ?_⟩) (by assumption) ?_
    rotate_left 1
    · intro wz hSw; subst hSw; go_simp; try with_reducible rfl
    try simp only [Act.put, List.setIfInBounds_toArray, List.set_cons_zero, List.set_cons_succ]
    refine AnyT.take (i := 6) (oi := _) (v := ?_) rfl (by kernel_rfl) (by kernel_rfl) (by kernel_rfl) (by kernel_rfl) (fun _ _ _ h => h) (Or.inl ⟨by kernel_rfl, ?_⟩) (by assumption) ?_
    rotate_left 1
    · intro wz hSw; subst hSw; go_simp; try with_reducible rfl
    try simp only [Act.put, List.setIfInBounds_toArray, List.set_cons_zero, List.set_cons_succ]
    refine AnyT.take (i := 7) (oi := _) (v := ?_) rfl (by kernel_rfl) (by kernel_rfl) (by kernel_rfl) (by kernel_rfl) (fun _ _ _ h => h) (Or.inl ⟨by kernel_rfl, ?_⟩) (by assumption) ?_
    rotate_left 1
    · intro wz hSw; subst hSw; go_simp; try with_reducible rfl
    try simp only [Act.put, List.setIfInBounds_toArray, List.set_cons_zero, List.set_cons_succ]
    refine AnyT.take (i := 8) (oi := _) (v := ?_) rfl (by kernel_rfl) (by kernel_rfl) (by kernel_rfl) (by kernel_rfl) (fun _ _ _ h => h) (Or.inl ⟨by kernel_rfl, ?_⟩) (by assumption) ?_
    rotate_left 1
    · intro wz hSw; subst hSw; go_simp; try with_reducible rfl
    try simp only [Act.put, List.setIfInBounds_toArray, List.set_cons_zero, List.set_cons_succ]
    refine AnyT.take (i := 9) (oi := _) (v := ?_) rfl (by kernel_rfl) (by kernel_rfl) (by kernel_rfl) (by kernel_rfl) (fun _ _ _ h => h) (Or.inl ⟨by kernel_rfl, ?_⟩) (by assumption) ?_
    rotate_left 1
    · intro wz hSw; subst hSw; go_simp; try with_reducible rfl
    try simp only [Act.put, List.setIfInBounds_toArray, List.set_cons_zero, List.set_cons_succ]
    clear hHeld
    refine AnyT.one (i := 10) (o := _) rfl (by kernel_rfl) (fun K hK => ?_)
    go_simp
    refine hK.out _ _ (fun h => absurd rfl h) ?_
    clear hK K
    refine AnyT.done (by kernel_rfl) ?_
    try simp only [Act.put, List.setIfInBounds_toArray, List.set_cons_zero, List.set_cons_succ]
    have hS1 := (HS.out.h1' (s1 + c.w1)).drew
    clear g1 c0 c1 c2 c3 y0 y1 yf0 yf1 HS
    generalize (wa.setCell ⟨w1.heap.size, 1, none⟩ (.int .i64 (s1 + c.w1))).drew = wb at *
    have HS := Lib.hid hS1
    clear hS1
    obtain ⟨c0, c1, c2, c3⟩ := LdAt.later HAt.out (show Below w.heap.size w wb from HS.out.below)
    go_wp2_with fail
    refine (rcorners_any c _).mono ?_
    rintro e w2 ⟨g, rfl, hg, hb2⟩
    have hS2 := HS.out.later hb2
    have HCo := Lib.hid (corns hg)
    clear hg hb2 HS c0 c1 c2 c3
    have HS := Lib.hid hS2
    clear hS2
    have p0 := wrap_prod (corner_bound HLc.out ⟨c.a0, c.w0⟩ (by simp [cornersP]))
    obtain ⟨k0a, k0b⟩ := HCo.out.k0
    have hgz := World.block_lt_of_cell? _ _ k0a
    go_wp2_with fail
    go_quiet (fail)
    have hS3 := HS.out.drewN nq
    have HCo3 := Lib.hid (HCo.out.later (below_drewN (Below.refl _ _) nq))
    clear p0 k0a k0b HS hgz HCo
    generalize w2.drewN nq = w3 at *
    have HS := Lib.hid hS3
    clear hS3
    go_wp2_with fail
    go_loopw [10, 11, 12] (fun v10 v11 v12 wi => RbIn c w w1.heap.size g (s0 + c.w0) (s1 + c.w1) s2 s3 wi v10 v11 v12) (fun _ _ v12 _ => 4 - (intOf v12).toNat)
    case atStart => exact ⟨1, .inl rfl, rfl, rfl, rfl, HS.out, HCo3.out⟩
    case round =>
      obtain ⟨j, hj, rfl, rfl, rfl, hsi, hci⟩ := hrel
      have HSi := Lib.hid hsi
      have HCi := Lib.hid hci
      clear hsi hci HCo3 HS
      rcases hj with rfl | rfl | rfl | rfl
      · skip
        have pp := wrap_prod (corner_bound HLc.out ⟨c.a1, c.w0⟩ (by simp [cornersP]))
        obtain ⟨Y, hY⟩ : ∃ Y, prodE ⟨c.a1, c.w0⟩ = Y := ⟨_, rfl⟩
        rw [hY] at pp
        have HY := Lib.hid hY
        obtain ⟨L, hL⟩ : ∃ Y, loTo c (2 - 1) = Y := ⟨_, rfl⟩
        obtain ⟨U, hU⟩ : ∃ Y, hiTo c (2 - 1) = Y := ⟨_, rfl⟩
        have HLo := Lib.hid hL
        have HUp := Lib.hid hU
        rw [show loTo c (2 - 1) = L from hL, show hiTo c (2 - 1) = U from hU]
        have hgz := World.block_lt_of_cell? _ _ HCi.out.k1.c0
        obtain ⟨q0, q1⟩ := HCi.out.k1
        clear hY hL hU
        go_wp2_with fail
        refine AnyT.begin (fun w' => w' = World.drew _) 13 (by kernel_rfl) rfl (fun hHeld => ?_)
        refine AnyT.take (i := 0) (oi := _) (v := ?_) rfl (by kernel_rfl) (by kernel_rfl) (by kernel_rfl) (by kernel_rfl) (fun _ _ _ h => h) (Or.inl ⟨by kernel_rfl, ?_⟩) (by assumption) ?_
        rotate_left 1
        · intro wz hSw; subst hSw; go_simp; try with_reducible rfl
        try simp only [Act.put, List.setIfInBounds_toArray, List.set_cons_zero, List.set_cons_succ]
        refine AnyT.take (i := 1) (oi := _) (v := ?_) rfl (by kernel_rfl) (by kernel_rfl) (by kernel_rfl) (by kernel_rfl) (fun _ _ _ h => h) (Or.inl ⟨by kernel_rfl, ?_⟩) (by assumption) ?_
        rotate_left 1
        · intro wz hSw; subst hSw; go_simp; try with_reducible rfl
        try simp only [Act.put, List.setIfInBounds_toArray, List.set_cons_zero, List.set_cons_succ]
        refine AnyT.take (i := 2) (oi := _) (v := ?_) rfl (by kernel_rfl) (by kernel_rfl) (by kernel_rfl) (by kernel_rfl) (fun _ _ _ h => h) (Or.inl ⟨by kernel_rfl, ?_⟩) (by assumption) ?_
        rotate_left 1
        · intro wz hSw; subst hSw; go_simp; try with_reducible rfl
        try simp only [Act.put, List.setIfInBounds_toArray, List.set_cons_zero, List.set_cons_succ]
        refine AnyT.take (i := 3) (oi := _) (v := ?_) rfl (by kernel_rfl) (by kernel_rfl) (by kernel_rfl) (by kernel_rfl) (fun _ _ _ h => h) (Or.inl ⟨by kernel_rfl, ?_⟩) (by assumption) ?_
        rotate_left 1
        · intro wz hSw; subst hSw; go_simp; try with_reducible rfl
        try simp only [Act.put, List.setIfInBounds_toArray, List.set_cons_zero, List.set_cons_succ]
        refine AnyT.take (i := 4) (oi := _) (v := ?_) rfl (by kernel_rfl) (by kernel_rfl) (by kernel_rfl) (by kernel_rfl) (fun _ _ _ h => h) (Or.inl ⟨by kernel_rfl, ?_⟩) (by assumption) ?_
        rotate_left 1
        · intro wz hSw; subst hSw; go_simp; try with_reducible rfl
        try simp only [Act.put, List.setIfInBounds_toArray, List.set_cons_zero, List.set_cons_succ]
        refine AnyT.take (i := 5) (oi := _) (v := ?_) rfl (by kernel_rfl) (by kernel_rfl) (by kernel_rfl) (by kernel_rfl) (fun _ _ _ h => h) (Or.inl ⟨by kernel_rfl, ?_⟩) (by assumption) ?_
        rotate_left 1
        · intro wz hSw; subst hSw; go_simp; try with_reducible rfl
        try simp only [Act.put, List.setIfInBounds_toArray, List.set_cons_zero, List.set_cons_succ]
        refine AnyT.take (i := 6) (oi := _) (v := ?_) rfl (by kernel_rfl) (by kernel_rfl) (by kernel_rfl) (by kernel_rfl) (fun _ _ _ h => h) (Or.inl ⟨by kernel_rfl, ?_⟩) (by assumption) ?_
        rotate_left 1
        · intro wz hSw; subst hSw; go_simp; try with_reducible rfl
        try simp only [Act.put, List.setIfInBounds_toArray, List.set_cons_zero, List.set_cons_succ]
        refine AnyT.take (i := 7) (oi := _) (v := ?_) rfl (by kernel_rfl) (by kernel_rfl) (by kernel_rfl) (by kernel_rfl) (fun _ _ _ h => h) (Or.inl ⟨by kernel_rfl, ?_⟩) (by assumption) ?_
        rotate_left 1
        · intro wz hSw; subst hSw; go_simp; try with_reducible rfl
        try simp only [Act.put, List.setIfInBounds_toArray, List.set_cons_zero, List.set_cons_succ]
        refine AnyT.take (i := 8) (oi := _) (v := ?_) rfl (by kernel_rfl) (by kernel_rfl) (by kernel_rfl) (by kernel_rfl) (fun _ _ _ h => h) (Or.inl ⟨by kernel_rfl, ?_⟩) (by assumption) ?_
        rotate_left 1
        · intro wz hSw; subst hSw; go_simp; try with_reducible rfl
        try simp only [Act.put, List.setIfInBounds_toArray, List.set_cons_zero, List.set_cons_succ]
        refine AnyT.take (i := 9) (oi := _) (v := ?_) rfl (by kernel_rfl) (by kernel_rfl) (by kernel_rfl) (by kernel_rfl) (fun _ _ _ h => h) (Or.inl ⟨by kernel_rfl, ?_⟩) (by assumption) ?_
        rotate_left 1
        · intro wz hSw; subst hSw; go_simp; try with_reducible rfl
        try simp only [Act.put, List.setIfInBounds_toArray, List.set_cons_zero, List.set_cons_succ]
        refine AnyT.take (i := 10) (oi := _) (v := ?_) rfl (by kernel_rfl) (by kernel_rfl) (by kernel_rfl) (by kernel_rfl) (fun _ _ _ h => h) (Or.inl ⟨by kernel_rfl, ?_⟩) (by assumption) ?_
        rotate_left 1
        · intro wz hSw; subst hSw; go_simp; try with_reducible rfl
        try simp only [Act.put, List.setIfInBounds_toArray, List.set_cons_zero, List.set_cons_succ]
        refine AnyT.take (i := 11) (oi := _) (v := ?_) rfl (by kernel_rfl) (by kernel_rfl) (by kernel_rfl) (by kernel_rfl) (fun _ _ _ h => h) (Or.inl ⟨by kernel_rfl, ?_⟩) (by assumption) ?_
        rotate_left 1
        · intro wz hSw; subst hSw; go_simp; try with_reducible rfl
        try simp only [Act.put, List.setIfInBounds_toArray, List.set_cons_zero, List.set_cons_succ]
        refine AnyT.take (i := 12) (oi := _) (v := ?_) rfl (by kernel_rfl) (by kernel_rfl) (by kernel_rfl) (by kernel_rfl) (fun _ _ _ h => h) (Or.inl ⟨by kernel_rfl, ?_⟩) (by assumption) ?_
        rotate_left 1
        · intro wz hSw; subst hSw; go_simp; try with_reducible rfl
        try simp only [Act.put, List.setIfInBounds_toArray, List.set_cons_zero, List.set_cons_succ]
        clear hHeld
        refine AnyT.one (i := 13) (o := _) rfl (by kernel_rfl) (fun K hK => ?_)
        go_simp
        refine hK.out _ _ (fun h => absurd rfl h) ?_
        clear hK K
        refine AnyT.done (by kernel_rfl) ?_
        try simp only [Act.put, List.setIfInBounds_toArray, List.set_cons_zero, List.set_cons_succ]
        go_wp2_with fail
        refine AnyT.begin (fun w' => w' = World.drew _) 13 (by kernel_rfl) rfl (fun hHeld => ?_)
        refine AnyT.take (i := 0) (oi := _) (v := ?_) rfl (by kernel_rfl) (by kernel_rfl) (by kernel_rfl) (by kernel_rfl) (fun _ _ _ h => h) (Or.inl ⟨by kernel_rfl, ?_⟩) (by assumption) ?_
        rotate_left 1
        · intro wz hSw; subst hSw; go_simp; try with_reducible rfl
        try simp only [Act.put, List.setIfInBounds_toArray, List.set_cons_zero, List.set_cons_succ]
        refine AnyT.take (i := 1) (oi := _) (v := ?_) rfl (by kernel_rfl) (by kernel_rfl) (by kernel_rfl) (by kernel_rfl) (fun _ _ _ h => h) (Or.inl ⟨by kernel_rfl, ?_⟩) (by assumption) ?_
        rotate_left 1
        · intro wz hSw; subst hSw; go_simp; try with_reducible rfl
        try simp only [Act.put, List.setIfInBounds_toArray, List.set_cons_zero, List.set_cons_succ]
        refine AnyT.take (i := 2) (oi := _) (v := ?_) rfl (by kernel_rfl) (by kernel_rfl) (by kernel_rfl) (by kernel_rfl) (fun _ _ _ h => h) (Or.inl ⟨by kernel_rfl, ?_⟩) (by assumption) ?_
        rotate_left 1
        · intro wz hSw; subst hSw; go_simp; try with_reducible rfl
        try simp only [Act.put, List.setIfInBounds_toArray, List.set_cons_zero, List.set_cons_succ]
        refine AnyT.take (i := 3) (oi := _) (v := ?_) rfl (by kernel_rfl) (by kernel_rfl) (by kernel_rfl) (by kernel_rfl) (fun _ _ _ h => h) (Or.inl ⟨by kernel_rfl, ?_⟩) (by assumption) ?_
        rotate_left 1
        · intro wz hSw; subst hSw; go_simp; try with_reducible rfl
        try simp only [Act.put, List.setIfInBounds_toArray, List.set_cons_zero, List.set_cons_succ]
        refine AnyT.take (i := 4) (oi := _) (v := ?_) rfl (by kernel_rfl) (by kernel_rfl) (by kernel_rfl) (by kernel_rfl) (fun _ _ _ h => h) (Or.inl ⟨by kernel_rfl, ?_⟩) (by assumption) ?_
        rotate_left 1
        · intro wz hSw; subst hSw; go_simp; try with_reducible rfl
        try simp only [Act.put, List.setIfInBounds_toArray, List.set_cons_zero, List.set_cons_succ]
        refine AnyT.take (i := 5) (oi := _) (v := ?_) rfl (by kernel_rfl) (by kernel_rfl) (by kernel_rfl) (by kernel_rfl) (fun _ _ _ h => h) (Or.inl ⟨by kernel_rfl, ?_⟩) (by assumption) ?_
        rotate_left 1
        · intro wz hSw; subst hSw; go_simp; try with_reducible rfl
        try simp only [Act.put, List.setIfInBounds_toArray, List.set_cons_zero, List.set_cons_succ]
        refine AnyT.take (i := 6) (oi := _) (v := ?_) rfl (by kernel_rfl) (by kernel_rfl) (by kernel_rfl) (by kernel_rfl) (fun _ _ _ h => h) (Or.inl ⟨by kernel_rfl, ?_⟩) (by assumption) ?_
        rotate_left 1
        · intro wz hSw; subst hSw; go_simp; try with_reducible rfl
        try simp only [Act.put, List.setIfInBounds_toArray, List.set_cons_zero, List.set_cons_succ]
        refine AnyT.take (i := 7) (oi := _) (v := ?_) rfl (by kernel_rfl) (by kernel_rfl) (by kernel_rfl) (by kernel_rfl) (fun _ _ _ h => h) (Or.inl ⟨by kernel_rfl, ?_⟩) (by assumption) ?_
        rotate_left 1
        · intro wz hSw; subst hSw; go_simp; try with_reducible rfl
        try simp only [Act.put, List.setIfInBounds_toArray, List.set_cons_zero, List.set_cons_succ]
        refine AnyT.take (i := 8) (oi := _) (v := ?_) rfl (by kernel_rfl) (by kernel_rfl) (by kernel_rfl) (by kernel_rfl) (fun _ _ _ h => h) (Or.inl ⟨by kernel_rfl, ?_⟩) (by assumption) ?_
        rotate_left 1
        · intro wz hSw; subst hSw; go_simp; try with_reducible rfl
        try simp only [Act.put, List.setIfInBounds_toArray, List.set_cons_zero, List.set_cons_succ]
        refine AnyT.take (i := 9) (oi := _) (v := ?_) rfl (by kernel_rfl) (by kernel_rfl) (by kernel_rfl) (by kernel_rfl) (fun _ _ _ h => h) (Or.inl ⟨by kernel_rfl, ?_⟩) (by assumption) ?_
        rotate_left 1
        · intro wz hSw; subst hSw; go_simp; try with_reducible rfl
        try simp only [Act.put, List.setIfInBounds_toArray, List.set_cons_zero, List.set_cons_succ]
        refine AnyT.take (i := 10) (oi := _) (v := ?_) rfl (by kernel_rfl) (by kernel_rfl) (by kernel_rfl) (by kernel_rfl) (fun _ _ _ h => h) (Or.inl ⟨by kernel_rfl, ?_⟩) (by assumption) ?_
        rotate_left 1
        · intro wz hSw; subst hSw; go_simp; try with_reducible rfl
        try simp only [Act.put, List.setIfInBounds_toArray, List.set_cons_zero, List.set_cons_succ]
        refine AnyT.take (i := 11) (oi := _) (v := ?_) rfl (by kernel_rfl) (by kernel_rfl) (by kernel_rfl) (by kernel_rfl) (fun _ _ _ h => h) (Or.inl ⟨by kernel_rfl, ?_⟩) (by assumption) ?_
        rotate_left 1
        · intro wz hSw; subst hSw; go_simp; try with_reducible rfl
        try simp only [Act.put, List.setIfInBounds_toArray, List.set_cons_zero, List.set_cons_succ]
        refine AnyT.take (i := 12) (oi := _) (v := ?_) rfl (by kernel_rfl) (by kernel_rfl) (by kernel_rfl) (by kernel_rfl) (fun _ _ _ h => h) (Or.inl ⟨by kernel_rfl, ?_⟩) (by assumption) ?_
        rotate_left 1
        · intro wz hSw; subst hSw; go_simp; try with_reducible rfl
        try simp only [Act.put, List.setIfInBounds_toArray, List.set_cons_zero, List.set_cons_succ]
        clear hHeld
        refine AnyT.one (i := 13) (o := _) rfl (by kernel_rfl) (fun K hK => ?_)
        go_simp
        refine hK.out _ _ (fun h => absurd rfl h) ?_
        clear hK K
        refine AnyT.done (by kernel_rfl) ?_
        try simp only [Act.put, List.setIfInBounds_toArray, List.set_cons_zero, List.set_cons_succ]
        have hS9 := HSi.out.drew.drew
        have hC9 := HCi.out.later (below_drewN (Below.refl _ _) 2)
        go_wp2_with fail
        go_roundw
        case rel => exact ⟨2, .inr (.inl rfl), by go_num, by rw [loTo2, show loTo c (2 - 1) = L from HLo.out, HY.out, mn_is], by rw [hiTo2, show hiTo c (2 - 1) = U from HUp.out, HY.out, mx_is], hS9, hC9⟩
        case measure => simp [intOf]
      · skip
        have pp := wrap_prod (corner_bound HLc.out ⟨c.a0, c.w1⟩ (by simp [cornersP]))
        obtain ⟨Y, hY⟩ : ∃ Y, prodE ⟨c.a0, c.w1⟩ = Y := ⟨_, rfl⟩
        rw [hY] at pp
        have HY := Lib.hid hY
        obtain ⟨L, hL⟩ : ∃ Y, loTo c (3 - 1) = Y := ⟨_, rfl⟩
        obtain ⟨U, hU⟩ : ∃ Y, hiTo c (3 - 1) = Y := ⟨_, rfl⟩
        have HLo := Lib.hid hL
        have HUp := Lib.hid hU
        rw [show loTo c (3 - 1) = L from hL, show hiTo c (3 - 1) = U from hU]
        have hgz := World.block_lt_of_cell? _ _ HCi.out.k2.c0
        obtain ⟨q0, q1⟩ := HCi.out.k2
        clear hY hL hU
        go_wp2_with fail
        refine AnyT.begin (fun w' => w' = World.drew _) 13 (by kernel_rfl) rfl (fun hHeld => ?_)
        refine AnyT.take (i := 0) (oi := _) (v := ?_) rfl (by kernel_rfl) (by kernel_rfl) (by kernel_rfl) (by kernel_rfl) (fun _ _ _ h => h) (Or.inl ⟨by kernel_rfl, ?_⟩) (by assumption) ?_
        rotate_left 1
        · intro wz hSw; subst hSw; go_simp; try with_reducible rfl
        try simp only [Act.put, List.setIfInBounds_toArray, List.set_cons_zero, List.set_cons_succ]
        refine AnyT.take (i := 1) (oi := _) (v := ?_) rfl (by kernel_rfl) (by kernel_rfl) (by kernel_rfl) (by kernel_rfl) (fun _ _ _ h => h) (Or.inl ⟨by kernel_rfl, ?_⟩) (by assumption) ?_
        rotate_left 1
        · intro wz hSw; subst hSw; go_simp; try with_reducible rfl
        try simp only [Act.put, List.setIfInBounds_toArray, List.set_cons_zero, List.set_cons_succ]
        refine AnyT.take (i := 2) (oi := _) (v := ?_) rfl (by kernel_rfl) (by kernel_rfl) (by kernel_rfl) (by kernel_rfl) (fun _ _ _ h => h) (Or.inl ⟨by kernel_rfl, ?_⟩) (by assumption) ?_
        rotate_left 1
        · intro wz hSw; subst hSw; go_simp; try with_reducible rfl
        try simp only [Act.put, List.setIfInBounds_toArray, List.set_cons_zero, List.set_cons_succ]
        refine AnyT.take (i := 3) (oi := _) (v := ?_) rfl (by kernel_rfl) (by kernel_rfl) (by kernel_rfl) (by kernel_rfl) (fun _ _ _ h => h) (Or.inl ⟨by kernel_rfl, ?_⟩) (by assumption) ?_
        rotate_left 1
        · intro wz hSw; subst hSw; go_simp; try with_reducible rfl
        try simp only [Act.put, List.setIfInBounds_toArray, List.set_cons_zero, List.set_cons_succ]
        refine AnyT.take (i := 4) (oi := _) (v := ?_) rfl (by kernel_rfl) (by kernel_rfl) (by kernel_rfl) (by kernel_rfl) (fun _ _ _ h => h) (Or.inl ⟨by kernel_rfl, ?_⟩) (by assumption) ?_
        rotate_left 1
        · intro wz hSw; subst hSw; go_simp; try with_reducible rfl
        try simp only [Act.put, List.setIfInBounds_toArray, List.set_cons_zero, List.set_cons_succ]
        refine AnyT.take (i := 5) (oi := _) (v := ?_) rfl (by kernel_rfl) (by kernel_rfl) (by kernel_rfl) (by kernel_rfl) (fun _ _ _ h => h) (Or.inl ⟨by kernel_rfl, ?_⟩) (by assumption) ?_
        rotate_left 1
        · intro wz hSw; subst hSw; go_simp; try with_reducible rfl
        try simp only [Act.put, List.setIfInBounds_toArray, List.set_cons_zero, List.set_cons_succ]
        refine AnyT.take (i := 6) (oi := _) (v := ?_) rfl (by kernel_rfl) (by kernel_rfl) (by kernel_rfl) (by kernel_rfl) (fun _ _ _ h => h) (Or.inl ⟨by kernel_rfl, ?_⟩) (by assumption) ?_
        rotate_left 1
        · intro wz hSw; subst hSw; go_simp; try with_reducible rfl
        try simp only [Act.put, List.setIfInBounds_toArray, List.set_cons_zero, List.set_cons_succ]
        refine AnyT.take (i := 7) (oi := _) (v := ?_) rfl (by kernel_rfl) (by kernel_rfl) (by kernel_rfl) (by kernel_rfl) (fun _ _ _ h => h) (Or.inl ⟨by kernel_rfl, ?_⟩) (by assumption) ?_
        rotate_left 1
        · intro wz hSw; subst hSw; go_simp; try with_reducible rfl
        try simp only [Act.put, List.setIfInBounds_toArray, List.set_cons_zero, List.set_cons_succ]
        refine AnyT.take (i := 8) (oi := _) (v := ?_) rfl (by kernel_rfl) (by kernel_rfl) (by kernel_rfl) (by kernel_rfl) (fun _ _ _ h => h) (Or.inl ⟨by kernel_rfl, ?_⟩) (by assumption) ?_
        rotate_left 1
        · intro wz hSw; subst hSw; go_simp; try with_reducible rfl
        try simp only [Act.put, List.setIfInBounds_toArray, List.set_cons_zero, List.set_cons_succ]
        refine AnyT.take (i := 9) (oi := _) (v := ?_) rfl (by kernel_rfl) (by kernel_rfl) (by kernel_rfl) (by kernel_rfl) (fun _ _ _ h => h) (Or.inl ⟨by kernel_rfl, ?_⟩) (by assumption) ?_
        rotate_left 1
        · intro wz hSw; subst hSw; go_simp; try with_reducible rfl
        try simp only [Act.put, List.setIfInBounds_toArray, List.set_cons_zero, List.set_cons_succ]
        refine AnyT.take (i := 10) (oi := _) (v := ?_) rfl (by kernel_rfl) (by kernel_rfl) (by kernel_rfl) (by kernel_rfl) (fun _ _ _ h => h) (Or.inl ⟨by kernel_rfl, ?_⟩) (by assumption) ?_
        rotate_left 1
        · intro wz hSw; subst hSw; go_simp; try with_reducible rfl
        try simp only [Act.put, List.setIfInBounds_toArray, List.set_cons_zero, List.set_cons_succ]
        refine AnyT.take (i := 11) (oi := _) (v := ?_) rfl (by kernel_rfl) (by kernel_rfl) (by kernel_rfl) (by kernel_rfl) (fun _ _ _ h => h) (Or.inl ⟨by kernel_rfl, ?_⟩) (by assumption) ?_
        rotate_left 1
        · intro wz hSw; subst hSw; go_simp; try with_reducible rfl
        try simp only [Act.put, List.setIfInBounds_toArray, List.set_cons_zero, List.set_cons_succ]
        refine AnyT.take (i := 12) (oi := _) (v := ?_) rfl (by kernel_rfl) (by kernel_rfl) (by kernel_rfl) (by kernel_rfl) (fun _ _ _ h => h) (Or.inl ⟨by kernel_rfl, ?_⟩) (by assumption) ?_
        rotate_left 1
        · intro wz hSw; subst hSw; go_simp; try with_reducible rfl
        try simp only [Act.put, List.setIfInBounds_toArray, List.set_cons_zero, List.set_cons_succ]
        clear hHeld
        refine AnyT.one (i := 13) (o := _) rfl (by kernel_rfl) (fun K hK => ?_)
        go_simp
        refine hK.out _ _ (fun h => absurd rfl h) ?_
        clear hK K
        refine AnyT.done (by kernel_rfl) ?_
        try simp only [Act.put, List.setIfInBounds_toArray, List.set_cons_zero, List.set_cons_succ]
        go_wp2_with fail
        refine AnyT.begin (fun w' => w' = World.drew _) 13 (by kernel_rfl) rfl (fun hHeld => ?_)
        refine AnyT.take (i := 0) (oi := _) (v := ?_) rfl (by kernel_rfl) (by kernel_rfl) (by kernel_rfl) (by kernel_rfl) (fun _ _ _ h => h) (Or.inl ⟨by kernel_rfl, ?_⟩) (by assumption) ?_
        rotate_left 1
        · intro wz hSw; subst hSw; go_simp; try with_reducible rfl
        try simp only [Act.put, List.setIfInBounds_toArray, List.set_cons_zero, List.set_cons_succ]
        refine AnyT.take (i := 1) (oi := _) (v := ?_) rfl (by kernel_rfl) (by kernel_rfl) (by kernel_rfl) (by kernel_rfl) (fun _ _ _ h => h) (Or.inl ⟨by kernel_rfl, ?_⟩) (by assumption) ?_
        rotate_left 1
        · intro wz hSw; subst hSw; go_simp; try with_reducible rfl
        try simp only [Act.put, List.setIfInBounds_toArray, List.set_cons_zero, List.set_cons_succ]
        refine AnyT.take (i := 2) (oi := _) (v := ?_) rfl (by kernel_rfl) (by kernel_rfl) (by kernel_rfl) (by kernel_rfl) (fun _ _ _ h => h) (Or.inl ⟨by kernel_rfl, ?_⟩) (by assumption) ?_
        rotate_left 1
        · intro wz hSw; subst hSw; go_simp; try with_reducible rfl
        try simp only [Act.put, List.setIfInBounds_toArray, List.set_cons_zero, List.set_cons_succ]
        refine AnyT.take (i := 3) (oi := _) (v := ?_) rfl (by kernel_rfl) (by kernel_rfl) (by kernel_rfl) (by kernel_rfl) (fun _ _ _ h => h) (Or.inl ⟨by kernel_rfl, ?_⟩) (by assumption) ?_
        rotate_left 1
        · intro wz hSw; subst hSw; go_simp; try with_reducible rfl
        try simp only [Act.put, List.setIfInBounds_toArray, List.set_cons_zero, List.set_cons_succ]
        refine AnyT.take (i := 4) (oi := _) (v := ?_) rfl (by kernel_rfl) (by kernel_rfl) (by kernel_rfl) (by kernel_rfl) (fun _ _ _ h => h) (Or.inl ⟨by kernel_rfl, ?_⟩) (by assumption) ?_
        rotate_left 1
        · intro wz hSw; subst hSw; go_simp; try with_reducible rfl
        try simp only [Act.put, List.setIfInBounds_toArray, List.set_cons_zero, List.set_cons_succ]
        refine AnyT.take (i := 5) (oi := _) (v := ?_) rfl (by kernel_rfl) (by kernel_rfl) (by kernel_rfl) (by kernel_rfl) (fun _ _ _ h => h) (Or.inl ⟨by kernel_rfl, ?_⟩) (by assumption) ?_
        rotate_left 1
        · intro wz hSw; subst hSw; go_simp; try with_reducible rfl
        try simp only [Act.put, List.setIfInBounds_toArray, List.set_cons_zero, List.set_cons_succ]
        refine AnyT.take (i := 6) (oi := _) (v := ?_) rfl (by kernel_rfl) (by kernel_rfl) (by kernel_rfl) (by kernel_rfl) (fun _ _ _ h => h) (Or.inl ⟨by kernel_rfl, ?_⟩) (by assumption) ?_
        rotate_left 1
        · intro wz hSw; subst hSw; go_simp; try with_reducible rfl
        try simp only [Act.put, List.setIfInBounds_toArray, List.set_cons_zero, List.set_cons_succ]
        refine AnyT.take (i := 7) (oi := _) (v := ?_) rfl (by kernel_rfl) (by kernel_rfl) (by kernel_rfl) (by kernel_rfl) (fun _ _ _ h => h) (Or.inl ⟨by kernel_rfl, ?_⟩) (by assumption) ?_
        rotate_left 1
        · intro wz hSw; subst hSw; go_simp; try with_reducible rfl
        try simp only [Act.put, List.setIfInBounds_toArray, List.set_cons_zero, List.set_cons_succ]
        refine AnyT.take (i := 8) (oi := _) (v := ?_) rfl (by kernel_rfl) (by kernel_rfl) (by kernel_rfl) (by kernel_rfl) (fun _ _ _ h => h) (Or.inl ⟨by kernel_rfl, ?_⟩) (by assumption) ?_
        rotate_left 1
        · intro wz hSw; subst hSw; go_simp; try with_reducible rfl
        try simp only [Act.put, List.setIfInBounds_toArray, List.set_cons_zero, List.set_cons_succ]
        refine AnyT.take (i := 9) (oi := _) (v := ?_) rfl (by kernel_rfl) (by kernel_rfl) (by kernel_rfl) (by kernel_rfl) (fun _ _ _ h => h) (Or.inl ⟨by kernel_rfl, ?_⟩) (by assumption) ?_
        rotate_left 1
        · intro wz hSw; subst hSw; go_simp; try with_reducible rfl
        try simp only [Act.put, List.setIfInBounds_toArray, List.set_cons_zero, List.set_cons_succ]
        refine AnyT.take (i := 10) (oi := _) (v := ?_) rfl (by kernel_rfl) (by kernel_rfl) (by kernel_rfl) (by kernel_rfl) (fun _ _ _ h => h) (Or.inl ⟨by kernel_rfl, ?_⟩) (by assumption) ?_
        rotate_left 1
        · intro wz hSw; subst hSw; go_simp; try with_reducible rfl
        try simp only [Act.put, List.setIfInBounds_toArray, List.set_cons_zero, List.set_cons_succ]
        refine AnyT.take (i := 11) (oi := _) (v := ?_) rfl (by kernel_rfl) (by kernel_rfl) (by kernel_rfl) (by kernel_rfl) (fun _ _ _ h => h) (Or.inl ⟨by kernel_rfl, ?_⟩) (by assumption) ?_
        rotate_left 1
        · intro wz hSw; subst hSw; go_simp; try with_reducible rfl
        try simp only [Act.put, List.setIfInBounds_toArray, List.set_cons_zero, List.set_cons_succ]
        refine AnyT.take (i := 12) (oi := _) (v := ?_) rfl (by kernel_rfl) (by kernel_rfl) (by kernel_rfl) (by kernel_rfl) (fun _ _ _ h => h) (Or.inl ⟨by kernel_rfl, ?_⟩) (by assumption) ?_
        rotate_left 1
        · intro wz hSw; subst hSw; go_simp; try with_reducible rfl
        try simp only [Act.put, List.setIfInBounds_toArray, List.set_cons_zero, List.set_cons_succ]
        clear hHeld
        refine AnyT.one (i := 13) (o := _) rfl (by kernel_rfl) (fun K hK => ?_)
        go_simp
        refine hK.out _ _ (fun h => absurd rfl h) ?_
        clear hK K
        refine AnyT.done (by kernel_rfl) ?_
        try simp only [Act.put, List.setIfInBounds_toArray, List.set_cons_zero, List.set_cons_succ]
        have hS9 := HSi.out.drew.drew
        have hC9 := HCi.out.later (below_drewN (Below.refl _ _) 2)
        go_wp2_with fail
        go_roundw
        case rel => exact ⟨3, .inr (.inr (.inl rfl)), by go_num, by rw [loTo3, show loTo c (3 - 1) = L from HLo.out, HY.out, mn_is], by rw [hiTo3, show hiTo c (3 - 1) = U from HUp.out, HY.out, mx_is], hS9, hC9⟩
        case measure => simp [intOf]
      · skip
        have pp := wrap_prod (corner_bound HLc.out ⟨c.a1, c.w1⟩ (by simp [cornersP]))
        obtain ⟨Y, hY⟩ : ∃ Y, prodE ⟨c.a1, c.w1⟩ = Y := ⟨_, rfl⟩
        rw [hY] at pp
        have HY := Lib.hid hY
        obtain ⟨L, hL⟩ : ∃ Y, loTo c (4 - 1) = Y := ⟨_, rfl⟩
        obtain ⟨U, hU⟩ : ∃ Y, hiTo c (4 - 1) = Y := ⟨_, rfl⟩
        have HLo := Lib.hid hL
        have HUp := Lib.hid hU
        rw [show loTo c (4 - 1) = L from hL, show hiTo c (4 - 1) = U from hU]
        have hgz := World.block_lt_of_cell? _ _ HCi.out.k3.c0
        obtain ⟨q0, q1⟩ := HCi.out.k3
        clear hY hL hU
        go_wp2_with fail
        refine AnyT.begin (fun w' => w' = World.drew _) 13 (by kernel_rfl) rfl (fun hHeld => ?_)
        refine AnyT.take (i := 0) (oi := _) (v := ?_) rfl (by kernel_rfl) (by kernel_rfl) (by kernel_rfl) (by kernel_rfl) (fun _ _ _ h => h) (Or.inl ⟨by kernel_rfl, ?_⟩) (by assumption) ?_
        rotate_left 1
        · intro wz hSw; subst hSw; go_simp; try with_reducible rfl
        try simp only [Act.put, List.setIfInBounds_toArray, List.set_cons_zero, List.set_cons_succ]
        refine AnyT.take (i := 1) (oi := _) (v := ?_) rfl (by kernel_rfl) (by kernel_rfl) (by kernel_rfl) (by kernel_rfl) (fun _ _ _ h => h) (Or.inl ⟨by kernel_rfl, ?_⟩) (by assumption) ?_
        rotate_left 1
        · intro wz hSw; subst hSw; go_simp; try with_reducible rfl
        try simp only [Act.put, List.setIfInBounds_toArray, List.set_cons_zero, List.set_cons_succ]
        refine AnyT.take (i := 2) (oi := _) (v := ?_) rfl (by kernel_rfl) (by kernel_rfl) (by kernel_rfl) (by kernel_rfl) (fun _ _ _ h => h) (Or.inl ⟨by kernel_rfl, ?_⟩) (by assumption) ?_
        rotate_left 1
        · intro wz hSw; subst hSw; go_simp; try with_reducible rfl
        try simp only [Act.put, List.setIfInBounds_toArray, List.set_cons_zero, List.set_cons_succ]
        refine AnyT.take (i := 3) (oi := _) (v := ?_) rfl (by kernel_rfl) (by kernel_rfl) (by kernel_rfl) (by kernel_rfl) (fun _ _ _ h => h) (Or.inl ⟨by kernel_rfl, ?_⟩) (by assumption) ?_
        rotate_left 1
        · intro wz hSw; subst hSw; go_simp; try with_reducible rfl
        try simp only [Act.put, List.setIfInBounds_toArray, List.set_cons_zero, List.set_cons_succ]
        refine AnyT.take (i := 4) (oi := _) (v := ?_) rfl (by kernel_rfl) (by kernel_rfl) (by kernel_rfl) (by kernel_rfl) (fun _ _ _ h => h) (Or.inl ⟨by kernel_rfl, ?_⟩) (by assumption) ?_
        rotate_left 1
        · intro wz hSw; subst hSw; go_simp; try with_reducible rfl
        try simp only [Act.put, List.setIfInBounds_toArray, List.set_cons_zero, List.set_cons_succ]
        refine AnyT.take (i := 5) (oi := _) (v := ?_) rfl (by kernel_rfl) (by kernel_rfl) (by kernel_rfl) (by kernel_rfl) (fun _ _ _ h => h) (Or.inl ⟨by kernel_rfl, ?_⟩) (by assumption) ?_
        rotate_left 1
        · intro wz hSw; subst hSw; go_simp; try with_reducible rfl
        try simp only [Act.put, List.setIfInBounds_toArray, List.set_cons_zero, List.set_cons_succ]
        refine AnyT.take (i := 6) (oi := _) (v := ?_) rfl (by kernel_rfl) (by kernel_rfl) (by kernel_rfl) (by kernel_rfl) (fun _ _ _ h => h) (Or.inl ⟨by kernel_rfl, ?_⟩) (by assumption) ?_
        rotate_left 1
        · intro wz hSw; subst hSw; go_simp; try with_reducible rfl
        try simp only [Act.put, List.setIfInBounds_toArray, List.set_cons_zero, List.set_cons_succ]
        refine AnyT.take (i := 7) (oi := _) (v := ?_) rfl (by kernel_rfl) (by kernel_rfl) (by kernel_rfl) (by kernel_rfl) (fun _ _ _ h => h) (Or.inl ⟨by kernel_rfl, ?_⟩) (by assumption) ?_
        rotate_left 1
        · intro wz hSw; subst hSw; go_simp; try with_reducible rfl
        try simp only [Act.put, List.setIfInBounds_toArray, List.set_cons_zero, List.set_cons_succ]
        refine AnyT.take (i := 8) (oi := _) (v := ?_) rfl (by kernel_rfl) (by kernel_rfl) (by kernel_rfl) (by kernel_rfl) (fun _ _ _ h => h) (Or.inl ⟨by kernel_rfl, ?_⟩) (by assumption) ?_
        rotate_left 1
        · intro wz hSw; subst hSw; go_simp; try with_reducible rfl
        try simp only [Act.put, List.setIfInBounds_toArray, List.set_cons_zero, List.set_cons_succ]
        refine AnyT.take (i := 9) (oi := _) (v := ?_) rfl (by kernel_rfl) (by kernel_rfl) (by kernel_rfl) (by kernel_rfl) (fun _ _ _ h => h) (Or.inl ⟨by kernel_rfl, ?_⟩) (by assumption) ?_
        rotate_left 1
        · intro wz hSw; subst hSw; go_simp; try with_reducible rfl
        try simp only [Act.put, List.setIfInBounds_toArray, List.set_cons_zero, List.set_cons_succ]
        refine AnyT.take (i := 10) (oi := _) (v := ?_) rfl (by kernel_rfl) (by kernel_rfl) (by kernel_rfl) (by kernel_rfl) (fun _ _ _ h => h) (Or.inl ⟨by kernel_rfl, ?_⟩) (by assumption) ?_
        rotate_left 1
        · intro wz hSw; subst hSw; go_simp; try with_reducible rfl
        try simp only [Act.put, List.setIfInBounds_toArray, List.set_cons_zero, List.set_cons_succ]
        refine AnyT.take (i := 11) (oi := _) (v := ?_) rfl (by kernel_rfl) (by kernel_rfl) (by kernel_rfl) (by kernel_rfl) (fun _ _ _ h => h) (Or.inl ⟨by kernel_rfl, ?_⟩) (by assumption) ?_
        rotate_left 1
        · intro wz hSw; subst hSw; go_simp; try with_reducible rfl
        try simp only [Act.put, List.setIfInBounds_toArray, List.set_cons_zero, List.set_cons_succ]
        refine AnyT.take (i := 12) (oi := _) (v := ?_) rfl (by kernel_rfl) (by kernel_rfl) (by kernel_rfl) (by kernel_rfl) (fun _ _ _ h => h) (Or.inl ⟨by kernel_rfl, ?_⟩) (by assumption) ?_
        rotate_left 1
        · intro wz hSw; subst hSw; go_simp; try with_reducible rfl
        try simp only [Act.put, List.setIfInBounds_toArray, List.set_cons_zero, List.set_cons_succ]
        clear hHeld
        refine AnyT.one (i := 13) (o := _) rfl (by kernel_rfl) (fun K hK => ?_)
        go_simp
        refine hK.out _ _ (fun h => absurd rfl h) ?_
        clear hK K
        refine AnyT.done (by kernel_rfl) ?_
        try simp only [Act.put, List.setIfInBounds_toArray, List.set_cons_zero, List.set_cons_succ]
        go_wp2_with fail
        refine AnyT.begin (fun w' => w' = World.drew _) 13 (by kernel_rfl) rfl (fun hHeld => ?_)
        refine AnyT.take (i := 0) (oi := _) (v := ?_) rfl (by kernel_rfl) (by kernel_rfl) (by kernel_rfl) (by kernel_rfl) (fun _ _ _ h => h) (Or.inl ⟨by kernel_rfl, ?_⟩) (by assumption) ?_
        rotate_left 1
        · intro wz hSw; subst hSw; go_simp; try with_reducible rfl
        try simp only [Act.put, List.setIfInBounds_toArray, List.set_cons_zero, List.set_cons_succ]
        refine AnyT.take (i := 1) (oi := _) (v := ?_) rfl (by kernel_rfl) (by kernel_rfl) (by kernel_rfl) (by kernel_rfl) (fun _ _ _ h => h) (Or.inl ⟨by kernel_rfl, ?_⟩) (by assumption) ?_
        rotate_left 1
        · intro wz hSw; subst hSw; go_simp; try with_reducible rfl
        try simp only [Act.put, List.setIfInBounds_toArray, List.set_cons_zero, List.set_cons_succ]
        refine AnyT.take (i := 2) (oi := _) (v := ?_) rfl (by kernel_rfl) (by kernel_rfl) (by kernel_rfl) (by kernel_rfl) (fun _ _ _ h => h) (Or.inl ⟨by kernel_rfl, ?_⟩) (by assumption) ?_
        rotate_left 1
        · intro wz hSw; subst hSw; go_simp; try with_reducible rfl
        try simp only [Act.put, List.setIfInBounds_toArray, List.set_cons_zero, List.set_cons_succ]
        refine AnyT.take (i := 3) (oi := _) (v := ?_) rfl (by kernel_rfl) (by kernel_rfl) (by kernel_rfl) (by kernel_rfl) (fun _ _ _ h => h) (Or.inl ⟨by kernel_rfl, ?_⟩) (by assumption) ?_
        rotate_left 1
        · intro wz hSw; subst hSw; go_simp; try with_reducible rfl
        try simp only [Act.put, List.setIfInBounds_toArray, List.set_cons_zero, List.set_cons_succ]
        refine AnyT.take (i := 4) (oi := _) (v := ?_) rfl (by kernel_rfl) (by kernel_rfl) (by kernel_rfl) (by kernel_rfl) (fun _ _ _ h => h) (Or.inl ⟨by kernel_rfl, ?_⟩) (by assumption) ?_
        rotate_left 1
        · intro wz hSw; subst hSw; go_simp; try with_reducible rfl
        try simp only [Act.put, List.setIfInBounds_toArray, List.set_cons_zero, List.set_cons_succ]
        refine AnyT.take (i := 5) (oi := _) (v := ?_) rfl (by kernel_rfl) (by kernel_rfl) (by kernel_rfl) (by kernel_rfl) (fun _ _ _ h => h) (Or.inl ⟨by kernel_rfl, ?_⟩) (by assumption) ?_
        rotate_left 1
        · intro wz hSw; subst hSw; go_simp; try with_reducible rfl
        try simp only [Act.put, List.setIfInBounds_toArray, List.set_cons_zero, List.set_cons_succ]
        refine AnyT.take (i := 6) (oi := _) (v := ?_) rfl (by kernel_rfl) (by kernel_rfl) (by kernel_rfl) (by kernel_rfl) (fun _ _ _ h => h) (Or.inl ⟨by kernel_rfl, ?_⟩) (by assumption) ?_
        rotate_left 1
        · intro wz hSw; subst hSw; go_simp; try with_reducible rfl
        try simp only [Act.put, List.setIfInBounds_toArray, List.set_cons_zero, List.set_cons_succ]
        refine AnyT.take (i := 7) (oi := _) (v := ?_) rfl (by kernel_rfl) (by kernel_rfl) (by kernel_rfl) (by kernel_rfl) (fun _ _ _ h => h) (Or.inl ⟨by kernel_rfl, ?_⟩) (by assumption) ?_
        rotate_left 1
        · intro wz hSw; subst hSw; go_simp; try with_reducible rfl
        try simp only [Act.put, List.setIfInBounds_toArray, List.set_cons_zero, List.set_cons_succ]
        refine AnyT.take (i := 8) (oi := _) (v := ?_) rfl (by kernel_rfl) (by kernel_rfl) (by kernel_rfl) (by kernel_rfl) (fun _ _ _ h => h) (Or.inl ⟨by kernel_rfl, ?_⟩) (by assumption) ?_
        rotate_left 1
        · intro wz hSw; subst hSw; go_simp; try with_reducible rfl
        try simp only [Act.put, List.setIfInBounds_toArray, List.set_cons_zero, List.set_cons_succ]
        refine AnyT.take (i := 9) (oi := _) (v := ?_) rfl (by kernel_rfl) (by kernel_rfl) (by kernel_rfl) (by kernel_rfl) (fun _ _ _ h => h) (Or.inl ⟨by kernel_rfl, ?_⟩) (by assumption) ?_
        rotate_left 1
        · intro wz hSw; subst hSw; go_simp; try with_reducible rfl
        try simp only [Act.put, List.setIfInBounds_toArray, List.set_cons_zero, List.set_cons_succ]
        refine AnyT.take (i := 10) (oi := _) (v := ?_) rfl (by kernel_rfl) (by kernel_rfl) (by kernel_rfl) (by kernel_rfl) (fun _ _ _ h => h) (Or.inl ⟨by kernel_rfl, ?_⟩) (by assumption) ?_
        rotate_left 1
        · intro wz hSw; subst hSw; go_simp; try with_reducible rfl
        try simp only [Act.put, List.setIfInBounds_toArray, List.set_cons_zero, List.set_cons_succ]
        refine AnyT.take (i := 11) (oi := _) (v := ?_) rfl (by kernel_rfl) (by kernel_rfl) (by kernel_rfl) (by kernel_rfl) (fun _ _ _ h => h) (Or.inl ⟨by kernel_rfl, ?_⟩) (by assumption) ?_
        rotate_left 1
        · intro wz hSw; subst hSw; go_simp; try with_reducible rfl
        try simp only [Act.put, List.setIfInBounds_toArray, List.set_cons_zero, List.set_cons_succ]
        refine AnyT.take (i := 12) (oi := _) (v := ?_) rfl (by kernel_rfl) (by kernel_rfl) (by kernel_rfl) (by kernel_rfl) (fun _ _ _ h => h) (Or.inl ⟨by kernel_rfl, ?_⟩) (by assumption) ?_
        rotate_left 1
        · intro wz hSw; subst hSw; go_simp; try with_reducible rfl
        try simp only [Act.put, List.setIfInBounds_toArray, List.set_cons_zero, List.set_cons_succ]
        clear hHeld
        refine AnyT.one (i := 13) (o := _) rfl (by kernel_rfl) (fun K hK => ?_)
        go_simp
        refine hK.out _ _ (fun h => absurd rfl h) ?_
        clear hK K
        refine AnyT.done (by kernel_rfl) ?_
        try simp only [Act.put, List.setIfInBounds_toArray, List.set_cons_zero, List.set_cons_succ]
        have hS9 := HSi.out.drew.drew
        have hC9 := HCi.out.later (below_drewN (Below.refl _ _) 2)
        go_wp2_with fail
        go_roundw
        case rel => exact ⟨4, .inr (.inr (.inr rfl)), by go_num, by rw [loTo4', show loTo c (4 - 1) = L from HLo.out, HY.out, mn_is], by rw [hiTo4', show hiTo c (4 - 1) = U from HUp.out, HY.out, mx_is], hS9, hC9⟩
        case measure => simp [intOf]
      · have b9 := lohi_bd HLc.out
        rw [loTo4, hiTo4]
        obtain ⟨P, hP⟩ : ∃ Y, loE c = Y := ⟨_, rfl⟩
        obtain ⟨Q, hQ⟩ : ∃ Y, hiE c = Y := ⟨_, rfl⟩
        rw [hP, hQ] at b9
        have HP := Lib.hid hP
        have HQ := Lib.hid hQ
        rw [hP, hQ]
        obtain ⟨⟨b4, b5⟩, b6, b7⟩ := b9
        have g2 : IntKind.i64.wrap (s2 + P) = s2 + P := IntWalk.i64_in _ ⟨by omega, by omega⟩
        have g3 : IntKind.i64.wrap (s3 + Q) = s3 + Q := IntWalk.i64_in _ ⟨by omega, by omega⟩
        obtain ⟨y0, y1, yf0, yf1⟩ := HSi.out.m
        have hS9 := (HSi.out.m0' (s2 + P)).m1' (s3 + Q)
        have HS9 := Lib.hid hS9
        clear hP hQ hS9
        go_wp2_with fail
        go_roundw
        case rel => exact ⟨k + 1, by omega, by go_num, by rw [T0.out, T1.out, T2.out, T3.out, HP.out, HQ.out]; exact HS9.out⟩
        case measure => simp [intOf]; omega
end Go.Proofs.Ytmadkefpjoheeaa
