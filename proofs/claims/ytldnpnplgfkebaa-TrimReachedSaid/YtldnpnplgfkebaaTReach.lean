/- What a load's corners come to, one after another (numbers); rows of four numbers that are written over. -/
import Derived.Test.YtldnpnplgfkebaaTStr
import Derived.Test.YtldnpnplgfkebaaTSlk
namespace Go.Proofs.Ytldnpnplgfkebaa
open Go.RowKit

def innE (at' p : Int) : Int := if p < at' then 1 else 0
/-- Heaviness, moment, shear and bending of a weight at a place. -/
def cfE (at' p w : Int) : Nat → Int
  | 0 => w
  | 1 => w * p
  | 2 => w * innE at' p
  | _ => w * innE at' p * (at' - p)
def plE (l : Ld) (i : Nat) : Int := if i = 0 then l.a0 else l.a1
def weE (l : Ld) (j : Nat) : Int := if j = 0 then l.w0 else l.w1
def coE (at' : Int) (l : Ld) (t kk : Nat) : Int := cfE at' (plE l (t / 2)) (weE l (t % 2)) kk
/-- The least and the greatest of the first t corners. -/
def lowE (at' : Int) (l : Ld) : Nat → Nat → Int
  | 0, _ => 0
  | t + 1, kk => if t = 0 then coE at' l 0 kk else min (lowE at' l t kk) (coE at' l t kk)
def higE (at' : Int) (l : Ld) : Nat → Nat → Int
  | 0, _ => 0
  | t + 1, kk => if t = 0 then coE at' l 0 kk else max (higE at' l t kk) (coE at' l t kk)
theorem low4 (at' : Int) (l : Ld) (kk : Nat) : lowE at' l 4 kk = min (min (min (cfE at' l.a0 l.w0 kk) (cfE at' l.a0 l.w1 kk)) (cfE at' l.a1 l.w0 kk)) (cfE at' l.a1 l.w1 kk) := by
  simp [lowE, coE, plE, weE]
theorem hig4 (at' : Int) (l : Ld) (kk : Nat) : higE at' l 4 kk = max (max (max (cfE at' l.a0 l.w0 kk) (cfE at' l.a0 l.w1 kk)) (cfE at' l.a1 l.w0 kk)) (cfE at' l.a1 l.w1 kk) := by
  simp [higE, coE, plE, weE]
theorem low_heavy (at' : Int) {l : Ld} (h : l.ok = true) : lowE at' l 4 0 = l.w0 ∧ higE at' l 4 0 = l.w1 := by
  have := ok_order h
  rw [low4, hig4]
  simp only [cfE]
  omega
theorem low_moment (at' : Int) (l : Ld) : lowE at' l 4 1 = loE l ∧ higE at' l 4 1 = hiE l := by
  rw [low4, hig4]
  unfold cfE loE hiE prodE
  simp only
  rw [Int.mul_comm l.a0 l.w0, Int.mul_comm l.a1 l.w0, Int.mul_comm l.a0 l.w1, Int.mul_comm l.a1 l.w1]
  omega
theorem part_inn (at' : Int) (l : Ld) : partLo at' l = innE at' l.a1 ∧ partHi at' l = innE at' l.a0 := by
  unfold partLo partHi innE
  constructor
  · rfl
  · split <;> split <;> omega
theorem low_shear (at' : Int) (l : Ld) : lowE at' l 4 2 = shLo at' l ∧ higE at' l 4 2 = shHi at' l := by
  obtain ⟨e0, e1⟩ := part_inn at' l
  rw [low4, hig4]
  unfold cfE shLo shHi exLo exHi
  rw [e0, e1]
  simp only
  rw [Int.mul_comm (innE at' l.a1) l.w0, Int.mul_comm (innE at' l.a1) l.w1, Int.mul_comm (innE at' l.a0) l.w0, Int.mul_comm (innE at' l.a0) l.w1]
  omega
theorem arm_inn (at' p w : Int) : w * innE at' p * (at' - p) = arm at' p * w := by
  unfold innE arm
  split
  · rw [Int.mul_one, show max (at' - p) 0 = at' - p by omega, Int.mul_comm]
  · rw [show max (at' - p) 0 = 0 by omega]
    simp
theorem low_bend (at' : Int) (l : Ld) : lowE at' l 4 3 = bdLo at' l ∧ higE at' l 4 3 = bdHi at' l := by
  rw [low4, hig4]
  unfold cfE bdLo bdHi exLo exHi
  simp only
  rw [arm_inn, arm_inn, arm_inn, arm_inn]
  omega
def loS (at' : Int) (ls : List Ld) (kk : Nat) : Int := sumE (fun l => lowE at' l 4 kk) ls
def hiS (at' : Int) (ls : List Ld) (kk : Nat) : Int := sumE (fun l => higE at' l 4 kk) ls
theorem reach_heavy {at' : Int} {ls : List Ld} (h : loadsN ls = 0) : heavyS ls = (loS at' ls 0, hiS at' ls 0) := by
  have hok := (loadsN_ok h).2
  rw [heavy_is h]
  unfold loS hiS
  rw [sumE_congr (fun l => lowE at' l 4 0) Ld.w0 ls (fun l hl => (low_heavy at' (List.all_eq_true.1 hok l hl)).1), sumE_congr (fun l => higE at' l 4 0) Ld.w1 ls (fun l hl => (low_heavy at' (List.all_eq_true.1 hok l hl)).2)]
theorem reach_moment {at' : Int} {ls : List Ld} (h : loadsN ls = 0) : momentS ls = (loS at' ls 1, hiS at' ls 1) := by
  rw [moment_is h]
  unfold loS hiS
  rw [sumE_congr (fun l => lowE at' l 4 1) loE ls (fun l _ => (low_moment at' l).1), sumE_congr (fun l => higE at' l 4 1) hiE ls (fun l _ => (low_moment at' l).2)]
theorem reach_shear {at' : Int} {ls : List Ld} (h : placeN ls at' = 0) : shearE ls at' = (loS at' ls 2, hiS at' ls 2) := by
  unfold shearE shearS loS hiS
  rw [if_pos h, sumE_congr (fun l => lowE at' l 4 2) (shLo at') ls (fun l _ => (low_shear at' l).1), sumE_congr (fun l => higE at' l 4 2) (shHi at') ls (fun l _ => (low_shear at' l).2)]
theorem reach_bend {at' : Int} {ls : List Ld} (h : placeN ls at' = 0) : bendE ls at' = (loS at' ls 3, hiS at' ls 3) := by
  unfold bendE bendS loS hiS
  rw [if_pos h, sumE_congr (fun l => lowE at' l 4 3) (bdLo at') ls (fun l _ => (low_bend at' l).1), sumE_congr (fun l => higE at' l 4 3) (bdHi at') ls (fun l _ => (low_bend at' l).2)]
theorem cf_bound {at' p w : Int} (h0 : -20000 ≤ at') (h1 : at' ≤ 20000) (p0 : -20000 ≤ p) (p1 : p ≤ 20000) (w0 : -1073741824 ≤ w) (w1 : w ≤ 1073741824) (kk : Nat) : -42949672960000 ≤ cfE at' p w kk ∧ cfE at' p w kk ≤ 42949672960000 := by
  have a := mul_lim (m := 1073741824) (n := 40000) (x := w) (y := p) w0 w1 (by omega) (by omega)
  have b := mul_lim (m := 40000) (n := 1073741824) (x := arm at' p) (y := w) (by unfold arm; omega) (by unfold arm; omega) (by omega) (by omega)
  have c := mul_lim (m := 1073741824) (n := 1) (x := w) (y := innE at' p) w0 w1 (by unfold innE; split <;> omega) (by unfold innE; split <;> omega)
  match kk with
  | 0 => simp only [cfE]; omega
  | 1 => simp only [cfE]; omega
  | 2 => simp only [cfE]; omega
  | kk + 3 =>
    simp only [cfE]
    rw [arm_inn]
    omega
theorem ld_in {l : Ld} (h : l.ok = true) : -20000 ≤ l.a0 ∧ l.a0 ≤ 20000 ∧ -20000 ≤ l.a1 ∧ l.a1 ≤ 20000 ∧ -1073741824 ≤ l.w0 ∧ l.w0 ≤ 1073741824 ∧ -1073741824 ≤ l.w1 ∧ l.w1 ≤ 1073741824 := by
  unfold Ld.ok at h
  rw [Bool.and_eq_true, spB_iff, spB_iff] at h
  omega
theorem low_bound {at' : Int} {l : Ld} (h0 : -20000 ≤ at') (h1 : at' ≤ 20000) (h : l.ok = true) (kk : Nat) :
    (-42949672960000 ≤ lowE at' l 4 kk ∧ lowE at' l 4 kk ≤ 42949672960000) ∧ -42949672960000 ≤ higE at' l 4 kk ∧ higE at' l 4 kk ≤ 42949672960000 := by
  obtain ⟨i0, i1, i2, i3, j0, j1, j2, j3⟩ := ld_in h
  have a := cf_bound h0 h1 i0 i1 j0 j1 kk
  have b := cf_bound h0 h1 i0 i1 j2 j3 kk
  have c := cf_bound h0 h1 i2 i3 j0 j1 kk
  have d := cf_bound h0 h1 i2 i3 j2 j3 kk
  rw [low4, hig4]
  omega
theorem los_bound {at' : Int} {ls : List Ld} (h0 : -20000 ≤ at') (h1 : at' ≤ 20000) (h : ∀ l, l ∈ ls → l.ok = true) (h50 : ls.length ≤ 50) (m kk : Nat) :
    (-4000000000000000 ≤ loS at' (ls.take m) kk ∧ loS at' (ls.take m) kk ≤ 4000000000000000) ∧ -4000000000000000 ≤ hiS at' (ls.take m) kk ∧ hiS at' (ls.take m) kk ≤ 4000000000000000 := by
  have hl : (ls.take m).length ≤ 50 := by rw [List.length_take]; omega
  have a := sum_bound (f := fun l => lowE at' l 4 kk) (m := 42949672960000) (ls.take m) (fun l hl => (low_bound h0 h1 (h l (List.mem_of_mem_take hl)) kk).1)
  have b := sum_bound (f := fun l => higE at' l 4 kk) (m := 42949672960000) (ls.take m) (fun l hl => (low_bound h0 h1 (h l (List.mem_of_mem_take hl)) kk).2)
  unfold loS hiS
  omega
/-- Four cells that may be written. -/
structure Quad (w : World) (b : Nat) (f : Nat → Int) : Prop where
  c0 : w.cell? ⟨b, 0, none⟩ = some (.int .i64 (f 0))
  c1 : w.cell? ⟨b, 1, none⟩ = some (.int .i64 (f 1))
  c2 : w.cell? ⟨b, 2, none⟩ = some (.int .i64 (f 2))
  c3 : w.cell? ⟨b, 3, none⟩ = some (.int .i64 (f 3))
  fz : ∀ j, w.frozen? ⟨b, j, none⟩ = false
theorem Quad.lt {w : World} {b : Nat} {f : Nat → Int} (h : Quad w b f) : b < w.heap.size := World.block_lt_of_cell? _ _ h.c0
theorem Quad.get {w : World} {b : Nat} {f : Nat → Int} (h : Quad w b f) {i : Nat} (hi : i < 4) : w.cell? ⟨b, i, none⟩ = some (.int .i64 (f i)) := by
  have : i = 0 ∨ i = 1 ∨ i = 2 ∨ i = 3 := by omega
  rcases this with e | e | e | e <;> subst e
  · exact h.c0
  · exact h.c1
  · exact h.c2
  · exact h.c3
theorem Quad.of {w : World} {b : Nat} {f : Nat → Int} (h : ∀ i, i < 4 → w.cell? ⟨b, i, none⟩ = some (.int .i64 (f i))) (hf : ∀ j, w.frozen? ⟨b, j, none⟩ = false) : Quad w b f :=
  ⟨h 0 (by omega), h 1 (by omega), h 2 (by omega), h 3 (by omega), hf⟩
theorem Quad.same {w : World} {b : Nat} {f g : Nat → Int} (h : Quad w b f) (e : ∀ i, i < 4 → g i = f i) : Quad w b g := .of (fun i hi => by rw [e i hi]; exact h.get hi) h.fz
theorem Quad.new (w : World) (t : TypeId) : Quad (w.alloc (.cells #[.int .i64 0, .int .i64 0, .int .i64 0, .int .i64 0] t)) w.heap.size (fun _ => 0) :=
  ⟨by go_cell, by go_cell, by go_cell, by go_cell, fun _ => World.frozen?_alloc_at _ _ _ _ rfl⟩
theorem Quad.later {w w1 : World} {b : Nat} {f : Nat → Int} (h : Quad w b f) (hb : Below w.heap.size w w1) : Quad w1 b f :=
  ⟨cell_later hb h.c0, cell_later hb h.c1, cell_later hb h.c2, cell_later hb h.c3, fun j => by rw [(bcell hb).2 _ _ h.lt]; exact h.fz j⟩
theorem Quad.store {w : World} {b : Nat} {f f' : Nat → Int} (h : Quad w b f) {k : Nat} (hk : k < 4) (z : Int) (hz : f' k = z) (hr : ∀ i, i < 4 → i ≠ k → f' i = f i) : Quad (w.setCell ⟨b, k, none⟩ (.int .i64 z)) b f' := by
  refine .of (fun i hi => ?_) (fun j => by rw [World.frozen?_setCell]; exact h.fz j)
  by_cases e : i = k
  · subst e
    rw [hz]
    exact World.cell?_setCell_same _ _ _ (h.get hk)
  · rw [World.cell?_setCell_other _ _ _ _ (ne_off (Ne.symm e)), hr i hi e]
    exact h.get hi
theorem Quad.other {w : World} {b g o : Nat} {f : Nat → Int} (h : Quad w b f) (hne : b ≠ g) (v : Value) : Quad (w.setCell ⟨g, o, none⟩ v) b f :=
  .of (fun i hi => by rw [cell_far _ _ hne]; exact h.get hi) (fun j => by rw [World.frozen?_setCell]; exact h.fz j)
/-- Nothing but what stands in two blocks has changed. -/
structure Beside (b1 b2 : Nat) (W W' : World) : Prop where
  os : W'.os = W.os
  tape : W'.tape = W.tape
  output : W'.output = W.output
  size : W.heap.size ≤ W'.heap.size
  block : ∀ k, k < W.heap.size → k ≠ b1 → k ≠ b2 → W'.heap[k]? = W.heap[k]?
theorem Beside.refl (b1 b2 : Nat) (W : World) : Beside b1 b2 W W := ⟨rfl, rfl, rfl, Nat.le_refl _, fun _ _ _ _ => rfl⟩
theorem Beside.trans {b1 b2 : Nat} {A B C : World} (h : Beside b1 b2 A B) (k : Beside b1 b2 B C) : Beside b1 b2 A C :=
  ⟨k.os.trans h.os, k.tape.trans h.tape, k.output.trans h.output, Nat.le_trans h.size k.size, fun i hi h1 h2 => (k.block i (Nat.lt_of_lt_of_le hi h.size) h1 h2).trans (h.block i hi h1 h2)⟩
theorem Beside.of {b1 b2 : Nat} {A B : World} (h : Below A.heap.size A B) : Beside b1 b2 A B := ⟨h.os, h.tape, h.output, h.size, fun k hk _ _ => h.block k hk⟩
theorem Beside.store1 {b1 b2 o : Nat} (A : World) (v : Value) : Beside b1 b2 A (A.setCell ⟨b1, o, none⟩ v) :=
  ⟨rfl, rfl, rfl, by simp, fun i _ h1 _ => Below.heap_setCell A ⟨b1, o, none⟩ v i h1⟩
theorem Beside.store2 {b1 b2 o : Nat} (A : World) (v : Value) : Beside b1 b2 A (A.setCell ⟨b2, o, none⟩ v) :=
  ⟨rfl, rfl, rfl, by simp, fun i _ _ h2 => Below.heap_setCell A ⟨b2, o, none⟩ v i h2⟩
theorem Beside.cell {b1 b2 : Nat} {A B : World} (h : Beside b1 b2 A B) {b o : Nat} {v : Value} (hc : A.cell? ⟨b, o, none⟩ = some v) (h1 : b ≠ b1) (h2 : b ≠ b2) : B.cell? ⟨b, o, none⟩ = some v :=
  (World.cell?_of_block (h.block b (World.block_lt_of_cell? _ _ hc) h1 h2)).trans hc
theorem Beside.below {b1 b2 m : Nat} {A B : World} (h : Beside b1 b2 A B) (h1 : m ≤ b1) (h2 : m ≤ b2) (hm : m ≤ A.heap.size) : Below m A B :=
  ⟨h.os, h.tape, h.output, h.size, fun k hk => h.block k (by omega) (by omega) (by omega)⟩
theorem Beside.quad {b1 b2 b : Nat} {A B : World} {f : Nat → Int} (h : Beside b1 b2 A B) (q : Quad A b f) (h1 : b ≠ b1) (h2 : b ≠ b2) : Quad B b f :=
  ⟨h.cell q.c0 h1 h2, h.cell q.c1 h1 h2, h.cell q.c2 h1 h2, h.cell q.c3 h1 h2, fun j => (World.frozen?_of_block (h.block b q.lt h1 h2)).trans (q.fz j)⟩
end Go.Proofs.Ytldnpnplgfkebaa
