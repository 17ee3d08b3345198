/- Package trim: count, advance: a row of whole numbers that is written over. -/
import Derived.Test.YtldnpnplgfkebaaTSlk
namespace Go.Proofs.Ytldnpnplgfkebaa
open Go.RowKit

/-- Cells of block g that can be written: n of them from o on. -/
structure Room (w : World) (g o n : Nat) : Prop where
  old : ∀ j, j < n → ∃ x, w.cell? ⟨g, o + j, none⟩ = some x
  fz : ∀ j, w.frozen? ⟨g, j, none⟩ = false
  lt : g < w.heap.size
/-- From w to w1 the first k of block g's cells from o on have been set as f says; nothing else of block g, and nothing below it. -/
structure SetTo (w w1 : World) (g o k : Nat) (f : Nat → Int) : Prop where
  put : ∀ i, i < k → w1.cell? ⟨g, o + i, none⟩ = some (.int .i64 (f i))
  rest : ∀ j, (j < o ∨ o + k ≤ j) → w1.cell? ⟨g, j, none⟩ = w.cell? ⟨g, j, none⟩
  fz : ∀ j, w1.frozen? ⟨g, j, none⟩ = w.frozen? ⟨g, j, none⟩
  below : Below g w w1
  le : w.heap.size ≤ w1.heap.size
theorem SetTo.start (w : World) (g o : Nat) (f : Nat → Int) : SetTo w w g o 0 f := ⟨fun i hi => by omega, fun j _ => rfl, fun j => rfl, Below.refl _ _, Nat.le_refl _⟩
theorem SetTo.later {w w1 w2 : World} {g o k : Nat} {f : Nat → Int} (h : SetTo w w1 g o k f) (hg : g < w.heap.size) (hb : Below w1.heap.size w1 w2) : SetTo w w2 g o k f := by
  have hle := h.le
  have hsz := hb.size
  exact ⟨fun i hi => cell_later hb (h.put i hi), fun j hj => by rw [hb.cell (p := ⟨g, j, none⟩) (show g < w1.heap.size by omega)]; exact h.rest j hj, fun j => by rw [(bcell hb).2 _ _ (show g < w1.heap.size by omega)]; exact h.fz j,
    h.below.trans (hb.mono (by omega)), by omega⟩
theorem SetTo.store {w w1 : World} {g o k n : Nat} {f : Nat → Int} (z : Int) (h : SetTo w w1 g o k f) (hr : Room w g o n) (hk : k < n) (hz : f k = z) : SetTo w (w1.setCell ⟨g, o + k, none⟩ (.int .i64 z)) g o (k + 1) f := by
  obtain ⟨x, hx⟩ := hr.old k hk
  have hx1 : w1.cell? ⟨g, o + k, none⟩ = some x := by rw [h.rest _ (by omega)]; exact hx
  refine ⟨fun i hi => ?_, fun j hj => ?_, fun j => by rw [World.frozen?_setCell]; exact h.fz j, h.below.setCell (Nat.le_refl _) _, by simpa using h.le⟩
  · by_cases e : i = k
    · subst e; rw [hz]; exact World.cell?_setCell_same _ _ _ hx1
    · rw [World.cell?_setCell_other _ _ _ _ (ne_off (by omega))]; exact h.put i (by omega)
  · rw [World.cell?_setCell_other _ _ _ _ (ne_off (by omega))]; exact h.rest j (by omega)
def CnHead (g o n : Nat) (x : Int) (w wr : World) (v : Value) : Prop := ∃ k : Nat, k ≤ n ∧ v = .int .i64 k ∧ SetTo w wr g o k (fun i => x + i)
set_option maxHeartbeats 4000000 in
theorem count_any (g o n c : Nat) (x : Int) (w : World) (hr : Room w g o n) (hn : n ≤ 1000) (h0 : -1000000 ≤ x) (h1 : x ≤ 1000000) :
    Calls Try.prog 118 #[.slice (some ⟨g, o, none⟩) n c, .int .i64 x] w fun e w' => e = .returned (.tuple #[]) ∧ SetTo w w' g o n (fun i => x + i) := by
  have HR := Lib.hid hr
  clear hr
  go_enter Try.func118, Try.ntmps118
  go_wp2_with fail
  go_loopw [7] (fun v7 wr => CnHead g o n x w wr v7) (fun v7 _ => n - (intOf v7).toNat)
  case atStart => exact ⟨0, by omega, rfl, SetTo.start _ _ _ _⟩
  case round =>
    obtain ⟨k, hk, rfl, hs⟩ := hrel
    have HS := Lib.hid hs
    clear hs
    by_cases hlt : k < n
    rotate_left 1
    · obtain rfl : k = n := by omega
      go_wp2_with fail
      go_returns
      exact ⟨rfl, HS.out⟩
    have hlt' : (k : Int) < (n : Int) := by omega
    have hk0 : (0 : Int) ≤ (k : Int) := by omega
    obtain ⟨u, hu⟩ := HR.out.old k hlt
    have hu1 : wr.cell? ⟨g, o + k, none⟩ = some u := by rw [HS.out.rest _ (by omega)]; exact hu
    have hf1 : wr.frozen? ⟨g, o + k, none⟩ = false := by rw [HS.out.fz]; exact HR.out.fz _
    have hg := HR.out.lt
    have hle := HS.out.le
    clear hu
    go_wp2_with fail
    go_roundw
    case rel => exact ⟨k + 1, by omega, by go_num, HS.out.store (x + (k : Int)) HR.out hlt rfl⟩
    case measure => simp [intOf]; omega
end Go.Proofs.Ytldnpnplgfkebaa
/- Package trim: advance. -/
namespace Go.Proofs.Ytldnpnplgfkebaa
open Go.RowKit

/-- Whole numbers in block g, from o on. -/
def RowI (w : World) (g o : Nat) (zs : List Int) : Prop := ∀ (i : Nat) (z : Int), zs[i]? = some z → w.cell? ⟨g, o + i, none⟩ = some (.int .i64 z)
/-- The last number below k that can still go up. -/
def lastS (B : Int) (zs : List Int) : Nat → Option Nat
  | 0 => none
  | k + 1 => if zs.getD k 0 < B - (zs.length : Int) + (k : Int) then some k else lastS B zs k
/-- The next set of so many numbers. -/
def nextS (B : Int) (zs : List Int) : Option (List Int) := (lastS B zs zs.length).map fun i => zs.take i ++ (List.range (zs.length - i)).map fun (j : Nat) => zs.getD i 0 + 1 + (j : Int)
theorem RowI.next {w w1 : World} {g o i : Nat} {zs : List Int} (h : RowI w g o zs) (hi : i < zs.length) (hs : SetTo w w1 g (o + i) (zs.length - i) (fun (j : Nat) => zs.getD i 0 + 1 + (j : Int))) :
    RowI w1 g o (zs.take i ++ (List.range (zs.length - i)).map fun (j : Nat) => zs.getD i 0 + 1 + (j : Int)) := by
  intro k z hz
  have hlen : (zs.take i).length = i := by rw [List.length_take]; omega
  by_cases hk : k < i
  · rw [List.getElem?_append_left (by omega), List.getElem?_take_of_lt hk] at hz
    rw [hs.rest _ (by omega)]
    exact h k z hz
  · rw [List.getElem?_append_right (by omega), hlen, List.getElem?_map] at hz
    obtain ⟨j, hj, rfl⟩ := Option.map_eq_some_iff.1 hz
    obtain ⟨hj1, hj2⟩ := List.getElem?_eq_some_iff.1 hj
    have hj1' : k - i < zs.length - i := by simpa using hj1
    have hj2' : j = k - i := by simpa using hj2.symm
    subst hj2'
    have := hs.put (k - i) hj1'
    rw [show o + i + (k - i) = o + k by omega] at this
    exact this
/-- What advance does: nothing, or the next set in the place of the one that was. -/
def AdvP (B : Int) (zs : List Int) (g o : Nat) (w : World) (e : Ending) (w' : World) : Prop :=
  (nextS B zs = none ∧ e = .returned (.bool false) ∧ Below w.heap.size w w') ∨
  ∃ (ys : List Int) (k n : Nat) (f : Nat → Int) (w1 : World), nextS B zs = some ys ∧ e = .returned (.bool true) ∧ RowI w' g o ys ∧ k ≤ zs.length ∧ Below w.heap.size w w1 ∧ n = zs.length - k ∧ SetTo w1 w' g (o + k) n f
def AdHead (B : Int) (zs : List Int) (w wr : World) (v : Value) : Prop := ∃ k : Nat, k ≤ zs.length ∧ v = .int .i64 ((k : Int) - 1) ∧ lastS B zs zs.length = lastS B zs k ∧ Below w.heap.size w wr
set_option linter.unusedSimpArgs false in
set_option maxRecDepth 100000 in
set_option maxHeartbeats 8000000 in
theorem advance_any (g o c : Nat) (B : Int) (zs : List Int) (w : World) (hr : Room w g o zs.length) (hz : RowI w g o zs) (hb : ∀ z, z ∈ zs → -1000 ≤ z ∧ z ≤ 1000) (hn : zs.length ≤ 1000) (hc : zs.length ≤ c) (h0 : 0 ≤ B) (h1 : B ≤ 1000) :
    Calls Try.prog 119 #[.slice (some ⟨g, o, none⟩) zs.length c, .int .i64 B] w (AdvP B zs g o w) := by
  have HR := Lib.hid hr
  have HZ := Lib.hid hz
  have HB := Lib.hid hb
  clear hr hz hb
  go_enter Try.func119, Try.ntmps119
  go_wp2_with fail
  go_loopw [5] (fun v5 wr => AdHead B zs w wr v5) (fun v5 _ => (intOf v5 + 1).toNat)
  case atStart => exact ⟨zs.length, Nat.le_refl _, by go_num, rfl, Below.refl _ _⟩
  case round =>
    obtain ⟨k, hk, rfl, he, hbr⟩ := hrel
    have HE := Lib.hid he
    clear he
    cases k with
    | zero =>
      rw [show ((0 : Nat) : Int) - 1 = -1 from rfl]
      have HF := Lib.hid (show nextS B zs = none by unfold nextS; rw [HE.out, lastS]; rfl)
      go_wp2_with fail
      go_returns
      exact .inl ⟨HF.out, rfl, hbr⟩
    | succ k =>
      rw [show ((k + 1 : Nat) : Int) - 1 = (k : Int) by omega]
      have hlt : k < zs.length := by omega
      have hlt' : (k : Int) < (zs.length : Int) := by omega
      have hkn : k ≤ zs.length := by omega
      have hck : ¬ c = k := by omega
      have hk0 : (0 : Int) ≤ (k : Int) := by omega
      obtain ⟨z, hz⟩ : ∃ z, zs[k]? = some z := ⟨_, List.getElem?_eq_getElem hlt⟩
      obtain ⟨z0, z1⟩ := HB.out z (List.mem_of_getElem? hz)
      have hc0 : wr.cell? ⟨g, o + k, none⟩ = some (.int .i64 z) := cell_later hbr (HZ.out k z hz)
      have HD := Lib.hid (show zs.getD k 0 = z by rw [List.getD_eq_getElem?_getD, hz]; rfl)
      clear hz
      by_cases hlz : z < B - (zs.length : Int) + (k : Int)
      · have HF := Lib.hid (show nextS B zs = some (zs.take k ++ (List.range (zs.length - k)).map fun (j : Nat) => zs.getD k 0 + 1 + (j : Int)) by
          unfold nextS; rw [HE.out, lastS, HD.out, if_pos hlz, Option.map_some, HD.out])
        have hgz := HR.out.lt
        have hrz := hbr.size
        have HRr := Lib.hid (show Room wr g (o + k) (zs.length - k) from ⟨fun j hj => by
          obtain ⟨x, hx⟩ := HR.out.old (k + j) (by omega)
          exact ⟨x, by rw [Nat.add_assoc]; exact cell_later hbr hx⟩, fun j => by rw [(bcell hbr).2 _ _ HR.out.lt]; exact HR.out.fz j, by omega⟩)
        have HC0 := Lib.hid hc0
        go_wp2_with fail
        have hA : Below wr.heap.size wr wr.drew := below_drewN (Below.refl _ _) 1
        refine AnyV.start (Two 8 (fun w' => Below wr.heap.size wr w') 8 (fun _ => True)) 9 #[false, false, false, false, false, false, false, false, false] (by kernel_rfl) (by kernel_rfl) (by kernel_rfl) (fun _ => ⟨fun _ => hA, fun _ => trivial⟩) (fun _ => ?_)
        generalize World.drew wr = wd at hA ⊢
        clear hc0
        refine AnyV.take 8 9 (i := 0) (oi := _) (v := ?_) rfl (by kernel_rfl) (by kernel_rfl) (by kernel_rfl) (by kernel_rfl) (by kernel_rfl) (fun _ _ _ h => h) (Two.other (by decide)) (Or.inl ⟨by kernel_rfl, ?_⟩) (Two.till (fun _ => hA) (fun _ => trivial)) (fun _ => ?_)
        rotate_left 1
        · intro wz hSw'; have hSw := hSw'.1 rfl; clear hSw'; skip; go_simp; try with_reducible rfl
        try simp only [Act.put, List.setIfInBounds_toArray, List.set_cons_zero, List.set_cons_succ]
        refine AnyV.take 8 9 (i := 1) (oi := _) (v := ?_) rfl (by kernel_rfl) (by kernel_rfl) (by kernel_rfl) (by kernel_rfl) (by kernel_rfl) (fun _ _ _ h => h) (Two.other (by decide)) (Or.inl ⟨by kernel_rfl, ?_⟩) (Two.till (fun _ => hA) (fun _ => trivial)) (fun _ => ?_)
        rotate_left 1
        · intro wz hSw'; have hSw := hSw'.1 rfl; clear hSw'; skip; go_simp; try with_reducible rfl
        try simp only [Act.put, List.setIfInBounds_toArray, List.set_cons_zero, List.set_cons_succ]
        refine AnyV.take 8 9 (i := 2) (oi := _) (v := ?_) rfl (by kernel_rfl) (by kernel_rfl) (by kernel_rfl) (by kernel_rfl) (by kernel_rfl) (fun _ _ _ h => h) (Two.other (by decide)) (Or.inl ⟨by kernel_rfl, ?_⟩) (Two.till (fun _ => hA) (fun _ => trivial)) (fun _ => ?_)
        rotate_left 1
        · intro wz hSw'; have hSw := hSw'.1 rfl; clear hSw'; skip; go_simp; try with_reducible rfl
        try simp only [Act.put, List.setIfInBounds_toArray, List.set_cons_zero, List.set_cons_succ]
        refine AnyV.take 8 9 (i := 3) (oi := _) (v := ?_) rfl (by kernel_rfl) (by kernel_rfl) (by kernel_rfl) (by kernel_rfl) (by kernel_rfl) (fun _ _ _ h => h) (Two.other (by decide)) (Or.inl ⟨by kernel_rfl, ?_⟩) (Two.till (fun _ => hA) (fun _ => trivial)) (fun _ => ?_)
        rotate_left 1
        · intro wz hSw'; have hSw := hSw'.1 rfl; clear hSw'; skip; go_simp; try with_reducible rfl
        try simp only [Act.put, List.setIfInBounds_toArray, List.set_cons_zero, List.set_cons_succ]
        refine AnyV.take 8 9 (i := 4) (oi := _) (v := ?_) rfl (by kernel_rfl) (by kernel_rfl) (by kernel_rfl) (by kernel_rfl) (by kernel_rfl) (fun _ _ _ h => h) (Two.other (by decide)) (Or.inl ⟨by kernel_rfl, ?_⟩) (Two.till (fun _ => hA) (fun _ => trivial)) (fun _ => ?_)
        rotate_left 1
        · intro wz hSw'; have hSw := hSw'.1 rfl; clear hSw'; skip; go_simp; try with_reducible rfl
        try simp only [Act.put, List.setIfInBounds_toArray, List.set_cons_zero, List.set_cons_succ]
        refine AnyV.take 8 9 (i := 5) (oi := _) (v := ?_) rfl (by kernel_rfl) (by kernel_rfl) (by kernel_rfl) (by kernel_rfl) (by kernel_rfl) (fun _ _ _ h => h) (Two.other (by decide)) (Or.inl ⟨by kernel_rfl, ?_⟩) (Two.till (fun _ => hA) (fun _ => trivial)) (fun _ => ?_)
        rotate_left 1
        · intro wz hSw'; have hSw := hSw'.1 rfl; clear hSw'; skip; go_simp; try with_reducible rfl
        try simp only [Act.put, List.setIfInBounds_toArray, List.set_cons_zero, List.set_cons_succ]
        refine AnyV.take 8 9 (i := 6) (oi := _) (v := ?_) rfl (by kernel_rfl) (by kernel_rfl) (by kernel_rfl) (by kernel_rfl) (by kernel_rfl) (fun _ _ _ h => h) (Two.other (by decide)) (Or.inl ⟨by kernel_rfl, ?_⟩) (Two.till (fun _ => hA) (fun _ => trivial)) (fun _ => ?_)
        rotate_left 1
        · intro wz hSw'; have hSw := hSw'.1 rfl; clear hSw'; have h1 := cell_later hSw HC0.out; go_simp; try with_reducible rfl
        try simp only [Act.put, List.setIfInBounds_toArray, List.set_cons_zero, List.set_cons_succ]
        refine AnyV.take 8 9 (i := 7) (oi := _) (v := ?_) rfl (by kernel_rfl) (by kernel_rfl) (by kernel_rfl) (by kernel_rfl) (by kernel_rfl) (fun _ _ _ h => h) (Two.other (by decide)) (Or.inl ⟨by kernel_rfl, ?_⟩) (Two.till (fun _ => hA) (fun _ => trivial)) (fun _ => ?_)
        rotate_left 1
        · intro wz hSw'; have hSw := hSw'.1 rfl; clear hSw'; skip; go_simp; try with_reducible rfl
        try simp only [Act.put, List.setIfInBounds_toArray, List.set_cons_zero, List.set_cons_succ]
        refine AnyV.one (i := 8) (o := _) rfl (by kernel_rfl) (fun K hK => ?_)
        go_simp
        have hB6 := hbr.trans (hA.mono hbr.size)
        have HRd := Lib.hid (show Room wd g (o + k) (zs.length - k) from ⟨fun j hj => (HRr.out.old j hj).imp fun _ e => cell_later hA e, fun j => by rw [(bcell hA).2 _ _ HRr.out.lt]; exact HRr.out.fz j, by have := HRr.out.lt; have := hA.size; omega⟩)
        have HZd := Lib.hid (show RowI wd g o zs from fun i y hy => cell_later hB6 (HZ.out i y hy))
        rw [show IntKind.i64.wrap (z + 1) = z + 1 from IntWalk.i64_in _ ⟨by omega, by omega⟩]
        refine (count_any g (o + k) (zs.length - k) (c - k) (z + 1) _ HRd.out (by omega) (by omega) (by omega)).mono ?_
        rintro e w6 ⟨rfl, hs6⟩
        have HP := Lib.hid (show AdvP B zs g o w (.returned (.bool true)) w6 from .inr ⟨_, k, _, _, _, HF.out, rfl, HZd.out.next hlt (by rw [HD.out]; exact hs6), by omega, hB6, rfl, hs6⟩)
        clear hs6
        go_wp2_with fail
        refine hK.out _ _ (Two.till (fun h => absurd h (by decide)) (fun _ => trivial)) ?_
        clear hK K
        refine AnyV.done (by kernel_rfl) ?_
        try simp only [Act.put, List.setIfInBounds_toArray, List.set_cons_zero, List.set_cons_succ]
        go_wp2_with fail
        go_returns
        exact HP.out
      · have HF := Lib.hid (show lastS B zs zs.length = lastS B zs k by rw [HE.out, lastS, HD.out, if_neg hlz])
        go_wp2_with fail
        go_roundw
        case rel => exact ⟨k, by omega, by go_num, HF.out, hbr⟩
        case measure => simp [intOf]
end Go.Proofs.Ytldnpnplgfkebaa
/- Package trim: subsets (the iterator's maker); a copy of a row of whole numbers. -/
namespace Go.Proofs.Ytldnpnplgfkebaa
open Go.RowKit

set_option maxHeartbeats 1000000 in
theorem subsets_any (n : Int) (w : World) : Calls Try.prog 84 #[.int .i64 n] w fun e w' =>
    e = .returned (.func (.func 117) #[] #[.pointer (some ⟨w.heap.size, 0, none⟩)]) ∧ w'.cell? ⟨w.heap.size, 0, none⟩ = some (.int .i64 n) ∧ Below w.heap.size w w' := by
  have hmf := makeFunc_run
  go_enter Try.func84, Try.ntmps84
  go_wp2_with fail
  go_returns
  exact ⟨rfl, by go_cell, by go_grown⟩
/-- A row of numbers that stands is copied into one of the call's own. -/
theorem cloneI_any (g o c : Nat) (zs : List Int) (w : World) (hz : RowI w g o zs) (hn : zs.length ≤ 1000) :
    Calls Try.prog 87 #[.slice (some ⟨g, o, none⟩) zs.length c] w fun e w' => ∃ v, e = .returned v ∧ SlI w' v zs ∧ v ≠ .slice none 0 0 ∧ Below w.heap.size w w' := by
  refine (Try.slices_Clone_int g o zs.length c zs w (Nat.le_refl _) (by omega) (fun j hj => ?_)).mono fun e w' ⟨v, h1, h2, h3, h4⟩ => ⟨v, h1, SlI.of (B := w.heap.size) (e := 3) ?_ (by omega), h3, h4⟩
  · have := hz j zs[j] (List.getElem?_eq_getElem hj)
    rw [this, List.getD_eq_getElem?_getD, List.getElem?_eq_getElem hj]
    rfl
  · rw [List.take_length] at h2
    exact h2
end Go.Proofs.Ytldnpnplgfkebaa
