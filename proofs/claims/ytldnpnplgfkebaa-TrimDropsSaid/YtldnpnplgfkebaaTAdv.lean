/- Package trim: advance. -/
import Derived.Test.YtldnpnplgfkebaaTCnt
namespace Go.Proofs.Ytldnpnplgfkebaa
open Go.RowKit

/-- Whole numbers in block g, from o on. -/
def RowI (w : World) (g o : Nat) (zs : List Int) : Prop := ∀ (i : Nat) (z : Int), zs[i]? = some z → w.cell? ⟨g, o + i, none⟩ = some (.int .i64 z)
/-- The last number below k that can still go up. -/
def lastS (B : Int) (zs : List Int) : Nat → Option Nat
  | 0 => none
  | k + 1 => if zs.getD k 0 < B - (zs.length : Int) + (k : Int) then some k else lastS B zs k
/-- The next set of so many numbers. -/
def nextS (B : Int) (zs : List Int) : Option (List Int) := (lastS B zs zs.length).map fun i => zs.take i ++ (List.range (zs.length - i)).map fun (j : Nat) => zs.getD i 0 + 1 + (j : Int)
theorem RowI.next {w w1 : World} {g o i : Nat} {zs : List Int} (h : RowI w g o zs) (hi : i < zs.length) (hs : SetTo w w1 g (o + i) (zs.length - i) (fun (j : Nat) => zs.getD i 0 + 1 + (j : Int))) :
    RowI w1 g o (zs.take i ++ (List.range (zs.length - i)).map fun (j : Nat) => zs.getD i 0 + 1 + (j : Int)) := by
  intro k z hz
  have hlen : (zs.take i).length = i := by rw [List.length_take]; omega
  by_cases hk : k < i
  · rw [List.getElem?_append_left (by omega), List.getElem?_take_of_lt hk] at hz
    rw [hs.rest _ (by omega)]
    exact h k z hz
  · rw [List.getElem?_append_right (by omega), hlen, List.getElem?_map] at hz
    obtain ⟨j, hj, rfl⟩ := Option.map_eq_some_iff.1 hz
    obtain ⟨hj1, hj2⟩ := List.getElem?_eq_some_iff.1 hj
    have hj1' : k - i < zs.length - i := by simpa using hj1
    have hj2' : j = k - i := by simpa using hj2.symm
    subst hj2'
    have := hs.put (k - i) hj1'
    rw [show o + i + (k - i) = o + k by omega] at this
    exact this
/-- What advance does: nothing, or the next set in the place of the one that was. -/
def AdvP (B : Int) (zs : List Int) (g o : Nat) (w : World) (e : Ending) (w' : World) : Prop :=
  (nextS B zs = none ∧ e = .returned (.bool false) ∧ Below w.heap.size w w') ∨
  ∃ (ys : List Int) (k n : Nat) (f : Nat → Int) (w1 : World), nextS B zs = some ys ∧ e = .returned (.bool true) ∧ RowI w' g o ys ∧ k ≤ zs.length ∧ Below w.heap.size w w1 ∧ n = zs.length - k ∧ SetTo w1 w' g (o + k) n f
def AdHead (B : Int) (zs : List Int) (w wr : World) (v : Value) : Prop := ∃ k : Nat, k ≤ zs.length ∧ v = .int .i64 ((k : Int) - 1) ∧ lastS B zs zs.length = lastS B zs k ∧ Below w.heap.size w wr
set_option linter.unusedSimpArgs false in
set_option maxRecDepth 100000 in
set_option maxHeartbeats 8000000 in
theorem advance_any (g o c : Nat) (B : Int) (zs : List Int) (w : World) (hr : Room w g o zs.length) (hz : RowI w g o zs) (hb : ∀ z, z ∈ zs → -1000 ≤ z ∧ z ≤ 1000) (hn : zs.length ≤ 1000) (hc : zs.length ≤ c) (h0 : 0 ≤ B) (h1 : B ≤ 1000) :
    Calls Try.prog 119 #[.slice (some ⟨g, o, none⟩) zs.length c, .int .i64 B] w (AdvP B zs g o w) := by
  have HR := Lib.hid hr
  have HZ := Lib.hid hz
  have HB := Lib.hid hb
  clear hr hz hb
  go_enter Try.func119, Try.ntmps119
  go_wp2_with fail
  go_loopw [5] (fun v5 wr => AdHead B zs w wr v5) (fun v5 _ => (intOf v5 + 1).toNat)
  case atStart => exact ⟨zs.length, Nat.le_refl _, by go_num, rfl, Below.refl _ _⟩
  case round =>
    obtain ⟨k, hk, rfl, he, hbr⟩ := hrel
    have HE := Lib.hid he
    clear he
    cases k with
    | zero =>
      rw [show ((0 : Nat) : Int) - 1 = -1 from rfl]
      have HF := Lib.hid (show nextS B zs = none by unfold nextS; rw [HE.out, lastS]; rfl)
      go_wp2_with fail
      go_returns
      exact .inl ⟨HF.out, rfl, hbr⟩
    | succ k =>
      rw [show ((k + 1 : Nat) : Int) - 1 = (k : Int) by omega]
      have hlt : k < zs.length := by omega
      have hlt' : (k : Int) < (zs.length : Int) := by omega
      have hkn : k ≤ zs.length := by omega
      have hck : ¬ c = k := by omega
      have hk0 : (0 : Int) ≤ (k : Int) := by omega
      obtain ⟨z, hz⟩ : ∃ z, zs[k]? = some z := ⟨_, List.getElem?_eq_getElem hlt⟩
      obtain ⟨z0, z1⟩ := HB.out z (List.mem_of_getElem? hz)
      have hc0 : wr.cell? ⟨g, o + k, none⟩ = some (.int .i64 z) := cell_later hbr (HZ.out k z hz)
      have HD := Lib.hid (show zs.getD k 0 = z by rw [List.getD_eq_getElem?_getD, hz]; rfl)
      clear hz
      by_cases hlz : z < B - (zs.length : Int) + (k : Int)
      · have HF := Lib.hid (show nextS B zs = some (zs.take k ++ (List.range (zs.length - k)).map fun (j : Nat) => zs.getD k 0 + 1 + (j : Int)) by
          unfold nextS; rw [HE.out, lastS, HD.out, if_pos hlz, Option.map_some, HD.out])
        have hgz := HR.out.lt
        have hrz := hbr.size
        have HRr := Lib.hid (show Room wr g (o + k) (zs.length - k) from ⟨fun j hj => by
          obtain ⟨x, hx⟩ := HR.out.old (k + j) (by omega)
          exact ⟨x, by rw [Nat.add_assoc]; exact cell_later hbr hx⟩, fun j => by rw [(bcell hbr).2 _ _ HR.out.lt]; exact HR.out.fz j, by omega⟩)
        have HC0 := Lib.hid hc0
        go_wp2_with fail
        have hA : Below wr.heap.size wr wr.drew := below_drewN (Below.refl _ _) 1
        refine AnyV.start (Two 8 (fun w' => Below wr.heap.size wr w') 8 (fun _ => True)) 9 #[false, false, false, false, false, false, false, false, false] (by kernel_rfl) (by kernel_rfl) (by kernel_rfl) (fun _ => ⟨fun _ => hA, fun _ => trivial⟩) (fun _ => ?_)
        generalize World.drew wr = wd at hA ⊢
        clear hc0
        refine AnyV.take 8 9 (i := 0) (oi := _) (v := ?_) rfl (by kernel_rfl) (by kernel_rfl) (by kernel_rfl) (by kernel_rfl) (by kernel_rfl) (fun _ _ _ h => h) (Two.other (by decide)) (Or.inl ⟨by kernel_rfl, ?_⟩) (Two.till (fun _ => hA) (fun _ => trivial)) (fun _ => ?_)
        rotate_left 1
        · intro wz hSw'; have hSw := hSw'.1 rfl; clear hSw'; skip; go_simp; try with_reducible rfl
        try simp only [Act.put, List.setIfInBounds_toArray, List.set_cons_zero, List.set_cons_succ]
        refine AnyV.take 8 9 (i := 1) (oi := _) (v := ?_) rfl (by kernel_rfl) (by kernel_rfl) (by kernel_rfl) (by kernel_rfl) (by kernel_rfl) (fun _ _ _ h => h) (Two.other (by decide)) (Or.inl ⟨by kernel_rfl, ?_⟩) (Two.till (fun _ => hA) (fun _ => trivial)) (fun _ => ?_)
        rotate_left 1
        · intro wz hSw'; have hSw := hSw'.1 rfl; clear hSw'; skip; go_simp; try with_reducible rfl
        try simp only [Act.put, List.setIfInBounds_toArray, List.set_cons_zero, List.set_cons_succ]
        refine AnyV.take 8 9 (i := 2) (oi := _) (v := ?_) rfl (by kernel_rfl) (by kernel_rfl) (by kernel_rfl) (by kernel_rfl) (by kernel_rfl) (fun _ _ _ h => h) (Two.other (by decide)) (Or.inl ⟨by kernel_rfl, ?_⟩) (Two.till (fun _ => hA) (fun _ => trivial)) (fun _ => ?_)
        rotate_left 1
        · intro wz hSw'; have hSw := hSw'.1 rfl; clear hSw'; skip; go_simp; try with_reducible rfl
        try simp only [Act.put, List.setIfInBounds_toArray, List.set_cons_zero, List.set_cons_succ]
        refine AnyV.take 8 9 (i := 3) (oi := _) (v := ?_) rfl (by kernel_rfl) (by kernel_rfl) (by kernel_rfl) (by kernel_rfl) (by kernel_rfl) (fun _ _ _ h => h) (Two.other (by decide)) (Or.inl ⟨by kernel_rfl, ?_⟩) (Two.till (fun _ => hA) (fun _ => trivial)) (fun _ => ?_)
        rotate_left 1
        · intro wz hSw'; have hSw := hSw'.1 rfl; clear hSw'; skip; go_simp; try with_reducible rfl
        try simp only [Act.put, List.setIfInBounds_toArray, List.set_cons_zero, List.set_cons_succ]
        refine AnyV.take 8 9 (i := 4) (oi := _) (v := ?_) rfl (by kernel_rfl) (by kernel_rfl) (by kernel_rfl) (by kernel_rfl) (by kernel_rfl) (fun _ _ _ h => h) (Two.other (by decide)) (Or.inl ⟨by kernel_rfl, ?_⟩) (Two.till (fun _ => hA) (fun _ => trivial)) (fun _ => ?_)
        rotate_left 1
        · intro wz hSw'; have hSw := hSw'.1 rfl; clear hSw'; skip; go_simp; try with_reducible rfl
        try simp only [Act.put, List.setIfInBounds_toArray, List.set_cons_zero, List.set_cons_succ]
        refine AnyV.take 8 9 (i := 5) (oi := _) (v := ?_) rfl (by kernel_rfl) (by kernel_rfl) (by kernel_rfl) (by kernel_rfl) (by kernel_rfl) (fun _ _ _ h => h) (Two.other (by decide)) (Or.inl ⟨by kernel_rfl, ?_⟩) (Two.till (fun _ => hA) (fun _ => trivial)) (fun _ => ?_)
        rotate_left 1
        · intro wz hSw'; have hSw := hSw'.1 rfl; clear hSw'; skip; go_simp; try with_reducible rfl
        try simp only [Act.put, List.setIfInBounds_toArray, List.set_cons_zero, List.set_cons_succ]
        refine AnyV.take 8 9 (i := 6) (oi := _) (v := ?_) rfl (by kernel_rfl) (by kernel_rfl) (by kernel_rfl) (by kernel_rfl) (by kernel_rfl) (fun _ _ _ h => h) (Two.other (by decide)) (Or.inl ⟨by kernel_rfl, ?_⟩) (Two.till (fun _ => hA) (fun _ => trivial)) (fun _ => ?_)
        rotate_left 1
        · intro wz hSw'; have hSw := hSw'.1 rfl; clear hSw'; have h1 := cell_later hSw HC0.out; go_simp; try with_reducible rfl
        try simp only [Act.put, List.setIfInBounds_toArray, List.set_cons_zero, List.set_cons_succ]
        refine AnyV.take 8 9 (i := 7) (oi := _) (v := ?_) rfl (by kernel_rfl) (by kernel_rfl) (by kernel_rfl) (by kernel_rfl) (by kernel_rfl) (fun _ _ _ h => h) (Two.other (by decide)) (Or.inl ⟨by kernel_rfl, ?_⟩) (Two.till (fun _ => hA) (fun _ => trivial)) (fun _ => ?_)
        rotate_left 1
        · intro wz hSw'; have hSw := hSw'.1 rfl; clear hSw'; skip; go_simp; try with_reducible rfl
        try simp only [Act.put, List.setIfInBounds_toArray, List.set_cons_zero, List.set_cons_succ]
        refine AnyV.one (i := 8) (o := _) rfl (by kernel_rfl) (fun K hK => ?_)
        go_simp
        have hB6 := hbr.trans (hA.mono hbr.size)
        have HRd := Lib.hid (show Room wd g (o + k) (zs.length - k) from ⟨fun j hj => (HRr.out.old j hj).imp fun _ e => cell_later hA e, fun j => by rw [(bcell hA).2 _ _ HRr.out.lt]; exact HRr.out.fz j, by have := HRr.out.lt; have := hA.size; omega⟩)
        have HZd := Lib.hid (show RowI wd g o zs from fun i y hy => cell_later hB6 (HZ.out i y hy))
        rw [show IntKind.i64.wrap (z + 1) = z + 1 from IntWalk.i64_in _ ⟨by omega, by omega⟩]
        refine (count_any g (o + k) (zs.length - k) (c - k) (z + 1) _ HRd.out (by omega) (by omega) (by omega)).mono ?_
        rintro e w6 ⟨rfl, hs6⟩
        have HP := Lib.hid (show AdvP B zs g o w (.returned (.bool true)) w6 from .inr ⟨_, k, _, _, _, HF.out, rfl, HZd.out.next hlt (by rw [HD.out]; exact hs6), by omega, hB6, rfl, hs6⟩)
        clear hs6
        go_wp2_with fail
        refine hK.out _ _ (Two.till (fun h => absurd h (by decide)) (fun _ => trivial)) ?_
        clear hK K
        refine AnyV.done (by kernel_rfl) ?_
        try simp only [Act.put, List.setIfInBounds_toArray, List.set_cons_zero, List.set_cons_succ]
        go_wp2_with fail
        go_returns
        exact HP.out
      · have HF := Lib.hid (show lastS B zs zs.length = lastS B zs k by rw [HE.out, lastS, HD.out, if_neg hlz])
        go_wp2_with fail
        go_roundw
        case rel => exact ⟨k, by omega, by go_num, HF.out, hbr⟩
        case measure => simp [intOf]
end Go.Proofs.Ytldnpnplgfkebaa
