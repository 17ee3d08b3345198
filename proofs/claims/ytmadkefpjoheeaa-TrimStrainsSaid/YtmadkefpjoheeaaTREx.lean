/- The reference of layer 4: extremes. -/
import Derived.Test.YtmadkefpjoheeaaTShE
import Derived.Test.YtmadkefpjoheeaaTRBal2
namespace Go.Proofs.Ytmadkefpjoheeaa
open Go.RowKit

def loX (a b c d : Int) (j : Nat) : Int := if j = 1 then a else if j = 2 then min a b else if j = 3 then min (min a b) c else min (min (min a b) c) d
def hiX (a b c d : Int) (j : Nat) : Int := if j = 1 then a else if j = 2 then max a b else if j = 3 then max (max a b) c else max (max (max a b) c) d
/-- Four numbers in a row. -/
structure Row4 (w : World) (g : Nat) (a b c d : Int) : Prop where
  c0 : w.cell? ⟨g, 0, none⟩ = some (.int .i64 a)
  c1 : w.cell? ⟨g, 1, none⟩ = some (.int .i64 b)
  c2 : w.cell? ⟨g, 2, none⟩ = some (.int .i64 c)
  c3 : w.cell? ⟨g, 3, none⟩ = some (.int .i64 d)
theorem Row4.far {w : World} {g n o : Nat} {a b c d : Int} (k : Row4 w g a b c d) (h : g ≠ n) (v : Value) : Row4 (w.setCell ⟨n, o, none⟩ v) g a b c d :=
  ⟨by rw [cell_far _ _ h]; exact k.c0, by rw [cell_far _ _ h]; exact k.c1, by rw [cell_far _ _ h]; exact k.c2, by rw [cell_far _ _ h]; exact k.c3⟩
theorem Row4.later {w w1 : World} {g : Nat} {a b c d : Int} (k : Row4 w g a b c d) (hb : Below w.heap.size w w1) : Row4 w1 g a b c d := ⟨cell_later hb k.c0, cell_later hb k.c1, cell_later hb k.c2, cell_later hb k.c3⟩
/-- What stands while extremes are looked for: n is where the world ended. -/
structure ExS (w wr : World) (n : Nat) (a b c d lo hi : Int) : Prop where
  below : Below w.heap.size w wr
  r : Box2 wr (n + 1 + 1) 0 0
  row : Row4 wr (n + 1 + 1 + 1) a b c d
  s : Box2 wr (n + 1 + 1 + 1 + 1) lo hi
  le : w.heap.size ≤ n
section
variable {w wr w1 : World} {n : Nat} {a b c d lo hi : Int}
theorem ExS.later (k : ExS w wr n a b c d lo hi) (hb : Below wr.heap.size wr w1) : ExS w w1 n a b c d lo hi := ⟨k.below.trans (hb.mono k.below.size), k.r.later hb, k.row.later hb, k.s.later hb, k.le⟩
theorem ExS.drew (k : ExS w wr n a b c d lo hi) : ExS w wr.drew n a b c d lo hi := k.later (below_drewN (Below.refl _ _) 1)
theorem ExS.lo' (k : ExS w wr n a b c d lo hi) (z : Int) : ExS w (wr.setCell ⟨n + 1 + 1 + 1 + 1, 0, none⟩ (.int .i64 z)) n a b c d z hi :=
  ⟨k.below.setCell (by have := k.le; simp; omega) _, k.r.far (by omega) _, k.row.far (by omega) _, k.s.set0 z, k.le⟩
theorem ExS.hi' (k : ExS w wr n a b c d lo hi) (z : Int) : ExS w (wr.setCell ⟨n + 1 + 1 + 1 + 1, 1, none⟩ (.int .i64 z)) n a b c d lo z :=
  ⟨k.below.setCell (by have := k.le; simp; omega) _, k.r.far (by omega) _, k.row.far (by omega) _, k.s.set1 z, k.le⟩
end
def ExHd (w : World) (n : Nat) (a b c d : Int) (wr : World) (v : Value) : Prop := ∃ j : Nat, (j = 1 ∨ j = 2 ∨ j = 3 ∨ j = 4) ∧ v = .int .i64 j ∧ ExS w wr n a b c d (loX a b c d j) (hiX a b c d j)
set_option linter.unusedSimpArgs false in
set_option maxRecDepth 100000 in
set_option maxHeartbeats 8000000 in
theorem rextremes_any (a b c d : Int) (w : World) (ha : -40000 ≤ a ∧ a ≤ 40000) (hb : -40000 ≤ b ∧ b ≤ 40000) (hc : -1073741824 ≤ c ∧ c ≤ 1073741824) (hd : -1073741824 ≤ d ∧ d ≤ 1073741824) :
    Calls Try.prog 114 #[sp a b, sp c d] w fun e w' => e = .returned (sp (exLo a b c d) (exHi a b c d)) ∧ Below w.heap.size w w' := by
  have m1 := mul_lim (m := 40000) (n := 1073741824) ha.1 ha.2 hc.1 hc.2
  have m2 := mul_lim (m := 40000) (n := 1073741824) ha.1 ha.2 hd.1 hd.2
  have m3 := mul_lim (m := 40000) (n := 1073741824) hb.1 hb.2 hc.1 hc.2
  have m4 := mul_lim (m := 40000) (n := 1073741824) hb.1 hb.2 hd.1 hd.2
  unfold exLo exHi
  obtain ⟨A, hA⟩ : ∃ x, a * c = x := ⟨_, rfl⟩
  obtain ⟨B, hB⟩ : ∃ x, a * d = x := ⟨_, rfl⟩
  obtain ⟨C, hC⟩ : ∃ x, b * c = x := ⟨_, rfl⟩
  obtain ⟨D, hD⟩ : ∃ x, b * d = x := ⟨_, rfl⟩
  rw [hA] at m1
  rw [hB] at m2
  rw [hC] at m3
  rw [hD] at m4
  have e1 : IntKind.i64.wrap (a * c) = A := by rw [hA]; exact IntWalk.i64_in _ ⟨by omega, by omega⟩
  have e2 : IntKind.i64.wrap (a * d) = B := by rw [hB]; exact IntWalk.i64_in _ ⟨by omega, by omega⟩
  have e3 : IntKind.i64.wrap (b * c) = C := by rw [hC]; exact IntWalk.i64_in _ ⟨by omega, by omega⟩
  have e4 : IntKind.i64.wrap (b * d) = D := by rw [hD]; exact IntWalk.i64_in _ ⟨by omega, by omega⟩
  rw [hA, hB, hC, hD]
  obtain ⟨E, hE⟩ : ∃ x, min (min (min A B) C) D = x := ⟨_, rfl⟩
  obtain ⟨F, hF⟩ : ∃ x, max (max (max A B) C) D = x := ⟨_, rfl⟩
  have HE := Lib.hid hE
  have HF := Lib.hid hF
  rw [hE, hF]
  clear hA hB hC hD hE hF m1 m2 m3 m4 ha hb hc hd
  go_enter Try.func114, Try.ntmps114
  go_wp2_with fail
  clear e1 e2 e3 e4
  go_region
  go_wp2_with fail
  go_loopw [7] (fun v7 wr => ExHd w w.heap.size A B C D wr v7) (fun v7 _ => 4 - (intOf v7).toNat)
  case atStart =>
    refine ⟨1, .inl rfl, rfl, ?_⟩
    rw [show loX A B C D 1 = A from rfl, show hiX A B C D 1 = A from rfl]
    exact ⟨by go_grown, ⟨by go_cell, by go_cell, by go_cell, by go_cell⟩, ⟨by go_cell, by go_cell, by go_cell, by go_cell⟩, ⟨by go_cell, by go_cell, by go_cell, by go_cell⟩, Nat.le_refl _⟩
  case round =>
    obtain ⟨j, hj, rfl, hs⟩ := hrel
    have HSx := Lib.hid hs
    clear hs
    rcases hj with rfl | rfl | rfl | rfl
    · skip
      obtain ⟨L, hL⟩ : ∃ x, loX A B C D (2 - 1) = x := ⟨_, rfl⟩
      obtain ⟨U, hU⟩ : ∃ x, hiX A B C D (2 - 1) = x := ⟨_, rfl⟩
      rw [show loX A B C D (2 - 1) = L from hL, show hiX A B C D (2 - 1) = U from hU] at HSx
      have HLo := Lib.hid (show loX A B C D 2 = min L B by rw [← hL]; rfl)
      have HUp := Lib.hid (show hiX A B C D 2 = max U B by rw [← hU]; rfl)
      clear hL hU
      have q0 := HSx.out.row.c1
      obtain ⟨s0, s1, sf0, sf1⟩ := HSx.out.s
      go_wp2_with fail
      refine AnyT.begin (fun w' => w' = World.drew _) 8 (by kernel_rfl) rfl (fun hHeld => ?_)
      refine AnyT.take (i := 0) (oi := _) (v := ?_) rfl (by kernel_rfl) (by kernel_rfl) (by kernel_rfl) (by kernel_rfl) (fun _ _ _ h => h) (Or.inl ⟨by kernel_rfl, ?_⟩) (by assumption) ?_
      rotate_left 1
      · intro wz hSw; subst hSw; go_simp; try with_reducible rfl
      try simp only [Act.put, List.setIfInBounds_toArray, List.set_cons_zero, List.set_cons_succ]
      refine AnyT.take (i := 1) (oi := _) (v := ?_) rfl (by kernel_rfl) (by kernel_rfl) (by kernel_rfl) (by kernel_rfl) (fun _ _ _ h => h) (Or.inl ⟨by kernel_rfl, ?_⟩) (by assumption) ?_
      rotate_left 1
      · intro wz hSw; subst hSw; go_simp; try with_reducible rfl
      try simp only [Act.put, List.setIfInBounds_toArray, List.set_cons_zero, List.set_cons_succ]
      refine AnyT.take (i := 2) (oi := _) (v := ?_) rfl (by kernel_rfl) (by kernel_rfl) (by kernel_rfl) (by kernel_rfl) (fun _ _ _ h => h) (Or.inl ⟨by kernel_rfl, ?_⟩) (by assumption) ?_
      rotate_left 1
      · intro wz hSw; subst hSw; go_simp; try with_reducible rfl
      try simp only [Act.put, List.setIfInBounds_toArray, List.set_cons_zero, List.set_cons_succ]
      refine AnyT.take (i := 3) (oi := _) (v := ?_) rfl (by kernel_rfl) (by kernel_rfl) (by kernel_rfl) (by kernel_rfl) (fun _ _ _ h => h) (Or.inl ⟨by kernel_rfl, ?_⟩) (by assumption) ?_
      rotate_left 1
      · intro wz hSw; subst hSw; go_simp; try with_reducible rfl
      try simp only [Act.put, List.setIfInBounds_toArray, List.set_cons_zero, List.set_cons_succ]
      refine AnyT.take (i := 4) (oi := _) (v := ?_) rfl (by kernel_rfl) (by kernel_rfl) (by kernel_rfl) (by kernel_rfl) (fun _ _ _ h => h) (Or.inl ⟨by kernel_rfl, ?_⟩) (by assumption) ?_
      rotate_left 1
      · intro wz hSw; subst hSw; go_simp; try with_reducible rfl
      try simp only [Act.put, List.setIfInBounds_toArray, List.set_cons_zero, List.set_cons_succ]
      refine AnyT.take (i := 5) (oi := _) (v := ?_) rfl (by kernel_rfl) (by kernel_rfl) (by kernel_rfl) (by kernel_rfl) (fun _ _ _ h => h) (Or.inl ⟨by kernel_rfl, ?_⟩) (by assumption) ?_
      rotate_left 1
      · intro wz hSw; subst hSw; go_simp; try with_reducible rfl
      try simp only [Act.put, List.setIfInBounds_toArray, List.set_cons_zero, List.set_cons_succ]
      refine AnyT.take (i := 6) (oi := _) (v := ?_) rfl (by kernel_rfl) (by kernel_rfl) (by kernel_rfl) (by kernel_rfl) (fun _ _ _ h => h) (Or.inl ⟨by kernel_rfl, ?_⟩) (by assumption) ?_
      rotate_left 1
      · intro wz hSw; subst hSw; go_simp; try with_reducible rfl
      try simp only [Act.put, List.setIfInBounds_toArray, List.set_cons_zero, List.set_cons_succ]
      refine AnyT.take (i := 7) (oi := _) (v := ?_) rfl (by kernel_rfl) (by kernel_rfl) (by kernel_rfl) (by kernel_rfl) (fun _ _ _ h => h) (Or.inl ⟨by kernel_rfl, ?_⟩) (by assumption) ?_
      rotate_left 1
      · intro wz hSw; subst hSw; go_simp; try with_reducible rfl
      try simp only [Act.put, List.setIfInBounds_toArray, List.set_cons_zero, List.set_cons_succ]
      clear hHeld
      refine AnyT.one (i := 8) (o := _) rfl (by kernel_rfl) (fun K hK => ?_)
      go_simp
      refine hK.out _ _ (fun h => absurd rfl h) ?_
      clear hK K
      refine AnyT.done (by kernel_rfl) ?_
      try simp only [Act.put, List.setIfInBounds_toArray, List.set_cons_zero, List.set_cons_succ]
      have hS1 := (HSx.out.lo' (min L B)).drew
      clear q0 s0 s1 sf0 sf1 HSx
      generalize (wr.setCell ⟨w.heap.size + 1 + 1 + 1 + 1, 0, none⟩ (.int .i64 (min L B))).drew = wa at *
      have HSx := Lib.hid hS1
      clear hS1
      have q0 := HSx.out.row.c1
      obtain ⟨s0, s1, sf0, sf1⟩ := HSx.out.s
      go_wp2_with fail
      refine AnyT.begin (fun w' => w' = World.drew _) 8 (by kernel_rfl) rfl (fun hHeld => ?_)
      refine AnyT.take (i := 0) (oi := _) (v := ?_) rfl (by kernel_rfl) (by kernel_rfl) (by kernel_rfl) (by kernel_rfl) (fun _ _ _ h => h) (Or.inl ⟨by kernel_rfl, ?_⟩) (by assumption) ?_
      rotate_left 1
      · intro wz hSw; subst hSw; go_simp; try with_reducible rfl
      try simp only [Act.put, List.setIfInBounds_toArray, List.set_cons_zero, List.set_cons_succ]
      refine AnyT.take (i := 1) (oi := _) (v := ?_) rfl (by kernel_rfl) (by kernel_rfl) (by kernel_rfl) (by kernel_rfl) (fun _ _ _ h => h) (Or.inl ⟨by kernel_rfl, ?_⟩) (by assumption) ?_
      rotate_left 1
      · intro wz hSw; subst hSw; go_simp; try with_reducible rfl
      try simp only [Act.put, List.setIfInBounds_toArray, List.set_cons_zero, List.set_cons_succ]
      refine AnyT.take (i := 2) (oi := _) (v := ?_) rfl (by kernel_rfl) (by kernel_rfl) (by kernel_rfl) (by kernel_rfl) (fun _ _ _ h => h) (Or.inl ⟨by kernel_rfl, ?_⟩) (by assumption) ?_
      rotate_left 1
      · intro wz hSw; subst hSw; go_simp; try with_reducible rfl
      try simp only [Act.put, List.setIfInBounds_toArray, List.set_cons_zero, List.set_cons_succ]
      refine AnyT.take (i := 3) (oi := _) (v := ?_) rfl (by kernel_rfl) (by kernel_rfl) (by kernel_rfl) (by kernel_rfl) (fun _ _ _ h => h) (Or.inl ⟨by kernel_rfl, ?_⟩) (by assumption) ?_
      rotate_left 1
      · intro wz hSw; subst hSw; go_simp; try with_reducible rfl
      try simp only [Act.put, List.setIfInBounds_toArray, List.set_cons_zero, List.set_cons_succ]
      refine AnyT.take (i := 4) (oi := _) (v := ?_) rfl (by kernel_rfl) (by kernel_rfl) (by kernel_rfl) (by kernel_rfl) (fun _ _ _ h => h) (Or.inl ⟨by kernel_rfl, ?_⟩) (by assumption) ?_
      rotate_left 1
      · intro wz hSw; subst hSw; go_simp; try with_reducible rfl
      try simp only [Act.put, List.setIfInBounds_toArray, List.set_cons_zero, List.set_cons_succ]
      refine AnyT.take (i := 5) (oi := _) (v := ?_) rfl (by kernel_rfl) (by kernel_rfl) (by kernel_rfl) (by kernel_rfl) (fun _ _ _ h => h) (Or.inl ⟨by kernel_rfl, ?_⟩) (by assumption) ?_
      rotate_left 1
      · intro wz hSw; subst hSw; go_simp; try with_reducible rfl
      try simp only [Act.put, List.setIfInBounds_toArray, List.set_cons_zero, List.set_cons_succ]
      refine AnyT.take (i := 6) (oi := _) (v := ?_) rfl (by kernel_rfl) (by kernel_rfl) (by kernel_rfl) (by kernel_rfl) (fun _ _ _ h => h) (Or.inl ⟨by kernel_rfl, ?_⟩) (by assumption) ?_
      rotate_left 1
      · intro wz hSw; subst hSw; go_simp; try with_reducible rfl
      try simp only [Act.put, List.setIfInBounds_toArray, List.set_cons_zero, List.set_cons_succ]
      refine AnyT.take (i := 7) (oi := _) (v := ?_) rfl (by kernel_rfl) (by kernel_rfl) (by kernel_rfl) (by kernel_rfl) (fun _ _ _ h => h) (Or.inl ⟨by kernel_rfl, ?_⟩) (by assumption) ?_
      rotate_left 1
      · intro wz hSw; subst hSw; go_simp; try with_reducible rfl
      try simp only [Act.put, List.setIfInBounds_toArray, List.set_cons_zero, List.set_cons_succ]
      clear hHeld
      refine AnyT.one (i := 8) (o := _) rfl (by kernel_rfl) (fun K hK => ?_)
      go_simp
      refine hK.out _ _ (fun h => absurd rfl h) ?_
      clear hK K
      refine AnyT.done (by kernel_rfl) ?_
      try simp only [Act.put, List.setIfInBounds_toArray, List.set_cons_zero, List.set_cons_succ]
      have hS1 := (HSx.out.hi' (max U B)).drew
      clear q0 s0 s1 sf0 sf1 HSx
      generalize (wa.setCell ⟨w.heap.size + 1 + 1 + 1 + 1, 1, none⟩ (.int .i64 (max U B))).drew = wb at *
      have HSx := Lib.hid hS1
      clear hS1
      go_wp2_with fail
      go_roundw
      case rel => exact ⟨2, .inr (.inl rfl), by go_num, by rw [HLo.out, HUp.out]; exact HSx.out⟩
      case measure => simp [intOf]
    · skip
      obtain ⟨L, hL⟩ : ∃ x, loX A B C D (3 - 1) = x := ⟨_, rfl⟩
      obtain ⟨U, hU⟩ : ∃ x, hiX A B C D (3 - 1) = x := ⟨_, rfl⟩
      rw [show loX A B C D (3 - 1) = L from hL, show hiX A B C D (3 - 1) = U from hU] at HSx
      have HLo := Lib.hid (show loX A B C D 3 = min L C by rw [← hL]; rfl)
      have HUp := Lib.hid (show hiX A B C D 3 = max U C by rw [← hU]; rfl)
      clear hL hU
      have q0 := HSx.out.row.c2
      obtain ⟨s0, s1, sf0, sf1⟩ := HSx.out.s
      go_wp2_with fail
      refine AnyT.begin (fun w' => w' = World.drew _) 8 (by kernel_rfl) rfl (fun hHeld => ?_)
      refine AnyT.take (i := 0) (oi := _) (v := ?_) rfl (by kernel_rfl) (by kernel_rfl) (by kernel_rfl) (by kernel_rfl) (fun _ _ _ h => h) (Or.inl ⟨by kernel_rfl, ?_⟩) (by assumption) ?_
      rotate_left 1
      · intro wz hSw; subst hSw; go_simp; try with_reducible rfl
      try simp only [Act.put, List.setIfInBounds_toArray, List.set_cons_zero, List.set_cons_succ]
      refine AnyT.take (i := 1) (oi := _) (v := ?_) rfl (by kernel_rfl) (by kernel_rfl) (by kernel_rfl) (by kernel_rfl) (fun _ _ _ h => h) (Or.inl ⟨by kernel_rfl, ?_⟩) (by assumption) ?_
      rotate_left 1
      · intro wz hSw; subst hSw; go_simp; try with_reducible rfl
      try simp only [Act.put, List.setIfInBounds_toArray, List.set_cons_zero, List.set_cons_succ]
      refine AnyT.take (i := 2) (oi := _) (v := ?_) rfl (by kernel_rfl) (by kernel_rfl) (by kernel_rfl) (by kernel_rfl) (fun _ _ _ h => h) (Or.inl ⟨by kernel_rfl, ?_⟩) (by assumption) ?_
      rotate_left 1
      · intro wz hSw; subst hSw; go_simp; try with_reducible rfl
      try simp only [Act.put, List.setIfInBounds_toArray, List.set_cons_zero, List.set_cons_succ]
      refine AnyT.take (i := 3) (oi := _) (v := ?_) rfl (by kernel_rfl) (by kernel_rfl) (by kernel_rfl) (by kernel_rfl) (fun _ _ _ h => h) (Or.inl ⟨by kernel_rfl, ?_⟩) (by assumption) ?_
      rotate_left 1
      · intro wz hSw; subst hSw; go_simp; try with_reducible rfl
      try simp only [Act.put, List.setIfInBounds_toArray, List.set_cons_zero, List.set_cons_succ]
      refine AnyT.take (i := 4) (oi := _) (v := ?_) rfl (by kernel_rfl) (by kernel_rfl) (by kernel_rfl) (by kernel_rfl) (fun _ _ _ h => h) (Or.inl ⟨by kernel_rfl, ?_⟩) (by assumption) ?_
      rotate_left 1
      · intro wz hSw; subst hSw; go_simp; try with_reducible rfl
      try simp only [Act.put, List.setIfInBounds_toArray, List.set_cons_zero, List.set_cons_succ]
      refine AnyT.take (i := 5) (oi := _) (v := ?_) rfl (by kernel_rfl) (by kernel_rfl) (by kernel_rfl) (by kernel_rfl) (fun _ _ _ h => h) (Or.inl ⟨by kernel_rfl, ?_⟩) (by assumption) ?_
      rotate_left 1
      · intro wz hSw; subst hSw; go_simp; try with_reducible rfl
      try simp only [Act.put, List.setIfInBounds_toArray, List.set_cons_zero, List.set_cons_succ]
      refine AnyT.take (i := 6) (oi := _) (v := ?_) rfl (by kernel_rfl) (by kernel_rfl) (by kernel_rfl) (by kernel_rfl) (fun _ _ _ h => h) (Or.inl ⟨by kernel_rfl, ?_⟩) (by assumption) ?_
      rotate_left 1
      · intro wz hSw; subst hSw; go_simp; try with_reducible rfl
      try simp only [Act.put, List.setIfInBounds_toArray, List.set_cons_zero, List.set_cons_succ]
      refine AnyT.take (i := 7) (oi := _) (v := ?_) rfl (by kernel_rfl) (by kernel_rfl) (by kernel_rfl) (by kernel_rfl) (fun _ _ _ h => h) (Or.inl ⟨by kernel_rfl, ?_⟩) (by assumption) ?_
      rotate_left 1
      · intro wz hSw; subst hSw; go_simp; try with_reducible rfl
      try simp only [Act.put, List.setIfInBounds_toArray, List.set_cons_zero, List.set_cons_succ]
      clear hHeld
      refine AnyT.one (i := 8) (o := _) rfl (by kernel_rfl) (fun K hK => ?_)
      go_simp
      refine hK.out _ _ (fun h => absurd rfl h) ?_
      clear hK K
      refine AnyT.done (by kernel_rfl) ?_
      try simp only [Act.put, List.setIfInBounds_toArray, List.set_cons_zero, List.set_cons_succ]
      have hS1 := (HSx.out.lo' (min L C)).drew
      clear q0 s0 s1 sf0 sf1 HSx
      generalize (wr.setCell ⟨w.heap.size + 1 + 1 + 1 + 1, 0, none⟩ (.int .i64 (min L C))).drew = wa at *
      have HSx := Lib.hid hS1
      clear hS1
      have q0 := HSx.out.row.c2
      obtain ⟨s0, s1, sf0, sf1⟩ := HSx.out.s
      go_wp2_with fail
      refine AnyT.begin (fun w' => w' = World.drew _) 8 (by kernel_rfl) rfl (fun hHeld => ?_)
      refine AnyT.take (i := 0) (oi := _) (v := ?_) rfl (by kernel_rfl) (by kernel_rfl) (by kernel_rfl) (by kernel_rfl) (fun _ _ _ h => h) (Or.inl ⟨by kernel_rfl, ?_⟩) (by assumption) ?_
      rotate_left 1
      · intro wz hSw; subst hSw; go_simp; try with_reducible rfl
      try simp only [Act.put, List.setIfInBounds_toArray, List.set_cons_zero, List.set_cons_succ]
      refine AnyT.take (i := 1) (oi := _) (v := ?_) rfl (by kernel_rfl) (by kernel_rfl) (by kernel_rfl) (by kernel_rfl) (fun _ _ _ h => h) (Or.inl ⟨by kernel_rfl, ?_⟩) (by assumption) ?_
      rotate_left 1
      · intro wz hSw; subst hSw; go_simp; try with_reducible rfl
      try simp only [Act.put, List.setIfInBounds_toArray, List.set_cons_zero, List.set_cons_succ]
      refine AnyT.take (i := 2) (oi := _) (v := ?_) rfl (by kernel_rfl) (by kernel_rfl) (by kernel_rfl) (by kernel_rfl) (fun _ _ _ h => h) (Or.inl ⟨by kernel_rfl, ?_⟩) (by assumption) ?_
      rotate_left 1
      · intro wz hSw; subst hSw; go_simp; try with_reducible rfl
      try simp only [Act.put, List.setIfInBounds_toArray, List.set_cons_zero, List.set_cons_succ]
      refine AnyT.take (i := 3) (oi := _) (v := ?_) rfl (by kernel_rfl) (by kernel_rfl) (by kernel_rfl) (by kernel_rfl) (fun _ _ _ h => h) (Or.inl ⟨by kernel_rfl, ?_⟩) (by assumption) ?_
      rotate_left 1
      · intro wz hSw; subst hSw; go_simp; try with_reducible rfl
      try simp only [Act.put, List.setIfInBounds_toArray, List.set_cons_zero, List.set_cons_succ]
      refine AnyT.take (i := 4) (oi := _) (v := ?_) rfl (by kernel_rfl) (by kernel_rfl) (by kernel_rfl) (by kernel_rfl) (fun _ _ _ h => h) (Or.inl ⟨by kernel_rfl, ?_⟩) (by assumption) ?_
      rotate_left 1
      · intro wz hSw; subst hSw; go_simp; try with_reducible rfl
      try simp only [Act.put, List.setIfInBounds_toArray, List.set_cons_zero, List.set_cons_succ]
      refine AnyT.take (i := 5) (oi := _) (v := ?_) rfl (by kernel_rfl) (by kernel_rfl) (by kernel_rfl) (by kernel_rfl) (fun _ _ _ h => h) (Or.inl ⟨by kernel_rfl, ?_⟩) (by assumption) ?_
      rotate_left 1
      · intro wz hSw; subst hSw; go_simp; try with_reducible rfl
      try simp only [Act.put, List.setIfInBounds_toArray, List.set_cons_zero, List.set_cons_succ]
      refine AnyT.take (i := 6) (oi := _) (v := ?_) rfl (by kernel_rfl) (by kernel_rfl) (by kernel_rfl) (by kernel_rfl) (fun _ _ _ h => h) (Or.inl ⟨by kernel_rfl, ?_⟩) (by assumption) ?_
      rotate_left 1
      · intro wz hSw; subst hSw; go_simp; try with_reducible rfl
      try simp only [Act.put, List.setIfInBounds_toArray, List.set_cons_zero, List.set_cons_succ]
      refine AnyT.take (i := 7) (oi := _) (v := ?_) rfl (by kernel_rfl) (by kernel_rfl) (by kernel_rfl) (by kernel_rfl) (fun _ _ _ h => h) (Or.inl ⟨by kernel_rfl, ?_⟩) (by assumption) ?_
      rotate_left 1
      · intro wz hSw; subst hSw; go_simp; try with_reducible rfl
      try simp only [Act.put, List.setIfInBounds_toArray, List.set_cons_zero, List.set_cons_succ]
      clear hHeld
      refine AnyT.one (i := 8) (o := _) rfl (by kernel_rfl) (fun K hK => ?_)
      go_simp
      refine hK.out _ _ (fun h => absurd rfl h) ?_
      clear hK K
      refine AnyT.done (by kernel_rfl) ?_
      try simp only [Act.put, List.setIfInBounds_toArray, List.set_cons_zero, List.set_cons_succ]
      have hS1 := (HSx.out.hi' (max U C)).drew
      clear q0 s0 s1 sf0 sf1 HSx
      generalize (wa.setCell ⟨w.heap.size + 1 + 1 + 1 + 1, 1, none⟩ (.int .i64 (max U C))).drew = wb at *
      have HSx := Lib.hid hS1
      clear hS1
      go_wp2_with fail
      go_roundw
      case rel => exact ⟨3, .inr (.inr (.inl rfl)), by go_num, by rw [HLo.out, HUp.out]; exact HSx.out⟩
      case measure => simp [intOf]
    · skip
      obtain ⟨L, hL⟩ : ∃ x, loX A B C D (4 - 1) = x := ⟨_, rfl⟩
      obtain ⟨U, hU⟩ : ∃ x, hiX A B C D (4 - 1) = x := ⟨_, rfl⟩
      rw [show loX A B C D (4 - 1) = L from hL, show hiX A B C D (4 - 1) = U from hU] at HSx
      have HLo := Lib.hid (show loX A B C D 4 = min L D by rw [← hL]; rfl)
      have HUp := Lib.hid (show hiX A B C D 4 = max U D by rw [← hU]; rfl)
      clear hL hU
      have q0 := HSx.out.row.c3
      obtain ⟨s0, s1, sf0, sf1⟩ := HSx.out.s
      go_wp2_with fail
      refine AnyT.begin (fun w' => w' = World.drew _) 8 (by kernel_rfl) rfl (fun hHeld => ?_)
      refine AnyT.take (i := 0) (oi := _) (v := ?_) rfl (by kernel_rfl) (by kernel_rfl) (by kernel_rfl) (by kernel_rfl) (fun _ _ _ h => h) (Or.inl ⟨by kernel_rfl, ?_⟩) (by assumption) ?_
      rotate_left 1
      · intro wz hSw; subst hSw; go_simp; try with_reducible rfl
      try simp only [Act.put, List.setIfInBounds_toArray, List.set_cons_zero, List.set_cons_succ]
      refine AnyT.take (i := 1) (oi := _) (v := ?_) rfl (by kernel_rfl) (by kernel_rfl) (by kernel_rfl) (by kernel_rfl) (fun _ _ _ h => h) (Or.inl ⟨by kernel_rfl, ?_⟩) (by assumption) ?_
      rotate_left 1
      · intro wz hSw; subst hSw; go_simp; try with_reducible rfl
      try simp only [Act.put, List.setIfInBounds_toArray, List.set_cons_zero, List.set_cons_succ]
      refine AnyT.take (i := 2) (oi := _) (v := ?_) rfl (by kernel_rfl) (by kernel_rfl) (by kernel_rfl) (by kernel_rfl) (fun _ _ _ h => h) (Or.inl ⟨by kernel_rfl, ?_⟩) (by assumption) ?_
      rotate_left 1
      · intro wz hSw; subst hSw; go_simp; try with_reducible rfl
      try simp only [Act.put, List.setIfInBounds_toArray, List.set_cons_zero, List.set_cons_succ]
      refine AnyT.take (i := 3) (oi := _) (v := ?_) rfl (by kernel_rfl) (by kernel_rfl) (by kernel_rfl) (by kernel_rfl) (fun _ _ _ h => h) (Or.inl ⟨by kernel_rfl, ?_⟩) (by assumption) ?_
      rotate_left 1
      · intro wz hSw; subst hSw; go_simp; try with_reducible rfl
      try simp only [Act.put, List.setIfInBounds_toArray, List.set_cons_zero, List.set_cons_succ]
      refine AnyT.take (i := 4) (oi := _) (v := ?_) rfl (by kernel_rfl) (by kernel_rfl) (by kernel_rfl) (by kernel_rfl) (fun _ _ _ h => h) (Or.inl ⟨by kernel_rfl, ?_⟩) (by assumption) ?_
      rotate_left 1
      · intro wz hSw; subst hSw; go_simp; try with_reducible rfl
      try simp only [Act.put, List.setIfInBounds_toArray, List.set_cons_zero, List.set_cons_succ]
      refine AnyT.take (i := 5) (oi := _) (v := ?_) rfl (by kernel_rfl) (by kernel_rfl) (by kernel_rfl) (by kernel_rfl) (fun _ _ _ h => h) (Or.inl ⟨by kernel_rfl, ?_⟩) (by assumption) ?_
      rotate_left 1
      · intro wz hSw; subst hSw; go_simp; try with_reducible rfl
      try simp only [Act.put, List.setIfInBounds_toArray, List.set_cons_zero, List.set_cons_succ]
      refine AnyT.take (i := 6) (oi := _) (v := ?_) rfl (by kernel_rfl) (by kernel_rfl) (by kernel_rfl) (by kernel_rfl) (fun _ _ _ h => h) (Or.inl ⟨by kernel_rfl, ?_⟩) (by assumption) ?_
      rotate_left 1
      · intro wz hSw; subst hSw; go_simp; try with_reducible rfl
      try simp only [Act.put, List.setIfInBounds_toArray, List.set_cons_zero, List.set_cons_succ]
      refine AnyT.take (i := 7) (oi := _) (v := ?_) rfl (by kernel_rfl) (by kernel_rfl) (by kernel_rfl) (by kernel_rfl) (fun _ _ _ h => h) (Or.inl ⟨by kernel_rfl, ?_⟩) (by assumption) ?_
      rotate_left 1
      · intro wz hSw; subst hSw; go_simp; try with_reducible rfl
      try simp only [Act.put, List.setIfInBounds_toArray, List.set_cons_zero, List.set_cons_succ]
      clear hHeld
      refine AnyT.one (i := 8) (o := _) rfl (by kernel_rfl) (fun K hK => ?_)
      go_simp
      refine hK.out _ _ (fun h => absurd rfl h) ?_
      clear hK K
      refine AnyT.done (by kernel_rfl) ?_
      try simp only [Act.put, List.setIfInBounds_toArray, List.set_cons_zero, List.set_cons_succ]
      have hS1 := (HSx.out.lo' (min L D)).drew
      clear q0 s0 s1 sf0 sf1 HSx
      generalize (wr.setCell ⟨w.heap.size + 1 + 1 + 1 + 1, 0, none⟩ (.int .i64 (min L D))).drew = wa at *
      have HSx := Lib.hid hS1
      clear hS1
      have q0 := HSx.out.row.c3
      obtain ⟨s0, s1, sf0, sf1⟩ := HSx.out.s
      go_wp2_with fail
      refine AnyT.begin (fun w' => w' = World.drew _) 8 (by kernel_rfl) rfl (fun hHeld => ?_)
      refine AnyT.take (i := 0) (oi := _) (v := ?_) rfl (by kernel_rfl) (by kernel_rfl) (by kernel_rfl) (by kernel_rfl) (fun _ _ _ h => h) (Or.inl ⟨by kernel_rfl, ?_⟩) (by assumption) ?_
      rotate_left 1
      · intro wz hSw; subst hSw; go_simp; try with_reducible rfl
      try simp only [Act.put, List.setIfInBounds_toArray, List.set_cons_zero, List.set_cons_succ]
      refine AnyT.take (i := 1) (oi := _) (v := ?_) rfl (by kernel_rfl) (by kernel_rfl) (by kernel_rfl) (by kernel_rfl) (fun _ _ _ h => h) (Or.inl ⟨by kernel_rfl, ?_⟩) (by assumption) ?_
      rotate_left 1
      · intro wz hSw; subst hSw; go_simp; try with_reducible rfl
      try simp only [Act.put, List.setIfInBounds_toArray, List.set_cons_zero, List.set_cons_succ]
      refine AnyT.take (i := 2) (oi := _) (v := ?_) rfl (by kernel_rfl) (by kernel_rfl) (by kernel_rfl) (by kernel_rfl) (fun _ _ _ h => h) (Or.inl ⟨by kernel_rfl, ?_⟩) (by assumption) ?_
      rotate_left 1
      · intro wz hSw; subst hSw; go_simp; try with_reducible rfl
      try simp only [Act.put, List.setIfInBounds_toArray, List.set_cons_zero, List.set_cons_succ]
      refine AnyT.take (i := 3) (oi := _) (v := ?_) rfl (by kernel_rfl) (by kernel_rfl) (by kernel_rfl) (by kernel_rfl) (fun _ _ _ h => h) (Or.inl ⟨by kernel_rfl, ?_⟩) (by assumption) ?_
      rotate_left 1
      · intro wz hSw; subst hSw; go_simp; try with_reducible rfl
      try simp only [Act.put, List.setIfInBounds_toArray, List.set_cons_zero, List.set_cons_succ]
      refine AnyT.take (i := 4) (oi := _) (v := ?_) rfl (by kernel_rfl) (by kernel_rfl) (by kernel_rfl) (by kernel_rfl) (fun _ _ _ h => h) (Or.inl ⟨by kernel_rfl, ?_⟩) (by assumption) ?_
      rotate_left 1
      · intro wz hSw; subst hSw; go_simp; try with_reducible rfl
      try simp only [Act.put, List.setIfInBounds_toArray, List.set_cons_zero, List.set_cons_succ]
      refine AnyT.take (i := 5) (oi := _) (v := ?_) rfl (by kernel_rfl) (by kernel_rfl) (by kernel_rfl) (by kernel_rfl) (fun _ _ _ h => h) (Or.inl ⟨by kernel_rfl, ?_⟩) (by assumption) ?_
      rotate_left 1
      · intro wz hSw; subst hSw; go_simp; try with_reducible rfl
      try simp only [Act.put, List.setIfInBounds_toArray, List.set_cons_zero, List.set_cons_succ]
      refine AnyT.take (i := 6) (oi := _) (v := ?_) rfl (by kernel_rfl) (by kernel_rfl) (by kernel_rfl) (by kernel_rfl) (fun _ _ _ h => h) (Or.inl ⟨by kernel_rfl, ?_⟩) (by assumption) ?_
      rotate_left 1
      · intro wz hSw; subst hSw; go_simp; try with_reducible rfl
      try simp only [Act.put, List.setIfInBounds_toArray, List.set_cons_zero, List.set_cons_succ]
      refine AnyT.take (i := 7) (oi := _) (v := ?_) rfl (by kernel_rfl) (by kernel_rfl) (by kernel_rfl) (by kernel_rfl) (fun _ _ _ h => h) (Or.inl ⟨by kernel_rfl, ?_⟩) (by assumption) ?_
      rotate_left 1
      · intro wz hSw; subst hSw; go_simp; try with_reducible rfl
      try simp only [Act.put, List.setIfInBounds_toArray, List.set_cons_zero, List.set_cons_succ]
      clear hHeld
      refine AnyT.one (i := 8) (o := _) rfl (by kernel_rfl) (fun K hK => ?_)
      go_simp
      refine hK.out _ _ (fun h => absurd rfl h) ?_
      clear hK K
      refine AnyT.done (by kernel_rfl) ?_
      try simp only [Act.put, List.setIfInBounds_toArray, List.set_cons_zero, List.set_cons_succ]
      have hS1 := (HSx.out.hi' (max U D)).drew
      clear q0 s0 s1 sf0 sf1 HSx
      generalize (wa.setCell ⟨w.heap.size + 1 + 1 + 1 + 1, 1, none⟩ (.int .i64 (max U D))).drew = wb at *
      have HSx := Lib.hid hS1
      clear hS1
      go_wp2_with fail
      go_roundw
      case rel => exact ⟨4, .inr (.inr (.inr rfl)), by go_num, by rw [HLo.out, HUp.out]; exact HSx.out⟩
      case measure => simp [intOf]
    · rw [show loX A B C D 4 = E from HE.out, show hiX A B C D 4 = F from HF.out] at HSx
      obtain ⟨s0, s1, sf0, sf1⟩ := HSx.out.s
      obtain ⟨r0, r1, rf0, rf1⟩ := HSx.out.r
      have hbe := HSx.out.below
      have z0 := HSx.out.r.lt
      go_wp2_with fail
      exact bodyPost_ret (v := sp E F) (by simp [results, Try.results114, go_sem, *]) rfl ⟨rfl, by go_grown⟩
end Go.Proofs.Ytmadkefpjoheeaa
