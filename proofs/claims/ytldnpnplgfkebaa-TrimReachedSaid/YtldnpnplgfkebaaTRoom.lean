/- Package trim: cargo.emptyRooms (an array of five numbers). -/
import Derived.Test.YtldnpnplgfkebaaTOff
import Derived.Test.YtldnpnplgfkebaaTIter
namespace Go.Proofs.Ytldnpnplgfkebaa
open Go.RowKit

/-- Five numbers as an array. -/
abbrev rmV (a b c d e : Int) : Value := .agg #[.int .i64 a, .int .i64 b, .int .i64 c, .int .i64 d, .int .i64 e]
/-- What room hold i has, 0 if there is none. -/
def roomS (hs : List Pu) (k i : Nat) : Int := if i < k then (hs.getD i default).w else 0
/-- Five cells. -/
structure Five (w : World) (b : Nat) (f : Nat → Int) : Prop where
  c0 : w.cell? ⟨b, 0, none⟩ = some (.int .i64 (f 0))
  c1 : w.cell? ⟨b, 1, none⟩ = some (.int .i64 (f 1))
  c2 : w.cell? ⟨b, 2, none⟩ = some (.int .i64 (f 2))
  c3 : w.cell? ⟨b, 3, none⟩ = some (.int .i64 (f 3))
  c4 : w.cell? ⟨b, 4, none⟩ = some (.int .i64 (f 4))
  fz : ∀ j, w.frozen? ⟨b, j, none⟩ = false
theorem Five.lt {w : World} {b : Nat} {f : Nat → Int} (h : Five w b f) : b < w.heap.size := World.block_lt_of_cell? _ _ h.c0
theorem Five.later {w w1 : World} {b : Nat} {f : Nat → Int} (h : Five w b f) (hb : Below w.heap.size w w1) : Five w1 b f :=
  ⟨cell_later hb h.c0, cell_later hb h.c1, cell_later hb h.c2, cell_later hb h.c3, cell_later hb h.c4, fun j => by rw [(bcell hb).2 _ _ h.lt]; exact h.fz j⟩
theorem Five.get {w : World} {b : Nat} {f : Nat → Int} (h : Five w b f) {i : Nat} (hi : i < 5) : w.cell? ⟨b, i, none⟩ = some (.int .i64 (f i)) := by
  have : i = 0 ∨ i = 1 ∨ i = 2 ∨ i = 3 ∨ i = 4 := by omega
  rcases this with e | e | e | e | e <;> subst e
  · exact h.c0
  · exact h.c1
  · exact h.c2
  · exact h.c3
  · exact h.c4
theorem Five.of {w : World} {b : Nat} {f : Nat → Int} (h : ∀ i, i < 5 → w.cell? ⟨b, i, none⟩ = some (.int .i64 (f i))) (hf : ∀ j, w.frozen? ⟨b, j, none⟩ = false) : Five w b f :=
  ⟨h 0 (by omega), h 1 (by omega), h 2 (by omega), h 3 (by omega), h 4 (by omega), hf⟩
theorem Five.store {w : World} {b : Nat} {f f' : Nat → Int} (h : Five w b f) {k : Nat} (hk : k < 5) (z : Int) (hz : f' k = z) (hr : ∀ i, i ≠ k → f' i = f i) : Five (w.setCell ⟨b, k, none⟩ (.int .i64 z)) b f' := by
  refine .of (fun i hi => ?_) (fun j => by rw [World.frozen?_setCell]; exact h.fz j)
  by_cases e : i = k
  · subst e
    rw [hz]
    exact World.cell?_setCell_same _ _ _ (h.get hk)
  · rw [World.cell?_setCell_other _ _ _ _ (ne_off (Ne.symm e)), hr i e]
    exact h.get hi
theorem five_far {w : World} {b b' k : Nat} {f : Nat → Int} {v : Value} (h : Five w b f) (hb : b ≠ b') : Five (w.setCell ⟨b', k, none⟩ v) b f := by
  refine .of (fun i hi => ?_) (fun j => by rw [World.frozen?_setCell]; exact h.fz j)
  rw [World.cell?_setCell_other _ _ _ _ (fun e => by injection e with e1; first | exact hb e1 | exact hb e1.symm)]
  exact h.get hi
theorem cg_far {w : World} {b b' k : Nat} {h p r s v : Value} (x : CgAt w b h p r s) (hb : b ≠ b') : CgAt (w.setCell ⟨b', k, none⟩ v) b h p r s := by
  have hfar : ∀ o, (w.setCell ⟨b', k, none⟩ v).cell? ⟨b, o, none⟩ = w.cell? ⟨b, o, none⟩ := fun o =>
    World.cell?_setCell_other _ _ _ _ (fun e => by injection e with e1; first | exact hb e1 | exact hb e1.symm)
  exact ⟨by rw [hfar]; exact x.c0, by rw [hfar]; exact x.c1, by rw [hfar]; exact x.c2, by rw [hfar]; exact x.c3⟩
theorem five_new (w : World) (t : TypeId) : Five (w.alloc (.cells #[.int .i64 0, .int .i64 0, .int .i64 0, .int .i64 0, .int .i64 0] t)) w.heap.size (fun _ => 0) :=
  ⟨by go_cell, by go_cell, by go_cell, by go_cell, by go_cell, fun j => World.frozen?_alloc_at _ _ _ _ rfl⟩
def ErRHead (hs : List Pu) (b2 b3 : Nat) (w wr : World) (v9 : Value) : Prop := ∃ k : Nat, k ≤ hs.length ∧ v9 = .int .i64 k ∧ Five wr b3 (roomS hs k) ∧ Five wr b2 (fun _ => 0) ∧ Below w.heap.size w wr
set_option linter.unusedSimpArgs false in
set_option maxRecDepth 100000 in
set_option maxHeartbeats 4000000 in
theorem emptyRooms_any (h p r s : Value) (hs : List Pu) (w : World) (hh : SlPu w h hs) (h5 : hs.length ≤ 5) :
    Calls Try.prog 129 #[cgV h p r s] w fun e w' => e = .returned (rmV (roomS hs 5 0) (roomS hs 5 1) (roomS hs 5 2) (roomS hs 5 3) (roomS hs 5 4)) ∧ Below w.heap.size w w' := by
  obtain ⟨a0, cap0, rfl, hl0, _⟩ := hh.form
  have HH := Lib.hid hh
  clear hh
  go_enter Try.func129, Try.ntmps129
  go_wp2_with fail
  obtain ⟨W0, hW0⟩ : ∃ W, w.alloc (.cells #[.slice a0 hs.length cap0, p, r, s] 149) = W := ⟨_, rfl⟩
  have hz0 : W0.heap.size = w.heap.size + 1 := by subst hW0; simp
  have hb0 : Below w.heap.size w W0 := by subst hW0; go_grown
  rw [hW0]
  clear hW0
  have h2 := five_new W0 186
  obtain ⟨W1, hW1⟩ : ∃ W, W0.alloc (.cells #[.int .i64 0, .int .i64 0, .int .i64 0, .int .i64 0, .int .i64 0] 186) = W := ⟨_, rfl⟩
  have hz1 : W1.heap.size = w.heap.size + 1 + 1 := by subst hW1; simp [hz0]
  have hb1 : Below W0.heap.size W0 W1 := by subst hW1; go_grown
  rw [hW1] at h2 ⊢
  clear hW1
  have h3 := five_new W1 186
  obtain ⟨W2, hW2⟩ : ∃ W, W1.alloc (.cells #[.int .i64 0, .int .i64 0, .int .i64 0, .int .i64 0, .int .i64 0] 186) = W := ⟨_, rfl⟩
  have hb2 : Below W1.heap.size W1 W2 := by subst hW2; go_grown
  rw [hW2] at h3 ⊢
  clear hW2
  rw [hz0] at h2
  rw [hz1] at h3
  have H3 := Lib.hid (show Five W2 (w.heap.size + 1 + 1) (roomS hs 0) from by
    have e : roomS hs 0 = fun _ => 0 := by funext i; unfold roomS; rw [if_neg (by omega)]
    rw [e]
    exact h3)
  have H2 := Lib.hid (h2.later hb2)
  have hB2 : Below w.heap.size w W2 := two (two hb0 hb1) hb2
  clear h2 h3 hb0 hb1 hb2 hz0 hz1
  go_loopw [9] (fun v9 wr => ErRHead hs (w.heap.size + 1) (w.heap.size + 1 + 1) w wr v9) (fun v9 _ => hs.length - (intOf v9).toNat)
  case atStart => exact ⟨0, by omega, rfl, H3.out, H2.out, hB2⟩
  case round =>
    obtain ⟨k, hk, rfl, hf3, hf2, hbr⟩ := hrel
    have HF3 := Lib.hid hf3
    have HF2 := Lib.hid hf2
    clear hf3 hf2
    have hk0 : (0 : Int) ≤ (k : Int) := by omega
    by_cases hlt : k < hs.length
    rotate_left 1
    · have hlt' : ¬ (k : Int) < (hs.length : Int) := by omega
      have hro : ∀ i, roomS hs k i = roomS hs 5 i := fun i => by
        unfold roomS
        by_cases e : i < k
        · rw [if_pos e, if_pos (by omega)]
        · rw [if_neg e]
          by_cases e5 : i < 5
          · rw [if_pos e5, List.getD_eq_getElem?_getD, List.getElem?_eq_none (by omega)]
            rfl
          · rw [if_neg e5]
      obtain ⟨a0', a1', a2', a3', a4', _⟩ := HF3.out
      obtain ⟨b0', b1', b2', b3', b4', bf⟩ := HF2.out
      have g0 := bf 0
      have g1 := bf 1
      have g2 := bf 2
      have g3 := bf 3
      have g4 := bf 4
      rw [hro 0] at a0'
      rw [hro 1] at a1'
      rw [hro 2] at a2'
      rw [hro 3] at a3'
      rw [hro 4] at a4'
      have HB := Lib.hid hbr
      clear hro bf
      obtain ⟨z0, hz0⟩ : ∃ z, roomS hs 5 0 = z := ⟨_, rfl⟩
      rw [hz0] at a0'
      have HZ0 := Lib.hid hz0
      clear hz0
      obtain ⟨z1, hz1⟩ : ∃ z, roomS hs 5 1 = z := ⟨_, rfl⟩
      rw [hz1] at a1'
      have HZ1 := Lib.hid hz1
      clear hz1
      obtain ⟨z2, hz2⟩ : ∃ z, roomS hs 5 2 = z := ⟨_, rfl⟩
      rw [hz2] at a2'
      have HZ2 := Lib.hid hz2
      clear hz2
      obtain ⟨z3, hz3⟩ : ∃ z, roomS hs 5 3 = z := ⟨_, rfl⟩
      rw [hz3] at a3'
      have HZ3 := Lib.hid hz3
      clear hz3
      obtain ⟨z4, hz4⟩ : ∃ z, roomS hs 5 4 = z := ⟨_, rfl⟩
      rw [hz4] at a4'
      have HZ4 := Lib.hid hz4
      clear hz4
      go_wp2_with fail
      rw [HZ0.out, HZ1.out, HZ2.out, HZ3.out, HZ4.out]
      refine bodyPost_ret (v := rmV z0 z1 z2 z3 z4) (by simp [results, Try.results129, go_sem, *]) rfl ⟨rfl, ?_⟩
      exact ((((HB.out.setCell (p := ⟨w.heap.size + 1, 0, none⟩) (Nat.le_succ _) _).setCell (p := ⟨w.heap.size + 1, 1, none⟩) (Nat.le_succ _) _).setCell (p := ⟨w.heap.size + 1, 2, none⟩) (Nat.le_succ _) _).setCell (p := ⟨w.heap.size + 1, 3, none⟩) (Nat.le_succ _) _).setCell (p := ⟨w.heap.size + 1, 4, none⟩) (Nat.le_succ _) _
    obtain ⟨b, off, c, rfl, hb, hc, hat⟩ := HH.out.at hlt
    obtain ⟨c0, c1⟩ := PuAt.later hat hbr
    have hlt' : (k : Int) < (hs.length : Int) := by omega
    have hl5 : (k : Int) < 5 := by omega
    have hRo := Lib.hid (show roomS hs (k + 1) k = c.w ∧ ∀ i, i ≠ k → roomS hs (k + 1) i = roomS hs k i from ⟨by
      unfold roomS
      rw [if_pos (by omega), List.getD_eq_getElem?_getD, hc]
      rfl, fun i hi => by
      unfold roomS
      by_cases e : i < k
      · rw [if_pos e, if_pos (by omega)]
      · rw [if_neg e, if_neg (by omega)]⟩)
    have hsz := hbr.size
    have hlt3 := HF3.out.lt
    have y0 := HF3.out.get (show k < 5 by omega)
    have f0 := HF3.out.fz k
    have HN3 := Lib.hid (HF3.out.store (show k < 5 by omega) c.w hRo.out.1 hRo.out.2)
    have HN2 := Lib.hid (five_far (b' := w.heap.size + 1 + 1) (k := k) (v := .int .i64 c.w) HF2.out (by omega))
    have HNb := Lib.hid (hbr.setCell (p := ⟨w.heap.size + 1 + 1, k, none⟩) (show w.heap.size ≤ w.heap.size + 1 + 1 by omega) (.int .i64 c.w))
    clear hc hat
    go_wp2_with fail
    go_roundw
    case rel => exact ⟨k + 1, by omega, by go_num, HN3.out.later ((Below.refl _ _).alloc (Nat.le_refl _) _), HN2.out.later ((Below.refl _ _).alloc (Nat.le_refl _) _), HNb.out.alloc HNb.out.size _⟩
    case measure => simp [intOf]; omega
end Go.Proofs.Ytldnpnplgfkebaa
