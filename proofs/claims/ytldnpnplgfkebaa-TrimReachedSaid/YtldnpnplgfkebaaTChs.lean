/- What the outright statements of layer 4 choose: a choice of loads, by numbers. -/
import Derived.Test.YtldnpnplgfkebaaTOut
import Derived.Test.YtldnpnplgfkebaaTail4
namespace Go.Proofs.Ytldnpnplgfkebaa
open Go.RowKit

/-- The loop's head: what has been chosen. -/
def CsHead (ls : List Ld) (w wr : World) (v5 v12 : Value) : Prop := ∃ (k : Nat) (ks : List Pu), k ≤ ls.length ∧ v12 = .int .i64 k ∧ ChoP ks (ls.take k) ∧ wr.ownsRow w.heap.size 89 2 v5 ks.length (spP ks) ∧ Below w.heap.size w wr
/-- A put, made of two numbers, laid as a row of one. -/
theorem put_one (w : World) (x y : Int) (t : TypeId) : SlPu (w.alloc (.cells #[.int .i64 x, .int .i64 y] t)) (.slice (some ⟨w.heap.size, 0, none⟩) 1 1) [⟨x, y⟩] := by
  refine .inr ⟨w.heap.size, 0, 1, rfl, by simp, by simp, by simp, fun i c e => ?_⟩
  rcases i with _ | i
  · simp at e
    subst e
    exact ⟨by go_cell, by go_cell⟩
  · simp at e
theorem take_snoc {α : Type} {l : List α} {k : Nat} {x : α} (h : l[k]? = some x) : l.take (k + 1) = l.take k ++ [x] := by
  rw [List.take_add_one, h, Option.toList_some]
set_option linter.unusedSimpArgs false in
set_option maxRecDepth 100000 in
set_option maxHeartbeats 8000000 in
theorem chosen_any (v : Value) (a2 : Option Addr) (l2 c2 : Nat) (ls : List Ld) (w : World) (hv : SlLd w v ls) (hby : ByAt w a2 l2) (h50 : ls.length ≤ 50) (hok : ∀ l, l ∈ ls → l.ok = true) :
    Calls Try.prog 48 #[v, .slice a2 l2 c2] w fun e w' => ∃ r ps, e = .returned r ∧ SlPu w' r ps ∧ ChoP ps ls ∧ Below w.heap.size w w' := by
  obtain ⟨ad, cap, rfl, hlen, hcap⟩ := hv.form
  have HV := Lib.hid hv
  have HBy := Lib.hid hby
  have HOk := Lib.hid hok
  clear hv hby hok
  go_enter Try.func48, Try.ntmps48
  go_wp2_with fail
  go_loopw [5, 12] (fun v5 v12 wr => CsHead ls w wr v5 v12) (fun _ v12 _ => ls.length - (intOf v12).toNat)
  case atStart => exact ⟨0, [], by omega, rfl, trivial, own_no _ _ _ _, Below.refl _ _⟩
  case round =>
    obtain ⟨k, ks, hk, rfl, hch, how, hbr⟩ := hrel
    have HO := Lib.hid how
    have HCh := Lib.hid hch
    clear how hch
    by_cases hlt : k < ls.length
    rotate_left 1
    · have HF := Lib.hid (show ChoP ks ls by have := HCh.out; rwa [List.take_of_length_le (by omega)] at this)
      go_wp2_with fail
      go_returns
      exact ⟨_, ks, rfl, SlPu.of HO.out (by have := HF.out.len; omega), HF.out, hbr⟩
    obtain ⟨bk, off, c, rfl, hb, hc, hat⟩ := HV.out.at hlt
    obtain ⟨c0, c1, c2', c3⟩ := LdAt.later hat (show Below w.heap.size w wr from hbr)
    have hlt' : (k : Int) < (ls.length : Int) := by omega
    have hk0 : (0 : Int) ≤ (k : Int) := by omega
    have HC := Lib.hid hc
    have HB := Lib.hid (show -1073741824 ≤ c.a0 ∧ c.a0 ≤ c.a1 ∧ c.a1 ≤ 1073741824 ∧ -1073741824 ≤ c.w0 ∧ c.w0 ≤ c.w1 ∧ c.w1 ≤ 1073741824 by
      have h := HOk.out c (List.mem_of_getElem? hc)
      unfold Ld.ok at h
      rw [Bool.and_eq_true, spB_iff, spB_iff] at h
      omega)
    have hsz := hbr.size
    clear hc hat
    have e2 : (2 * (k : Int)).toNat = 2 * k := by omega
    have e3 : (2 * (k : Int) + 1).toNat = 2 * k + 1 := by omega
    have hm0 : (0 : Int) ≤ 2 * (k : Int) := by omega
    have hm2 : (0 : Int) ≤ 2 * (k : Int) + 1 := by omega
    by_cases hl2 : 2 * k + 1 < l2
    · have hl2' : 2 * (k : Int) + 1 < (l2 : Int) := by omega
      have hl3' : 2 * (k : Int) < (l2 : Int) := by omega
      obtain ⟨g, o, x, rfl, hx, hx0, hx1⟩ := HBy.out (2 * k) (by omega)
      obtain ⟨g', o', y, hgg, hy, hy0, hy1⟩ := HBy.out (2 * k + 1) (by omega)
      cases hgg
      have gx := cell_later hbr hx
      have gy := cell_later hbr hy
      have HX := Lib.hid (And.intro hx0 hx1)
      have HY := Lib.hid (And.intro hy0 hy1)
      clear hx hy hx0 hx1 hy0 hy1 HV HOk
      go_wp2_with fail
      obtain ⟨W, hW⟩ : ∃ W, wr.alloc (.cells #[.int .i64 c.a0, .int .i64 c.a1, .int .i64 c.w0, .int .i64 c.w1] 91) = W := ⟨_, rfl⟩
      have HL0 := Lib.hid (show LdAt W wr.heap.size 0 c by subst hW; exact ⟨by go_cell, by go_cell, by go_cell, by go_cell⟩)
      have hbW : Below wr.heap.size wr W := by subst hW; go_grown
      rw [hW]
      clear hW c0 c1 c2' c3
      replace gx := cell_later hbW gx
      replace gy := cell_later hbW gy
      go_quiet (fail)
      have hbQ : Below W.heap.size W (W.drewN nq) := below_drewN (Below.refl _ _) _
      generalize W.drewN nq = W1 at *
      clear gx gy
      go_wp2_with fail
      have HL := Lib.hid (HL0.out.later hbQ)
      have hbQ' := two hbW hbQ
      have HO1 := Lib.hid (own_below HO.out hbQ')
      have hB1 : Below w.heap.size w W1 := hbr.trans (hbQ'.mono hbr.size)
      clear hbW hbQ hbQ' HL0 HO
      have hA : Below W1.heap.size W1 W1.drew := below_drewN (Below.refl _ _) 1
      refine AnyV.start (Two 11 (fun w' => Below W1.heap.size W1 w') 11 (fun _ => True)) 13 #[false, false, false, false, false, false, false, false, false, false, false, false, false] (by kernel_rfl) (by kernel_rfl) (by kernel_rfl) (fun _ => ⟨fun _ => hA, fun _ => trivial⟩) (fun _ => ?_)
      generalize World.drew W1 = wd at hA ⊢
      refine AnyV.take 11 12 (i := 0) (oi := _) (v := ?_) rfl (by kernel_rfl) (by kernel_rfl) (by kernel_rfl) (by kernel_rfl) (by kernel_rfl) (fun _ _ _ h => h) (Two.other (by decide)) (Or.inl ⟨by kernel_rfl, ?_⟩) (Two.till (fun _ => hA) (fun _ => trivial)) (fun _ => ?_)
      rotate_left 1
      · intro wz hSw'; clear hSw'; go_simp; try with_reducible rfl
      try simp only [Act.put, List.setIfInBounds_toArray, List.set_cons_zero, List.set_cons_succ]
      refine AnyV.take 11 12 (i := 1) (oi := _) (v := ?_) rfl (by kernel_rfl) (by kernel_rfl) (by kernel_rfl) (by kernel_rfl) (by kernel_rfl) (fun _ _ _ h => h) (Two.other (by decide)) (Or.inl ⟨by kernel_rfl, ?_⟩) (Two.till (fun _ => hA) (fun _ => trivial)) (fun _ => ?_)
      rotate_left 1
      · intro wz hSw'; clear hSw'; go_simp; try with_reducible rfl
      try simp only [Act.put, List.setIfInBounds_toArray, List.set_cons_zero, List.set_cons_succ]
      refine AnyV.take 11 12 (i := 2) (oi := _) (v := ?_) rfl (by kernel_rfl) (by kernel_rfl) (by kernel_rfl) (by kernel_rfl) (by kernel_rfl) (fun _ _ _ h => h) (Two.other (by decide)) (Or.inl ⟨by kernel_rfl, ?_⟩) (Two.till (fun _ => hA) (fun _ => trivial)) (fun _ => ?_)
      rotate_left 1
      · intro wz hSw'; have hSw := hSw'.1 rfl; clear hSw'; have h1 := (HL.out.later hSw).c0; have h2 := (HL.out.later hSw).c1; go_simp; try with_reducible rfl
      try simp only [Act.put, List.setIfInBounds_toArray, List.set_cons_zero, List.set_cons_succ]
      refine AnyV.take 11 12 (i := 3) (oi := _) (v := ?_) rfl (by kernel_rfl) (by kernel_rfl) (by kernel_rfl) (by kernel_rfl) (by kernel_rfl) (fun _ _ _ h => h) (Two.other (by decide)) (Or.inl ⟨by kernel_rfl, ?_⟩) (Two.till (fun _ => hA) (fun _ => trivial)) (fun _ => ?_)
      rotate_left 1
      · intro wz hSw'; clear hSw'; go_simp; try with_reducible rfl
      try simp only [Act.put, List.setIfInBounds_toArray, List.set_cons_zero, List.set_cons_succ]
      refine AnyV.take 11 12 (i := 5) (oi := _) (v := ?_) rfl (by kernel_rfl) (by kernel_rfl) (by kernel_rfl) (by kernel_rfl) (by kernel_rfl) (fun _ _ _ h => h) (Two.other (by decide)) (Or.inl ⟨by kernel_rfl, ?_⟩) (Two.till (fun _ => hA) (fun _ => trivial)) (fun _ => ?_)
      rotate_left 1
      · intro wz hSw'; clear hSw'; go_simp; try with_reducible rfl
      try simp only [Act.put, List.setIfInBounds_toArray, List.set_cons_zero, List.set_cons_succ]
      refine AnyV.take 11 12 (i := 6) (oi := _) (v := ?_) rfl (by kernel_rfl) (by kernel_rfl) (by kernel_rfl) (by kernel_rfl) (by kernel_rfl) (fun _ _ _ h => h) (Two.other (by decide)) (Or.inl ⟨by kernel_rfl, ?_⟩) (Two.till (fun _ => hA) (fun _ => trivial)) (fun _ => ?_)
      rotate_left 1
      · intro wz hSw'; have hSw := hSw'.1 rfl; clear hSw'; have h1 := (HL.out.later hSw).c2; have h2 := (HL.out.later hSw).c3; go_simp; try with_reducible rfl
      try simp only [Act.put, List.setIfInBounds_toArray, List.set_cons_zero, List.set_cons_succ]
      refine AnyV.take 11 12 (i := 7) (oi := _) (v := ?_) rfl (by kernel_rfl) (by kernel_rfl) (by kernel_rfl) (by kernel_rfl) (by kernel_rfl) (fun _ _ _ h => h) (Two.other (by decide)) (Or.inl ⟨by kernel_rfl, ?_⟩) (Two.till (fun _ => hA) (fun _ => trivial)) (fun _ => ?_)
      rotate_left 1
      · intro wz hSw'; clear hSw'; go_simp; try with_reducible rfl
      try simp only [Act.put, List.setIfInBounds_toArray, List.set_cons_zero, List.set_cons_succ]
      refine AnyV.one (i := 4) (o := _) rfl (by kernel_rfl) (fun K hK => ?_)
      go_simp
      refine (inside_any c.a0 c.a1 x _ HB.out.1 HB.out.2.1 HB.out.2.2.1 HX.out.1 HX.out.2).mono ?_
      rintro e w4 ⟨rfl, hb4⟩
      have hA4 := two hA hb4
      clear hA hb4
      have hA := hA4
      clear hA4
      go_wp2_with fail
      refine hK.out _ _ (Two.till (fun _ => hA) (fun _ => trivial)) ?_
      clear hK K
      try simp only [Act.put, List.setIfInBounds_toArray, List.set_cons_zero, List.set_cons_succ]
      refine AnyV.one (i := 8) (o := _) rfl (by kernel_rfl) (fun K hK => ?_)
      go_simp
      refine (inside_any c.w0 c.w1 y _ HB.out.2.2.2.1 HB.out.2.2.2.2.1 HB.out.2.2.2.2.2 HY.out.1 HY.out.2).mono ?_
      rintro e w8 ⟨rfl, hb8⟩
      have hA8 := two hA hb8
      clear hA hb8
      have hA := hA8
      clear hA8
      go_wp2_with fail
      refine hK.out _ _ (Two.till (fun _ => hA) (fun _ => trivial)) ?_
      clear hK K
      try simp only [Act.put, List.setIfInBounds_toArray, List.set_cons_zero, List.set_cons_succ]
      obtain ⟨X, hX⟩ : ∃ X, insE c.a0 c.a1 x = X := ⟨_, rfl⟩
      obtain ⟨Y, hY⟩ : ∃ X, insE c.w0 c.w1 y = X := ⟨_, rfl⟩
      have HXY := Lib.hid (show InP ⟨X, Y⟩ c by
        rw [← hX, ← hY]
        have h1 := ins_in x HB.out.2.1
        have h2 := ins_in y HB.out.2.2.2.2.1
        exact ⟨h1.1, h1.2, h2.1, h2.2⟩)
      rw [hX, hY]
      clear hX hY
      refine AnyV.one (i := 9) (o := _) rfl (by kernel_rfl) (fun K hK => ?_)
      go_simp
      refine hK.out _ _ (Two.till (fun _ => hA) (fun _ => trivial)) ?_
      clear hK K
      try simp only [Act.put, List.setIfInBounds_toArray, List.set_cons_zero, List.set_cons_succ]
      refine AnyV.one (i := 10) (o := _) rfl (by kernel_rfl) (fun K hK => ?_)
      go_simp
      have hrow := put_one w8 X Y 89
      have hb9 := (Below.refl w8.heap.size w8).alloc (Nat.le_refl _) (.cells #[.int .i64 X, .int .i64 Y] 89)
      obtain ⟨w9, hw9⟩ : ∃ W, w8.alloc (.cells #[.int .i64 X, .int .i64 Y] 89) = W := ⟨_, rfl⟩
      rw [hw9] at hrow hb9 ⊢
      clear hw9
      have hA9 := two hA hb9
      clear hA hb9
      have hA := hA9
      clear hA9
      refine hK.out _ _ (Two.till (fun _ => hA) (fun _ => trivial)) ?_
      clear hK K
      try simp only [Act.put, List.setIfInBounds_toArray, List.set_cons_zero, List.set_cons_succ]
      have HO9 := Lib.hid (own_below HO1.out hA)
      have hB9 := hB1.trans (hA.mono hB1.size)
      have hs9 := hB9.size
      have hkl := HCh.out.len
      rw [List.length_take] at hkl
      refine AnyV.one (i := 11) (o := _) rfl (by kernel_rfl) (fun K hK => ?_)
      rw [if_pos (by kernel_rfl)]
      refine wp_append_pus (.tmp 34) (.tmp 44) rfl w.heap.size _ _ ks [⟨X, Y⟩] rfl HO9.out rfl hrow (by simp; omega) hs9 ?_
      intro v' w10 ho10 hb10 hz10
      have HO10 := Lib.hid ho10
      have hB10 := hB9.trans hb10
      clear ho10 hb10
      refine hK.out _ _ (Two.till (fun h => absurd h (by decide)) (fun _ => trivial)) ?_
      clear hK K
      try simp only [Act.put, List.setIfInBounds_toArray, List.set_cons_zero, List.set_cons_succ]
      refine AnyV.one (i := 12) (o := _) rfl (by kernel_rfl) (fun K hK => ?_)
      go_simp
      refine hK.out _ _ (Two.till (fun h => absurd h (by decide)) (fun _ => trivial)) ?_
      clear hK K
      refine AnyV.done (by kernel_rfl) ?_
      try simp only [Act.put, List.setIfInBounds_toArray, List.set_cons_zero, List.set_cons_succ]
      have HN := Lib.hid (show ChoP (ks ++ [⟨X, Y⟩]) (ls.take (k + 1)) by rw [take_snoc HC.out]; exact HCh.out.snoc HXY.out)
      clear hrow hkl
      go_wp2_with fail
      go_roundw
      case rel => exact ⟨k + 1, ks ++ [⟨X, Y⟩], by omega, by go_num, HN.out, HO10.out, hB10⟩
      case measure => simp [intOf]; omega
    · have hl2' : ¬ 2 * (k : Int) + 1 < (l2 : Int) := by omega
      go_wp2_with fail
      obtain ⟨W, hW⟩ : ∃ W, wr.alloc (.cells #[.int .i64 c.a0, .int .i64 c.a1, .int .i64 c.w0, .int .i64 c.w1] 91) = W := ⟨_, rfl⟩
      have HL0 := Lib.hid (show LdAt W wr.heap.size 0 c by subst hW; exact ⟨by go_cell, by go_cell, by go_cell, by go_cell⟩)
      have hbW : Below wr.heap.size wr W := by subst hW; go_grown
      rw [hW]
      clear hW c0 c1 c2' c3
      have hbQ0 : Below W.heap.size W W := Below.refl _ _
      have HX := Lib.hid (show (0 : Int) ≤ 0 ∧ (0 : Int) < 65536 by omega)
      have HY := HX
      obtain ⟨W1, hW1⟩ : ∃ W1, W = W1 := ⟨_, rfl⟩
      have hbQ : Below W.heap.size W W1 := by rw [← hW1]; exact hbQ0
      rw [hW1]
      clear hW1 hbQ0
      have HL := Lib.hid (HL0.out.later hbQ)
      have hbQ' := two hbW hbQ
      have HO1 := Lib.hid (own_below HO.out hbQ')
      have hB1 : Below w.heap.size w W1 := hbr.trans (hbQ'.mono hbr.size)
      clear hbW hbQ hbQ' HL0 HO
      have hA : Below W1.heap.size W1 W1.drew := below_drewN (Below.refl _ _) 1
      refine AnyV.start (Two 11 (fun w' => Below W1.heap.size W1 w') 11 (fun _ => True)) 13 #[false, false, false, false, false, false, false, false, false, false, false, false, false] (by kernel_rfl) (by kernel_rfl) (by kernel_rfl) (fun _ => ⟨fun _ => hA, fun _ => trivial⟩) (fun _ => ?_)
      generalize World.drew W1 = wd at hA ⊢
      refine AnyV.take 11 12 (i := 0) (oi := _) (v := ?_) rfl (by kernel_rfl) (by kernel_rfl) (by kernel_rfl) (by kernel_rfl) (by kernel_rfl) (fun _ _ _ h => h) (Two.other (by decide)) (Or.inl ⟨by kernel_rfl, ?_⟩) (Two.till (fun _ => hA) (fun _ => trivial)) (fun _ => ?_)
      rotate_left 1
      · intro wz hSw'; clear hSw'; go_simp; try with_reducible rfl
      try simp only [Act.put, List.setIfInBounds_toArray, List.set_cons_zero, List.set_cons_succ]
      refine AnyV.take 11 12 (i := 1) (oi := _) (v := ?_) rfl (by kernel_rfl) (by kernel_rfl) (by kernel_rfl) (by kernel_rfl) (by kernel_rfl) (fun _ _ _ h => h) (Two.other (by decide)) (Or.inl ⟨by kernel_rfl, ?_⟩) (Two.till (fun _ => hA) (fun _ => trivial)) (fun _ => ?_)
      rotate_left 1
      · intro wz hSw'; clear hSw'; go_simp; try with_reducible rfl
      try simp only [Act.put, List.setIfInBounds_toArray, List.set_cons_zero, List.set_cons_succ]
      refine AnyV.take 11 12 (i := 2) (oi := _) (v := ?_) rfl (by kernel_rfl) (by kernel_rfl) (by kernel_rfl) (by kernel_rfl) (by kernel_rfl) (fun _ _ _ h => h) (Two.other (by decide)) (Or.inl ⟨by kernel_rfl, ?_⟩) (Two.till (fun _ => hA) (fun _ => trivial)) (fun _ => ?_)
      rotate_left 1
      · intro wz hSw'; have hSw := hSw'.1 rfl; clear hSw'; have h1 := (HL.out.later hSw).c0; have h2 := (HL.out.later hSw).c1; go_simp; try with_reducible rfl
      try simp only [Act.put, List.setIfInBounds_toArray, List.set_cons_zero, List.set_cons_succ]
      refine AnyV.take 11 12 (i := 3) (oi := _) (v := ?_) rfl (by kernel_rfl) (by kernel_rfl) (by kernel_rfl) (by kernel_rfl) (by kernel_rfl) (fun _ _ _ h => h) (Two.other (by decide)) (Or.inl ⟨by kernel_rfl, ?_⟩) (Two.till (fun _ => hA) (fun _ => trivial)) (fun _ => ?_)
      rotate_left 1
      · intro wz hSw'; clear hSw'; go_simp; try with_reducible rfl
      try simp only [Act.put, List.setIfInBounds_toArray, List.set_cons_zero, List.set_cons_succ]
      refine AnyV.take 11 12 (i := 5) (oi := _) (v := ?_) rfl (by kernel_rfl) (by kernel_rfl) (by kernel_rfl) (by kernel_rfl) (by kernel_rfl) (fun _ _ _ h => h) (Two.other (by decide)) (Or.inl ⟨by kernel_rfl, ?_⟩) (Two.till (fun _ => hA) (fun _ => trivial)) (fun _ => ?_)
      rotate_left 1
      · intro wz hSw'; clear hSw'; go_simp; try with_reducible rfl
      try simp only [Act.put, List.setIfInBounds_toArray, List.set_cons_zero, List.set_cons_succ]
      refine AnyV.take 11 12 (i := 6) (oi := _) (v := ?_) rfl (by kernel_rfl) (by kernel_rfl) (by kernel_rfl) (by kernel_rfl) (by kernel_rfl) (fun _ _ _ h => h) (Two.other (by decide)) (Or.inl ⟨by kernel_rfl, ?_⟩) (Two.till (fun _ => hA) (fun _ => trivial)) (fun _ => ?_)
      rotate_left 1
      · intro wz hSw'; have hSw := hSw'.1 rfl; clear hSw'; have h1 := (HL.out.later hSw).c2; have h2 := (HL.out.later hSw).c3; go_simp; try with_reducible rfl
      try simp only [Act.put, List.setIfInBounds_toArray, List.set_cons_zero, List.set_cons_succ]
      refine AnyV.take 11 12 (i := 7) (oi := _) (v := ?_) rfl (by kernel_rfl) (by kernel_rfl) (by kernel_rfl) (by kernel_rfl) (by kernel_rfl) (fun _ _ _ h => h) (Two.other (by decide)) (Or.inl ⟨by kernel_rfl, ?_⟩) (Two.till (fun _ => hA) (fun _ => trivial)) (fun _ => ?_)
      rotate_left 1
      · intro wz hSw'; clear hSw'; go_simp; try with_reducible rfl
      try simp only [Act.put, List.setIfInBounds_toArray, List.set_cons_zero, List.set_cons_succ]
      refine AnyV.one (i := 4) (o := _) rfl (by kernel_rfl) (fun K hK => ?_)
      go_simp
      refine (inside_any c.a0 c.a1 0 _ HB.out.1 HB.out.2.1 HB.out.2.2.1 HX.out.1 HX.out.2).mono ?_
      rintro e w4 ⟨rfl, hb4⟩
      have hA4 := two hA hb4
      clear hA hb4
      have hA := hA4
      clear hA4
      go_wp2_with fail
      refine hK.out _ _ (Two.till (fun _ => hA) (fun _ => trivial)) ?_
      clear hK K
      try simp only [Act.put, List.setIfInBounds_toArray, List.set_cons_zero, List.set_cons_succ]
      refine AnyV.one (i := 8) (o := _) rfl (by kernel_rfl) (fun K hK => ?_)
      go_simp
      refine (inside_any c.w0 c.w1 0 _ HB.out.2.2.2.1 HB.out.2.2.2.2.1 HB.out.2.2.2.2.2 HY.out.1 HY.out.2).mono ?_
      rintro e w8 ⟨rfl, hb8⟩
      have hA8 := two hA hb8
      clear hA hb8
      have hA := hA8
      clear hA8
      go_wp2_with fail
      refine hK.out _ _ (Two.till (fun _ => hA) (fun _ => trivial)) ?_
      clear hK K
      try simp only [Act.put, List.setIfInBounds_toArray, List.set_cons_zero, List.set_cons_succ]
      obtain ⟨X, hX⟩ : ∃ X, insE c.a0 c.a1 0 = X := ⟨_, rfl⟩
      obtain ⟨Y, hY⟩ : ∃ X, insE c.w0 c.w1 0 = X := ⟨_, rfl⟩
      have HXY := Lib.hid (show InP ⟨X, Y⟩ c by
        rw [← hX, ← hY]
        have h1 := ins_in 0 HB.out.2.1
        have h2 := ins_in 0 HB.out.2.2.2.2.1
        exact ⟨h1.1, h1.2, h2.1, h2.2⟩)
      rw [hX, hY]
      clear hX hY
      refine AnyV.one (i := 9) (o := _) rfl (by kernel_rfl) (fun K hK => ?_)
      go_simp
      refine hK.out _ _ (Two.till (fun _ => hA) (fun _ => trivial)) ?_
      clear hK K
      try simp only [Act.put, List.setIfInBounds_toArray, List.set_cons_zero, List.set_cons_succ]
      refine AnyV.one (i := 10) (o := _) rfl (by kernel_rfl) (fun K hK => ?_)
      go_simp
      have hrow := put_one w8 X Y 89
      have hb9 := (Below.refl w8.heap.size w8).alloc (Nat.le_refl _) (.cells #[.int .i64 X, .int .i64 Y] 89)
      obtain ⟨w9, hw9⟩ : ∃ W, w8.alloc (.cells #[.int .i64 X, .int .i64 Y] 89) = W := ⟨_, rfl⟩
      rw [hw9] at hrow hb9 ⊢
      clear hw9
      have hA9 := two hA hb9
      clear hA hb9
      have hA := hA9
      clear hA9
      refine hK.out _ _ (Two.till (fun _ => hA) (fun _ => trivial)) ?_
      clear hK K
      try simp only [Act.put, List.setIfInBounds_toArray, List.set_cons_zero, List.set_cons_succ]
      have HO9 := Lib.hid (own_below HO1.out hA)
      have hB9 := hB1.trans (hA.mono hB1.size)
      have hs9 := hB9.size
      have hkl := HCh.out.len
      rw [List.length_take] at hkl
      refine AnyV.one (i := 11) (o := _) rfl (by kernel_rfl) (fun K hK => ?_)
      rw [if_pos (by kernel_rfl)]
      refine wp_append_pus (.tmp 34) (.tmp 44) rfl w.heap.size _ _ ks [⟨X, Y⟩] rfl HO9.out rfl hrow (by simp; omega) hs9 ?_
      intro v' w10 ho10 hb10 hz10
      have HO10 := Lib.hid ho10
      have hB10 := hB9.trans hb10
      clear ho10 hb10
      refine hK.out _ _ (Two.till (fun h => absurd h (by decide)) (fun _ => trivial)) ?_
      clear hK K
      try simp only [Act.put, List.setIfInBounds_toArray, List.set_cons_zero, List.set_cons_succ]
      refine AnyV.one (i := 12) (o := _) rfl (by kernel_rfl) (fun K hK => ?_)
      go_simp
      refine hK.out _ _ (Two.till (fun h => absurd h (by decide)) (fun _ => trivial)) ?_
      clear hK K
      refine AnyV.done (by kernel_rfl) ?_
      try simp only [Act.put, List.setIfInBounds_toArray, List.set_cons_zero, List.set_cons_succ]
      have HN := Lib.hid (show ChoP (ks ++ [⟨X, Y⟩]) (ls.take (k + 1)) by rw [take_snoc HC.out]; exact HCh.out.snoc HXY.out)
      clear hrow hkl
      go_wp2_with fail
      go_roundw
      case rel => exact ⟨k + 1, ks ++ [⟨X, Y⟩], by omega, by go_num, HN.out, HO10.out, hB10⟩
      case measure => simp [intOf]; omega
end Go.Proofs.Ytldnpnplgfkebaa
