/- TrimFar: the walk. -/
import Derived.Test.YtldnpnplgfkebaaTFar
import Derived.Test.YtldnpnplgfkebaaTRApp
import Derived.Test.YtldnpnplgfkebaaWTEnds
namespace Go.Proofs.Ytldnpnplgfkebaa
open Go.RowKit

theorem wp_append_ld2 {o : Oper} {a : Act} {w : World} {K : Act → World → Prop} {Q : Exit → Act → World → Prop} (s x : Operand) (ho : o.op = .call { callee := .builtin .append, args := #[s, x], argTypes := #[22, 22] })
    (base : Nat) (sv xv : Value) (xs ys : List Ld) (hs : a.eval s = sv) (hown : w.ownsRow base 91 4 sv xs.length (spR (xs.map Ld.row))) (hx : a.eval x = xv) (hy : SlLd w xv ys) (hn : xs.length + ys.length ≤ 1000) (hbase : base ≤ w.heap.size)
    (h : ∀ v' w', w'.ownsRow base 91 4 v' (xs ++ ys).length (spR ((xs ++ ys).map Ld.row)) → Below base w w' → base ≤ w'.heap.size → (∀ k, k < w.heap.size → some k ≠ sv.ownBlock → w'.heap[k]? = w.heap[k]?) → K (a.put o.dst v') w') : o.wp Try.prog a w K Q := by
  obtain ⟨i0, hi, hz0, hz1, hz2⟩ := info_parts (P := Try.prog) (e := 91) (z := .agg #[.int .i64 0, .int .i64 0, .int .i64 0, .int .i64 0]) (size := 4) (bytes := 32) (by kernel_rfl)
  rcases hy with ⟨rfl, rfl⟩ | ⟨b, off, cap, rfl, h2, h3, h4, h5⟩
  · have hrun := run_append_owned_none (P := Try.prog) (w := w) base 22 o.type 91 i0 4 Try.underlying22 hi sv xs.length _ hown
    unfold Oper.wp
    simp [execOp, ho, resolve, invoke, builtin, hs, hx, hrun, Result.andThen]
    exact h sv w (by simpa using hown) (Below.refl _ _) hbase (fun _ _ _ => rfl)
  · have hlo := ld_len ys
    refine wp_append_own w s x 22 ho base 91 i0 (.agg #[.int .i64 0, .int .i64 0, .int .i64 0, .int .i64 0]) 4 32 Try.underlying22 hi hz0 hz1 hz2 rfl (by decide) sv xs.length _ hs hown ⟨b, off, none⟩ ys.length cap (spR (ys.map Ld.row)) hx ?_ (spR_cell (ld_rows h5) hlo (by decide)) spR_one (by unfold maxLen; omega) (by omega) hbase ?_
    · rw [spR_len _ hlo, List.length_map]
    · intro v' w' ho' hg _
      refine h v' w' (by rw [List.length_append, List.map_append]; unfold spR; rw [List.flatMap_append]; exact ho') ⟨hg.os, hg.tape, hg.output, hg.size, fun k hk => hg.block k (by omega) (fun e => by have := (hown.lt k e.symm).1; omega)⟩ (by have := hg.size; omega) hg.block
theorem one_frame {w : World} {g c : Nat} {x : Fr} (h : Three w g x.p x.s x.b) (hc : 1 ≤ c) : SlFr w (.slice (some ⟨g, 0, none⟩) 1 c) [x] := by
  refine .inr ⟨g, 0, c, rfl, by simpa using hc, by simp, World.block_lt_of_cell? _ _ h.c0, fun i y e => ?_⟩
  rcases i with _ | i
  · simp at e; subst e; exact ⟨by simpa using h.c0, by simpa using h.c1, by simpa using h.c2⟩
  · simp at e
theorem two_frames (w : World) (x y : Fr) (t : TypeId) : SlFr (w.alloc (.cells #[.int .i64 x.p, .int .i64 x.s, .int .i64 x.b, .int .i64 y.p, .int .i64 y.s, .int .i64 y.b] t)) (.slice (some ⟨w.heap.size, 0, none⟩) 2 2) [x, y] := by
  refine .inr ⟨w.heap.size, 0, 2, rfl, by simp, by simp, by simp, fun i c e => ?_⟩
  rcases i with _ | _ | i
  · simp at e
    subst e
    exact ⟨by go_cell, by go_cell, by go_cell⟩
  · simp at e
    subst e
    exact ⟨by go_cell, by go_cell, by go_cell⟩
  · simp at e
set_option maxRecDepth 100000 in
set_option maxHeartbeats 2000000 in
theorem trimFar_great (a0 : Option Addr) (l0 c0 : Nat) (at' : Int) (f : Fr) (n : Int) (w : World) (hg : 50 < l0) :
    Calls Try.prog 14 #[.slice a0 l0 c0, .int .i64 at', frV f, .int .u16 n] w fun e w' => e = .returned (.bool true) ∧ Below w.heap.size w w' := by
  go_enter Try.func14, Try.ntmps14
  go_wp2_with fail
  refine (alive_any _).mono ?_
  rintro e w1 ⟨rfl, hb1⟩
  have hB1 : Below w.heap.size w w1 := (after (w := w) (by go_grown) hb1).1
  clear hb1
  go_wp2_with fail
  refine (valid_great a0 l0 c0 none 0 0 _ (.inl hg)).mono ?_
  rintro e w2 ⟨rfl, hb2⟩
  have hB2 := two hB1 hb2
  clear hB1 hb2
  go_wp2_with fail
  go_returns
  exact ⟨rfl, hB2⟩
/-- The loop's head: the loads as they are known exactly, and whether all are far. -/
def FaHead (at' : Int) (ls : List Ld) (w wr : World) (v10 v11 v45 : Value) : Prop := ∃ k : Nat, k ≤ ls.length ∧ v45 = .int .i64 k ∧ v11 = .bool (farB at' (ls.take k)) ∧
  wr.ownsRow w.heap.size 91 4 v10 ((ls.take k).map exactL).length (spR (((ls.take k).map exactL).map Ld.row)) ∧ Below w.heap.size w wr
/-- A box of a frame that may be written. -/
structure FrBox (w : World) (B : Nat) (a b c : Int) : Prop where
  c0 : w.cell? ⟨B, 0, none⟩ = some (.int .i64 a)
  c1 : w.cell? ⟨B, 1, none⟩ = some (.int .i64 b)
  c2 : w.cell? ⟨B, 2, none⟩ = some (.int .i64 c)
  f1 : w.frozen? ⟨B, 1, none⟩ = false
  f2 : w.frozen? ⟨B, 2, none⟩ = false
theorem FrBox.later {w w1 : World} {B : Nat} {a b c : Int} (k : FrBox w B a b c) (hb : Below w.heap.size w w1) : FrBox w1 B a b c :=
  have hz := World.block_lt_of_cell? _ _ k.c0
  ⟨cell_later hb k.c0, cell_later hb k.c1, cell_later hb k.c2, by rw [(bcell hb).2 _ _ hz]; exact k.f1, by rw [(bcell hb).2 _ _ hz]; exact k.f2⟩
set_option linter.unusedSimpArgs false in
set_option maxRecDepth 100000 in
set_option maxHeartbeats 8000000 in
theorem trimFar_walk (v : Value) (ls : List Ld) (at' : Int) (f : Fr) (n : Int) (w : World) (hv : SlLd w v ls) (h50 : ls.length ≤ 50) (hn0 : 0 ≤ n) (hn1 : n < 65536) :
    Calls Try.prog 14 #[v, .int .i64 at', frV f, .int .u16 n] w fun e w' => e = .returned (.bool true) ∧ Below w.heap.size w w' := by
  obtain ⟨a0, cap0, rfl, hl0, hc0⟩ := hv.form
  have HV := Lib.hid hv
  have Hn := Lib.hid (And.intro hn0 hn1)
  clear hv hn0 hn1
  go_enter Try.func14, Try.ntmps14
  go_wp2_with fail
  refine (alive_any _).mono ?_
  rintro e w1 ⟨rfl, hb1⟩
  have hB1 : Below w.heap.size w w1 := (after (w := w) (by go_grown) hb1).1
  have HF := Lib.hid (show Three w1 w.heap.size f.p f.s f.b from Three.later ⟨by go_cell, by go_cell, by go_cell⟩ hb1)
  clear hb1
  go_wp2_with fail
  refine (valid_any _ _ ls [] _ (ldLater HV.out hB1) (.inl ⟨rfl, rfl⟩) h50 (by simp)).mono ?_
  rintro e w2 ⟨rfl, hb2⟩
  have hB2 := two hB1 hb2
  replace HF := Lib.hid (HF.out.later hb2)
  clear hB1 hb2
  by_cases hval : okayB ls [] = true
  rotate_left 1
  · have hval' : okayB ls [] = false := by simpa using hval
    rw [hval']
    clear hval hval'
    go_wp2_with fail
    go_returns
    exact ⟨rfl, hB2⟩
  have h0 := (okay_loads hval).1
  have HN := Lib.hid h0
  have HOk := Lib.hid (all_ok h0)
  rw [hval]
  clear hval h0
  by_cases hp : at' ≤ -20000
  · go_wp2_with fail
    go_returns
    exact ⟨rfl, hB2⟩
  by_cases hq : 20000 < at'
  · go_wp2_with fail
    go_returns
    exact ⟨rfl, hB2⟩
  go_wp2_with fail
  go_loopw [10, 11, 45] (fun v10 v11 v45 wr => FaHead at' ls w2 wr v10 v11 v45) (fun _ _ v45 _ => ls.length - (intOf v45).toNat)
  case atStart => exact ⟨0, by omega, rfl, rfl, own_no _ _ _ _, Below.refl _ _⟩
  case round =>
    obtain ⟨k, hk, rfl, rfl, how, hbr⟩ := hrel
    rename_i u10
    have hBr := hB2.trans (hbr.mono hB2.size)
    by_cases hlt : k < ls.length
    · obtain ⟨bk, off, l, rfl, hb, hl, hat⟩ := HV.out.at hlt
      obtain ⟨c0, c1, c2, c3⟩ := LdAt.later hat hBr
      have HC := Lib.hid hl
      have HO := Lib.hid how
      have hlt' : (k : Int) < (ls.length : Int) := by omega
      have hk0 : (0 : Int) ≤ (k : Int) := by omega
      obtain ⟨b, hb⟩ : ∃ b, farB at' (ls.take k) = b := ⟨_, rfl⟩
      rw [hb]
      have HFb := Lib.hid hb
      have hsz := hbr.size
      clear hl hat how hb
      go_wp2_with fail
      obtain ⟨W, hW⟩ : ∃ W, wr.alloc (.cells #[.int .i64 l.a0, .int .i64 l.a1, .int .i64 l.w0, .int .i64 l.w1] 91) = W := ⟨_, rfl⟩
      have HL := Lib.hid (show LdAt W wr.heap.size 0 l by subst hW; exact ⟨by go_cell, by go_cell, by go_cell, by go_cell⟩)
      have hbW : Below wr.heap.size wr W := by subst hW; go_grown
      rw [hW]
      clear hW c0 c1 c2 c3
      have HNb : Hid (some wr.heap.size ≠ u10.ownBlock) := Lib.hid (fun e => by have := (HO.out.lt _ e.symm).2; omega)
      have HO1 := Lib.hid (own_below HO.out hbW)
      have hB1 : Below w2.heap.size w2 W := hbr.trans (hbW.mono hbr.size)
      clear hbW HO
      have hA : Below W.heap.size W W.drew := below_drewN (Below.refl _ _) 1
      refine AnyV.start (Two 11 (fun w' => Below W.heap.size W w') 11 (fun _ => True)) 13 #[false, false, false, false, false, false, false, false, false, false, false, false, false] (by kernel_rfl) (by kernel_rfl) (by kernel_rfl) (fun _ => ⟨fun _ => hA, fun _ => trivial⟩) (fun _ => ?_)
      generalize World.drew W = wd at hA ⊢
      refine AnyV.take 11 12 (i := 0) (oi := _) (v := ?_) rfl (by kernel_rfl) (by kernel_rfl) (by kernel_rfl) (by kernel_rfl) (by kernel_rfl) (fun _ _ _ h => h) (Two.other (by decide)) (Or.inl ⟨by kernel_rfl, ?_⟩) (Two.till (fun _ => hA) (fun _ => trivial)) (fun _ => ?_)
      rotate_left 1
      · intro wz hSw'; clear hSw'; go_simp; try with_reducible rfl
      try simp only [Act.put, List.setIfInBounds_toArray, List.set_cons_zero, List.set_cons_succ]
      refine AnyV.take 11 12 (i := 1) (oi := _) (v := ?_) rfl (by kernel_rfl) (by kernel_rfl) (by kernel_rfl) (by kernel_rfl) (by kernel_rfl) (fun _ _ _ h => h) (Two.other (by decide)) (Or.inl ⟨by kernel_rfl, ?_⟩) (Two.till (fun _ => hA) (fun _ => trivial)) (fun _ => ?_)
      rotate_left 1
      · intro wz hSw'; clear hSw'; go_simp; try with_reducible rfl
      try simp only [Act.put, List.setIfInBounds_toArray, List.set_cons_zero, List.set_cons_succ]
      refine AnyV.take 11 12 (i := 2) (oi := _) (v := ?_) rfl (by kernel_rfl) (by kernel_rfl) (by kernel_rfl) (by kernel_rfl) (by kernel_rfl) (fun _ _ _ h => h) (Two.other (by decide)) (Or.inl ⟨by kernel_rfl, ?_⟩) (Two.till (fun _ => hA) (fun _ => trivial)) (fun _ => ?_)
      rotate_left 1
      · intro wz hSw'; clear hSw'; go_simp; try with_reducible rfl
      try simp only [Act.put, List.setIfInBounds_toArray, List.set_cons_zero, List.set_cons_succ]
      refine AnyV.take 11 12 (i := 3) (oi := _) (v := ?_) rfl (by kernel_rfl) (by kernel_rfl) (by kernel_rfl) (by kernel_rfl) (by kernel_rfl) (fun _ _ _ h => h) (Two.other (by decide)) (Or.inl ⟨by kernel_rfl, ?_⟩) (Two.till (fun _ => hA) (fun _ => trivial)) (fun _ => ?_)
      rotate_left 1
      · intro wz hSw'; have hSw := hSw'.1 rfl; clear hSw'; have h1 := (HL.out.later hSw).c0; go_simp; try with_reducible rfl
      try simp only [Act.put, List.setIfInBounds_toArray, List.set_cons_zero, List.set_cons_succ]
      refine AnyV.take 11 12 (i := 5) (oi := _) (v := ?_) rfl (by kernel_rfl) (by kernel_rfl) (by kernel_rfl) (by kernel_rfl) (by kernel_rfl) (fun _ _ _ h => h) (Two.other (by decide)) (Or.inl ⟨by kernel_rfl, ?_⟩) (Two.till (fun _ => hA) (fun _ => trivial)) (fun _ => ?_)
      rotate_left 1
      · intro wz hSw'; clear hSw'; go_simp; try with_reducible rfl
      try simp only [Act.put, List.setIfInBounds_toArray, List.set_cons_zero, List.set_cons_succ]
      refine AnyV.take 11 12 (i := 6) (oi := _) (v := ?_) rfl (by kernel_rfl) (by kernel_rfl) (by kernel_rfl) (by kernel_rfl) (by kernel_rfl) (fun _ _ _ h => h) (Two.other (by decide)) (Or.inl ⟨by kernel_rfl, ?_⟩) (Two.till (fun _ => hA) (fun _ => trivial)) (fun _ => ?_)
      rotate_left 1
      · intro wz hSw'; clear hSw'; go_simp; try with_reducible rfl
      try simp only [Act.put, List.setIfInBounds_toArray, List.set_cons_zero, List.set_cons_succ]
      refine AnyV.take 11 12 (i := 7) (oi := _) (v := ?_) rfl (by kernel_rfl) (by kernel_rfl) (by kernel_rfl) (by kernel_rfl) (by kernel_rfl) (fun _ _ _ h => h) (Two.other (by decide)) (Or.inl ⟨by kernel_rfl, ?_⟩) (Two.till (fun _ => hA) (fun _ => trivial)) (fun _ => ?_)
      rotate_left 1
      · intro wz hSw'; have hSw := hSw'.1 rfl; clear hSw'; have h1 := (HL.out.later hSw).c2; go_simp; try with_reducible rfl
      try simp only [Act.put, List.setIfInBounds_toArray, List.set_cons_zero, List.set_cons_succ]
      refine AnyV.one (i := 4) (o := _) rfl (by kernel_rfl) (fun K hK => ?_)
      go_simp
      refine (one_any l.a0 _).mono ?_
      rintro e w4 ⟨rfl, hb4⟩
      have hA4 := two hA hb4
      clear hA hb4
      have hA := hA4
      clear hA4
      go_wp2_with fail
      refine hK.out _ _ (Two.till (fun _ => hA) (fun _ => trivial)) ?_
      clear hK K
      try simp only [Act.put, List.setIfInBounds_toArray, List.set_cons_zero, List.set_cons_succ]
      refine AnyV.one (i := 8) (o := _) rfl (by kernel_rfl) (fun K hK => ?_)
      go_simp
      refine (one_any l.w0 _).mono ?_
      rintro e w8 ⟨rfl, hb4⟩
      have hA4 := two hA hb4
      clear hA hb4
      have hA := hA4
      clear hA4
      go_wp2_with fail
      refine hK.out _ _ (Two.till (fun _ => hA) (fun _ => trivial)) ?_
      clear hK K
      try simp only [Act.put, List.setIfInBounds_toArray, List.set_cons_zero, List.set_cons_succ]
      refine AnyV.one (i := 9) (o := _) rfl (by kernel_rfl) (fun K hK => ?_)
      go_simp
      refine hK.out _ _ (Two.till (fun _ => hA) (fun _ => trivial)) ?_
      clear hK K
      try simp only [Act.put, List.setIfInBounds_toArray, List.set_cons_zero, List.set_cons_succ]
      refine AnyV.one (i := 10) (o := _) rfl (by kernel_rfl) (fun K hK => ?_)
      go_simp
      have hrow : SlLd (w8.alloc (.cells #[.int .i64 l.a0, .int .i64 l.a0, .int .i64 l.w0, .int .i64 l.w0] 91)) (.slice (some ⟨w8.heap.size, 0, none⟩) 1 1) [exactL l] := ld_one w8 (exactL l) _
      have hb9 := (Below.refl w8.heap.size w8).alloc (Nat.le_refl _) (.cells #[.int .i64 l.a0, .int .i64 l.a0, .int .i64 l.w0, .int .i64 l.w0] 91)
      obtain ⟨w9, hw9⟩ : ∃ W, w8.alloc (.cells #[.int .i64 l.a0, .int .i64 l.a0, .int .i64 l.w0, .int .i64 l.w0] 91) = W := ⟨_, rfl⟩
      rw [hw9] at hrow hb9 ⊢
      clear hw9
      have hA9 := two hA hb9
      clear hA hb9
      have hA := hA9
      clear hA9
      refine hK.out _ _ (Two.till (fun _ => hA) (fun _ => trivial)) ?_
      clear hK K
      try simp only [Act.put, List.setIfInBounds_toArray, List.set_cons_zero, List.set_cons_succ]
      have HO9 := Lib.hid (own_below HO1.out hA)
      have hB9 := hB1.trans (hA.mono hB1.size)
      have hs9 := hB9.size
      replace HL := Lib.hid (HL.out.later hA)
      have hwl : wr.heap.size < w9.heap.size := World.block_lt_of_cell? _ _ HL.out.c0
      have hnb := HNb.out
      refine AnyV.one (i := 11) (o := _) rfl (by kernel_rfl) (fun K hK => ?_)
      rw [if_pos (by kernel_rfl)]
      refine wp_append_ld2 (.tmp 49) (.tmp 59) rfl w2.heap.size _ _ ((ls.take k).map exactL) [exactL l] rfl HO9.out rfl hrow (by simp; omega) hs9 ?_
      intro v' w10 ho10 hb10 hz10 hblk
      have HO10 : Hid (w10.ownsRow w2.heap.size 91 4 v' ((ls.take (k + 1)).map exactL).length (spR (((ls.take (k + 1)).map exactL).map Ld.row))) := Lib.hid (by
        rw [take_snoc HC.out, List.map_append]
        exact ho10)
      have hB10 := hB9.trans hb10
      have hcl := hblk _ hwl hnb
      have c0 : w10.cell? ⟨wr.heap.size, 0, none⟩ = some (.int .i64 l.a0) := by rw [World.cell?_of_block hcl]; exact HL.out.c0
      clear ho10 hb10 hblk hcl
      refine hK.out _ _ (Two.till (fun h => absurd h (by decide)) (fun _ => trivial)) ?_
      clear hK K
      try simp only [Act.put, List.setIfInBounds_toArray, List.set_cons_zero, List.set_cons_succ]
      refine AnyV.one (i := 12) (o := _) rfl (by kernel_rfl) (fun K hK => ?_)
      go_simp
      refine hK.out _ _ (Two.till (fun h => absurd h (by decide)) (fun _ => trivial)) ?_
      clear hK K
      refine AnyV.done (by kernel_rfl) ?_
      try simp only [Act.put, List.setIfInBounds_toArray, List.set_cons_zero, List.set_cons_succ]
      have HN1 := Lib.hid (show farB at' (ls.take (k + 1)) = (b && decide (l.a0 < at' - 1)) by rw [far_step HC.out, HFb.out])
      clear hrow hnb hwl hA
      cases b
      · go_wp2_with fail
        go_roundw
        case rel => exact ⟨k + 1, by omega, by go_num, by rw [HN1.out]; rfl, HO10.out, hB10⟩
        case measure => simp [intOf]; omega
      · go_wp2_with fail
        go_roundw
        case rel => exact ⟨k + 1, by omega, by go_num, by rw [HN1.out]; first | rfl | simp, HO10.out, hB10⟩
        case measure => simp [intOf]; omega
    obtain ⟨fb, hfb⟩ : ∃ b, farB at' (ls.take k) = b := ⟨_, rfl⟩
    rw [hfb]
    rw [List.take_of_length_le (by omega)] at hfb how
    have HFb := Lib.hid hfb
    have HE : Hid (SlLd wr u10 (ls.map exactL)) := Lib.hid (own_copy how (by simp; omega))
    have hB := hBr
    replace HF := Lib.hid (HF.out.later hbr)
    clear hfb how hbr hBr
    obtain ⟨sp0, sp1⟩ := shear_exact (ls := ls) HN.out (show -20000 ≤ at' by omega) (show at' ≤ 20000 by omega)
    obtain ⟨sq0, _⟩ := shear_exact (ls := ls) HN.out (show -20000 ≤ at' - 1 by omega) (show at' - 1 ≤ 20000 by omega)
    have sb := bend_exact sp0
    have sc := bend_exact sq0
    have sh := heavy_exact HN.out
    have sl := exacts_loads HN.out
    have sg := bend_grow at' ls
    have hfar : fb = true → sumE (aftE at') ls = sumE Ld.w0 ls := fun h => far_sum (by rw [HFb.out]; exact h)
    obtain ⟨bb0, bb1⟩ := aft_bound (at' := at') HN.out (by omega) (by omega)
    obtain ⟨bc0, bc1⟩ := aft_bound (at' := at' - 1) HN.out (by omega) (by omega)
    obtain ⟨A, hA0⟩ : ∃ x, sumE (aftE at') ls = x := ⟨_, rfl⟩
    obtain ⟨B, hB0⟩ : ∃ x, sumE (armE at') ls = x := ⟨_, rfl⟩
    obtain ⟨C, hC0⟩ : ∃ x, sumE (armE (at' - 1)) ls = x := ⟨_, rfl⟩
    obtain ⟨H, hH0⟩ : ∃ x, sumE Ld.w0 ls = x := ⟨_, rfl⟩
    rw [hA0] at sp1 sg hfar
    rw [hB0] at sb sg bb0 bb1
    rw [hC0] at sc sg bc0 bc1
    rw [hH0] at sh hfar
    obtain ⟨es, hes⟩ : ∃ x, ls.map exactL = x := ⟨_, rfl⟩
    rw [hes] at sp0 sp1 sq0 sb sc sh sl HE
    have HS := Lib.hid (And.intro (And.intro sp0 sp1) (And.intro sq0 (And.intro sb (And.intro sc (And.intro sh sl)))))
    have HBC := Lib.hid (And.intro sg (And.intro bb0 (And.intro bb1 (And.intro bc0 bc1))))
    have HFar := Lib.hid hfar
    clear sp0 sp1 sq0 sb sc sh sl sg bb0 bb1 bc0 bc1 hA0 hB0 hC0 hH0 hes hfar
    go_wp2_with fail
    refine (balance_any _ es _ HE.out).mono ?_
    rintro e w3 ⟨rfl, hb3⟩
    try replace K14 := Lib.hid (K14.out.later hb3)
    try replace K17 := Lib.hid (K17.out.later hb3)
    try replace K19 := Lib.hid (K19.out.later hb3)
    try replace K21 := Lib.hid (K21.out.later hb3)
    try replace K23 := Lib.hid (K23.out.later hb3)
    try replace HF := Lib.hid (HF.out.later hb3)
    try replace HE := Lib.hid (ldLater HE.out hb3)
    have hBn := two hB hb3
    clear hB hb3
    have hB := hBn
    clear hBn
    rw [HS.out.2.2.2.2.1, HS.out.2.2.2.2.2]
    obtain ⟨M0, hM0⟩ : ∃ x, (momentS es).1 = x := ⟨_, rfl⟩
    obtain ⟨M1, hM1⟩ : ∃ x, (momentS es).2 = x := ⟨_, rfl⟩
    rw [hM0, hM1]
    clear hM0 hM1
    go_wp2_with fail
    obtain ⟨W4, hW⟩ : ∃ W, (w3.alloc (.cells #[.int .i64 H, .int .i64 H] 37)).alloc (.cells #[.int .i64 M0, .int .i64 M1] 37) = W := ⟨_, rfl⟩
    have K14 := Lib.hid (show Two2 W4 w3.heap.size H H by subst hW; exact ⟨by go_cell, by go_cell⟩)
    have hbx : Below w3.heap.size w3 W4 := by subst hW; go_grown
    rw [hW]
    clear hW
    obtain ⟨b14, hbb⟩ : ∃ b, w3.heap.size = b := ⟨_, rfl⟩
    rw [hbb] at K14 ⊢
    clear hbb
    try replace K14 := Lib.hid (K14.out.later hbx)
    try replace K17 := Lib.hid (K17.out.later hbx)
    try replace K19 := Lib.hid (K19.out.later hbx)
    try replace K21 := Lib.hid (K21.out.later hbx)
    try replace K23 := Lib.hid (K23.out.later hbx)
    try replace HF := Lib.hid (HF.out.later hbx)
    try replace HE := Lib.hid (ldLater HE.out hbx)
    have hBn := two hB hbx
    clear hB hbx
    have hB := hBn
    clear hBn
    refine (shearOf_any _ es at' _ HE.out).mono ?_
    rintro e w4 ⟨rfl, hb4⟩
    try replace K14 := Lib.hid (K14.out.later hb4)
    try replace K17 := Lib.hid (K17.out.later hb4)
    try replace K19 := Lib.hid (K19.out.later hb4)
    try replace K21 := Lib.hid (K21.out.later hb4)
    try replace K23 := Lib.hid (K23.out.later hb4)
    try replace HF := Lib.hid (HF.out.later hb4)
    try replace HE := Lib.hid (ldLater HE.out hb4)
    have hBn := two hB hb4
    clear hB hb4
    have hB := hBn
    clear hBn
    rw [HS.out.1.1, HS.out.1.2]
    go_wp2_with fail
    obtain ⟨W5, hW⟩ : ∃ W, w4.alloc (.cells #[.int .i64 A, .int .i64 A] 37) = W := ⟨_, rfl⟩
    have K17 := Lib.hid (show Two2 W5 w4.heap.size A A by subst hW; exact ⟨by go_cell, by go_cell⟩)
    have hbx : Below w4.heap.size w4 W5 := by subst hW; go_grown
    rw [hW]
    clear hW
    obtain ⟨b17, hbb⟩ : ∃ b, w4.heap.size = b := ⟨_, rfl⟩
    rw [hbb] at K17 ⊢
    clear hbb
    try replace K14 := Lib.hid (K14.out.later hbx)
    try replace K17 := Lib.hid (K17.out.later hbx)
    try replace K19 := Lib.hid (K19.out.later hbx)
    try replace K21 := Lib.hid (K21.out.later hbx)
    try replace K23 := Lib.hid (K23.out.later hbx)
    try replace HF := Lib.hid (HF.out.later hbx)
    try replace HE := Lib.hid (ldLater HE.out hbx)
    have hBn := two hB hbx
    clear hB hbx
    have hB := hBn
    clear hBn
    refine (bendOf_any _ es at' _ HE.out).mono ?_
    rintro e w5 ⟨rfl, hb5⟩
    try replace K14 := Lib.hid (K14.out.later hb5)
    try replace K17 := Lib.hid (K17.out.later hb5)
    try replace K19 := Lib.hid (K19.out.later hb5)
    try replace K21 := Lib.hid (K21.out.later hb5)
    try replace K23 := Lib.hid (K23.out.later hb5)
    try replace HF := Lib.hid (HF.out.later hb5)
    try replace HE := Lib.hid (ldLater HE.out hb5)
    have hBn := two hB hb5
    clear hB hb5
    have hB := hBn
    clear hBn
    rw [HS.out.1.1, HS.out.2.2.1]
    go_wp2_with fail
    obtain ⟨W6, hW⟩ : ∃ W, w5.alloc (.cells #[.int .i64 B, .int .i64 B] 37) = W := ⟨_, rfl⟩
    have K19 := Lib.hid (show Two2 W6 w5.heap.size B B by subst hW; exact ⟨by go_cell, by go_cell⟩)
    have hbx : Below w5.heap.size w5 W6 := by subst hW; go_grown
    rw [hW]
    clear hW
    obtain ⟨b19, hbb⟩ : ∃ b, w5.heap.size = b := ⟨_, rfl⟩
    rw [hbb] at K19 ⊢
    clear hbb
    try replace K14 := Lib.hid (K14.out.later hbx)
    try replace K17 := Lib.hid (K17.out.later hbx)
    try replace K19 := Lib.hid (K19.out.later hbx)
    try replace K21 := Lib.hid (K21.out.later hbx)
    try replace K23 := Lib.hid (K23.out.later hbx)
    try replace HF := Lib.hid (HF.out.later hbx)
    try replace HE := Lib.hid (ldLater HE.out hbx)
    have hBn := two hB hbx
    clear hB hbx
    have hB := hBn
    clear hBn
    try rw [show IntKind.i64.wrap (at' - 1) = at' - 1 from IntWalk.i64_in _ ⟨by omega, by omega⟩]
    refine (bendOf_any _ es (at' - 1) _ HE.out).mono ?_
    rintro e w6 ⟨rfl, hb6⟩
    try replace K14 := Lib.hid (K14.out.later hb6)
    try replace K17 := Lib.hid (K17.out.later hb6)
    try replace K19 := Lib.hid (K19.out.later hb6)
    try replace K21 := Lib.hid (K21.out.later hb6)
    try replace K23 := Lib.hid (K23.out.later hb6)
    try replace HF := Lib.hid (HF.out.later hb6)
    try replace HE := Lib.hid (ldLater HE.out hb6)
    have hBn := two hB hb6
    clear hB hb6
    have hB := hBn
    clear hBn
    rw [HS.out.2.1, HS.out.2.2.2.1]
    go_wp2_with fail
    obtain ⟨W7, hW⟩ : ∃ W, w6.alloc (.cells #[.int .i64 C, .int .i64 C] 37) = W := ⟨_, rfl⟩
    have K21 := Lib.hid (show Two2 W7 w6.heap.size C C by subst hW; exact ⟨by go_cell, by go_cell⟩)
    have hbx : Below w6.heap.size w6 W7 := by subst hW; go_grown
    rw [hW]
    clear hW
    obtain ⟨b21, hbb⟩ : ∃ b, w6.heap.size = b := ⟨_, rfl⟩
    rw [hbb] at K21 ⊢
    clear hbb
    try replace K14 := Lib.hid (K14.out.later hbx)
    try replace K17 := Lib.hid (K17.out.later hbx)
    try replace K19 := Lib.hid (K19.out.later hbx)
    try replace K21 := Lib.hid (K21.out.later hbx)
    try replace K23 := Lib.hid (K23.out.later hbx)
    try replace HF := Lib.hid (HF.out.later hbx)
    try replace HE := Lib.hid (ldLater HE.out hbx)
    have hBn := two hB hbx
    clear hB hbx
    have hB := hBn
    clear hBn
    refine (shearOf_any _ es at' _ HE.out).mono ?_
    rintro e w7 ⟨rfl, hb7⟩
    try replace K14 := Lib.hid (K14.out.later hb7)
    try replace K17 := Lib.hid (K17.out.later hb7)
    try replace K19 := Lib.hid (K19.out.later hb7)
    try replace K21 := Lib.hid (K21.out.later hb7)
    try replace K23 := Lib.hid (K23.out.later hb7)
    try replace HF := Lib.hid (HF.out.later hb7)
    try replace HE := Lib.hid (ldLater HE.out hb7)
    have hBn := two hB hb7
    clear hB hb7
    have hB := hBn
    clear hBn
    rw [HS.out.1.1, HS.out.1.2]
    obtain ⟨sg, bb0, bb1, bc0, bc1⟩ := HBC.out
    obtain ⟨x0, x1⟩ := K14.out
    obtain ⟨y0, y1⟩ := K17.out
    obtain ⟨z0, z1⟩ := K19.out
    obtain ⟨q0, q1⟩ := K21.out
    obtain ⟨g0, g1, g2⟩ := HF.out
    have HFp := Lib.hid hB
    have l14 : b14 < w7.heap.size := K14.out.lt
    have l17 : b17 < w7.heap.size := K17.out.lt
    have l19 : b19 < w7.heap.size := K19.out.lt
    have l21 : b21 < w7.heap.size := K21.out.lt
    have hz7 := hB.size
    have hw7 : w.heap.size < w7.heap.size := World.block_lt_of_cell? _ _ g0
    clear hB
    cases fb
    · skip
      go_wp2_with fail
      refine (rcheckFr_any _ [f] _ (one_frame (x := f) ⟨by go_cell, by go_cell, by go_cell⟩ (by omega))).mono ?_
      rintro e w9 ⟨rfl, hb9⟩
      have hb99 : Below w7.heap.size w7 w9 := two (W := w7) (by go_grown) hb9
      have hB9 := HFp.out.trans (hb99.mono HFp.out.size)
      have HF9 := Lib.hid (HF.out.later hb99)
      clear x0 x1 y0 y1 z0 z1 q0 q1 g0 g1 g2 l14 l17 l19 l21 hb9 hb99 hz7 hw7 sg bb0 bb1 bc0 bc1 K14 K17 K19 K21
      by_cases hok : f.ok = true
      rotate_left 1
      · have hq : ¬ framesN [f] = 0 := fun h => hok ((frame_one f).1 h)
        obtain ⟨q, hqe⟩ : ∃ q, framesN [f] = q := ⟨_, rfl⟩
        rw [hqe] at hq ⊢
        clear hqe
        go_wp2_with fail
        go_returns
        exact ⟨rfl, hB9⟩
      rw [(frame_one f).2 hok]
      have HOk' := Lib.hid hok
      obtain ⟨g0, g1, g2⟩ := HF9.out
      clear hok
      go_wp2_with fail
      obtain ⟨W, hW⟩ : ∃ W, w9.alloc (.cells #[.int .i64 f.p, .int .i64 f.s, .int .i64 f.b] 102) = W := ⟨_, rfl⟩
      have KB := Lib.hid (show FrBox W w9.heap.size f.p f.s f.b by subst hW; exact ⟨by go_cell, by go_cell, by go_cell, by go_cell, by go_cell⟩)
      have hbW : Below w9.heap.size w9 W := by subst hW; go_grown
      have HFW := Lib.hid (HF9.out.later hbW)
      have hBW := hB9.trans (hbW.mono hB9.size)
      have hne : w.heap.size < w9.heap.size := World.block_lt_of_cell? _ _ g0
      rw [hW]
      clear hW hbW hB9 HF9 g0 g1 g2
      generalize w9.heap.size = b25 at *
      have hbd : Below W.heap.size W W.drew := below_drewN (Below.refl _ _) 1
      have hA := HFW.out.later hbd
      obtain ⟨n0, n1⟩ := Hn.out
      have hfb := Fr.bound HOk'.out
      obtain ⟨hN2, hcase⟩ := weak_list (n := n) HN.out HOk'.out n0
      obtain ⟨k0, k1, k2, kf1, kf2⟩ := KB.out.later hbd
      have hne' : w.heap.size ≠ b25 := by omega
      refine AnyV.start (Two 15 (fun w' => Three w' w.heap.size f.p f.s f.b) 15 (fun _ => True)) 16 #[false, false, false, false, false, false, false, false, false, false, false, false, false, false, false, false] (by kernel_rfl) (by kernel_rfl) (by kernel_rfl) (fun _ => ⟨fun _ => hA, fun _ => trivial⟩) (fun _ => ?_)
      generalize World.drew W = wd at hA hbd k0 k1 k2 kf1 kf2 ⊢
      refine AnyV.take 15 16 (i := 0) (oi := _) (v := ?_) rfl (by kernel_rfl) (by kernel_rfl) (by kernel_rfl) (by kernel_rfl) (by kernel_rfl) (fun _ _ _ h => h) (Two.other (by decide)) (Or.inl ⟨by kernel_rfl, ?_⟩) (Two.till (fun _ => hA) (fun _ => trivial)) (fun _ => ?_)
      rotate_left 1
      · intro wz hSw'; clear hSw'; go_simp; try with_reducible rfl
      try simp only [Act.put, List.setIfInBounds_toArray, List.set_cons_zero, List.set_cons_succ]
      refine AnyV.take 15 16 (i := 1) (oi := _) (v := ?_) rfl (by kernel_rfl) (by kernel_rfl) (by kernel_rfl) (by kernel_rfl) (by kernel_rfl) (fun _ _ _ h => h) (Two.other (by decide)) (Or.inl ⟨by kernel_rfl, ?_⟩) (Two.till (fun _ => hA) (fun _ => trivial)) (fun _ => ?_)
      rotate_left 1
      · intro wz hSw'; have hSw := hSw'.1 rfl; clear hSw'; have h1 := hSw.c1; go_simp; try with_reducible rfl
      try simp only [Act.put, List.setIfInBounds_toArray, List.set_cons_zero, List.set_cons_succ]
      refine AnyV.take 15 16 (i := 2) (oi := _) (v := ?_) rfl (by kernel_rfl) (by kernel_rfl) (by kernel_rfl) (by kernel_rfl) (by kernel_rfl) (fun _ _ _ h => h) (Two.other (by decide)) (Or.inl ⟨by kernel_rfl, ?_⟩) (Two.till (fun _ => hA) (fun _ => trivial)) (fun _ => ?_)
      rotate_left 1
      · intro wz hSw'; clear hSw'; go_simp; try with_reducible rfl
      try simp only [Act.put, List.setIfInBounds_toArray, List.set_cons_zero, List.set_cons_succ]
      refine AnyV.take 15 16 (i := 3) (oi := _) (v := ?_) rfl (by kernel_rfl) (by kernel_rfl) (by kernel_rfl) (by kernel_rfl) (by kernel_rfl) (fun _ _ _ h => h) (Two.other (by decide)) (Or.inl ⟨by kernel_rfl, ?_⟩) (Two.till (fun _ => hA) (fun _ => trivial)) (fun _ => ?_)
      rotate_left 1
      · intro wz hSw'; clear hSw'; go_simp; try with_reducible rfl
      try simp only [Act.put, List.setIfInBounds_toArray, List.set_cons_zero, List.set_cons_succ]
      refine AnyV.take 15 16 (i := 4) (oi := _) (v := ?_) rfl (by kernel_rfl) (by kernel_rfl) (by kernel_rfl) (by kernel_rfl) (by kernel_rfl) (fun _ _ _ h => h) (Two.other (by decide)) (Or.inl ⟨by kernel_rfl, ?_⟩) (Two.till (fun _ => hA) (fun _ => trivial)) (fun _ => ?_)
      rotate_left 1
      · intro wz hSw'; clear hSw'; go_simp; try with_reducible rfl
      try simp only [Act.put, List.setIfInBounds_toArray, List.set_cons_zero, List.set_cons_succ]
      refine AnyV.take 15 16 (i := 5) (oi := _) (v := ?_) rfl (by kernel_rfl) (by kernel_rfl) (by kernel_rfl) (by kernel_rfl) (by kernel_rfl) (fun _ _ _ h => h) (Two.other (by decide)) (Or.inl ⟨by kernel_rfl, ?_⟩) (Two.till (fun _ => hA) (fun _ => trivial)) (fun _ => ?_)
      rotate_left 1
      · intro wz hSw'; clear hSw'; go_simp; try with_reducible rfl
      try simp only [Act.put, List.setIfInBounds_toArray, List.set_cons_zero, List.set_cons_succ]
      refine AnyV.take 15 16 (i := 6) (oi := _) (v := ?_) rfl (by kernel_rfl) (by kernel_rfl) (by kernel_rfl) (by kernel_rfl) (by kernel_rfl) (fun _ _ _ h => h) (Two.other (by decide)) (Or.inl ⟨by kernel_rfl, ?_⟩) (Two.till (fun _ => hA) (fun _ => trivial)) (fun _ => ?_)
      rotate_left 1
      · intro wz hSw'; clear hSw'; go_simp; try with_reducible rfl
      try simp only [Act.put, List.setIfInBounds_toArray, List.set_cons_zero, List.set_cons_succ]
      refine AnyV.take 15 16 (i := 7) (oi := _) (v := ?_) rfl (by kernel_rfl) (by kernel_rfl) (by kernel_rfl) (by kernel_rfl) (by kernel_rfl) (fun _ _ _ h => h) (Two.other (by decide)) (Or.inl ⟨by kernel_rfl, ?_⟩) (Two.till (fun _ => hA) (fun _ => trivial)) (fun _ => ?_)
      rotate_left 1
      · intro wz hSw'; have hSw := hSw'.1 rfl; clear hSw'; have h1 := hSw.c2; go_simp; try with_reducible rfl
      try simp only [Act.put, List.setIfInBounds_toArray, List.set_cons_zero, List.set_cons_succ]
      refine AnyV.take 15 16 (i := 8) (oi := _) (v := ?_) rfl (by kernel_rfl) (by kernel_rfl) (by kernel_rfl) (by kernel_rfl) (by kernel_rfl) (fun _ _ _ h => h) (Two.other (by decide)) (Or.inl ⟨by kernel_rfl, ?_⟩) (Two.till (fun _ => hA) (fun _ => trivial)) (fun _ => ?_)
      rotate_left 1
      · intro wz hSw'; clear hSw'; go_simp; try with_reducible rfl
      try simp only [Act.put, List.setIfInBounds_toArray, List.set_cons_zero, List.set_cons_succ]
      refine AnyV.take 15 16 (i := 9) (oi := _) (v := ?_) rfl (by kernel_rfl) (by kernel_rfl) (by kernel_rfl) (by kernel_rfl) (by kernel_rfl) (fun _ _ _ h => h) (Two.other (by decide)) (Or.inl ⟨by kernel_rfl, ?_⟩) (Two.till (fun _ => hA) (fun _ => trivial)) (fun _ => ?_)
      rotate_left 1
      · intro wz hSw'; clear hSw'; go_simp; try with_reducible rfl
      try simp only [Act.put, List.setIfInBounds_toArray, List.set_cons_zero, List.set_cons_succ]
      refine AnyV.take 15 16 (i := 10) (oi := _) (v := ?_) rfl (by kernel_rfl) (by kernel_rfl) (by kernel_rfl) (by kernel_rfl) (by kernel_rfl) (fun _ _ _ h => h) (Two.other (by decide)) (Or.inl ⟨by kernel_rfl, ?_⟩) (Two.till (fun _ => hA) (fun _ => trivial)) (fun _ => ?_)
      rotate_left 1
      · intro wz hSw'; clear hSw'; go_simp; try with_reducible rfl
      try simp only [Act.put, List.setIfInBounds_toArray, List.set_cons_zero, List.set_cons_succ]
      refine AnyV.take 15 16 (i := 11) (oi := _) (v := ?_) rfl (by kernel_rfl) (by kernel_rfl) (by kernel_rfl) (by kernel_rfl) (by kernel_rfl) (fun _ _ _ h => h) (Two.other (by decide)) (Or.inl ⟨by kernel_rfl, ?_⟩) (Two.till (fun _ => hA) (fun _ => trivial)) (fun _ => ?_)
      rotate_left 1
      · intro wz hSw'; clear hSw'; go_simp; try with_reducible rfl
      try simp only [Act.put, List.setIfInBounds_toArray, List.set_cons_zero, List.set_cons_succ]
      refine AnyV.take 15 16 (i := 12) (oi := _) (v := ?_) rfl (by kernel_rfl) (by kernel_rfl) (by kernel_rfl) (by kernel_rfl) (by kernel_rfl) (fun _ _ _ h => h) (Two.other (by decide)) (Or.inl ⟨by kernel_rfl, ?_⟩) (Two.till (fun _ => hA) (fun _ => trivial)) (fun _ => ?_)
      rotate_left 1
      · intro wz hSw'; clear hSw'; go_simp; try with_reducible rfl
      try simp only [Act.put, List.setIfInBounds_toArray, List.set_cons_zero, List.set_cons_succ]
      refine AnyV.one (i := 13) (o := _) rfl (by kernel_rfl) (fun K hK => ?_)
      go_simp
      have hA13 : ∀ u, Three (wd.setCell ⟨b25, 1, none⟩ u) w.heap.size f.p f.s f.b := fun u => ⟨by rw [cell_far _ _ hne']; exact hA.c0, by rw [cell_far _ _ hne']; exact hA.c1, by rw [cell_far _ _ hne']; exact hA.c2⟩
      refine hK.out _ _ (Two.till (fun _ => hA13 _) (fun _ => trivial)) ?_
      clear hK K
      try simp only [Act.put, List.setIfInBounds_toArray, List.set_cons_zero, List.set_cons_succ]
      refine AnyV.one (i := 14) (o := _) rfl (by kernel_rfl) (fun K hK => ?_)
      go_simp
      refine hK.out _ _ (Two.till (fun _ => hA13 _) (fun _ => trivial)) ?_
      clear hK K
      try simp only [Act.put, List.setIfInBounds_toArray, List.set_cons_zero, List.set_cons_succ]
      refine AnyV.one (i := 15) (o := _) rfl (by kernel_rfl) (fun K hK => ?_)
      go_simp
      refine hK.out _ _ (Two.till (fun h => absurd h (by decide)) (fun _ => trivial)) ?_
      clear hK K
      refine AnyV.done (by kernel_rfl) ?_
      try simp only [Act.put, List.setIfInBounds_toArray, List.set_cons_zero, List.set_cons_succ]
      rw [show IntKind.i64.wrap n = n from IntWalk.i64_in _ ⟨by omega, by omega⟩]
      rw [show IntKind.i64.wrap (f.s - n) = f.s - n from IntWalk.i64_in _ ⟨by omega, by omega⟩, show IntKind.i64.wrap (f.b - n) = f.b - n from IntWalk.i64_in _ ⟨by omega, by omega⟩]
      have hle : w.heap.size ≤ b25 := by omega
      obtain ⟨W26, hW⟩ : ∃ W, (wd.setCell ⟨b25, 1, none⟩ (.int .i64 (max (f.s - n) 0))).setCell ⟨b25, 2, none⟩ (.int .i64 (max (f.b - n) 0)) = W := ⟨_, rfl⟩
      have hBd := hBW.trans (hbd.mono hBW.size)
      have hA26 := hA13 (.int .i64 (max (f.s - n) 0))
      obtain ⟨g0, g1, g2⟩ : Three W26 w.heap.size f.p f.s f.b := by
        subst hW
        exact ⟨by rw [cell_far _ _ hne']; exact hA26.c0, by rw [cell_far _ _ hne']; exact hA26.c1, by rw [cell_far _ _ hne']; exact hA26.c2⟩
      obtain ⟨m0, m1, m2⟩ : Three W26 b25 (weakF f n).p (weakF f n).s (weakF f n).b := by
        subst hW
        unfold weakF
        exact ⟨by go_cell, by go_cell, by go_cell⟩
      have hB26 : Below w.heap.size w W26 := by subst hW; go_grown
      have hz26 := hB26.size
      rw [hW]
      clear hW hA hbd k0 k1 k2 kf1 kf2 hA13 hA26 KB hBd hfb hBW HFW
      obtain ⟨fw, hfw⟩ : ∃ x, weakF f n = x := ⟨_, rfl⟩
      rw [hfw] at m0 m1 m2 hN2 hcase
      clear hfw
      go_wp2_with fail
      refine (strained_any _ _ ls [f, fw] _ (ldLater HV.out (by go_grown)) (two_frames _ f fw _)).mono ?_
      rintro e w11 ⟨zu, rfl, hz, hb11⟩
      rw [hN2]
      have hB11 : Below w.heap.size w w11 := (after (w := w) (by go_grown) hb11).1
      clear hb11 g0 g1 g2 m0 m1 m2
      rcases hcase with hL | hL | hL
      · rw [hL] at hz
        obtain ⟨za, zc, rfl, _, _⟩ := hz.form
        rw [show ([] : List Int).length = 0 from rfl]
        go_wp2_with fail
        go_returns
        exact ⟨rfl, hB11⟩
      · rw [hL] at hz
        obtain ⟨za, zc, rfl, _, _⟩ := hz.form
        obtain ⟨g, o, z, rfl, hg, hz0, hat⟩ := hz.at (show 0 < ([1] : List Int).length by simp)
        have e0 : w11.cell? ⟨g, o, none⟩ = some (.int .i64 1) := by
          simp at hz0
          subst hz0
          unfold IntAt at hat
          simpa using hat
        rw [show ([1] : List Int).length = 1 from rfl]
        clear hz hz0 hat hL
        go_wp2_with fail
        go_returns
        exact ⟨rfl, hB11⟩
      · rw [hL] at hz
        obtain ⟨za, zc, rfl, _, _⟩ := hz.form
        obtain ⟨g, o, z, rfl, hg, hz0, hat⟩ := hz.at (show 1 < ([0, 1] : List Int).length by simp)
        have e0 : w11.cell? ⟨g, o + 1, none⟩ = some (.int .i64 1) := by
          simp at hz0
          subst hz0
          unfold IntAt at hat
          simpa using hat
        rw [show ([0, 1] : List Int).length = 2 from rfl]
        clear hz hz0 hat hL
        go_wp2_with fail
        go_returns
        exact ⟨rfl, hB11⟩
    · skip
      obtain rfl : A = H := HFar.out rfl
      go_wp2_with fail
      refine (rcheckFr_any _ [f] _ (one_frame (x := f) ⟨by go_cell, by go_cell, by go_cell⟩ (by omega))).mono ?_
      rintro e w9 ⟨rfl, hb9⟩
      have hb99 : Below w7.heap.size w7 w9 := two (W := w7) (by go_grown) hb9
      have hB9 := HFp.out.trans (hb99.mono HFp.out.size)
      have HF9 := Lib.hid (HF.out.later hb99)
      clear x0 x1 y0 y1 z0 z1 q0 q1 g0 g1 g2 l14 l17 l19 l21 hb9 hb99 hz7 hw7 sg bb0 bb1 bc0 bc1 K14 K17 K19 K21
      by_cases hok : f.ok = true
      rotate_left 1
      · have hq : ¬ framesN [f] = 0 := fun h => hok ((frame_one f).1 h)
        obtain ⟨q, hqe⟩ : ∃ q, framesN [f] = q := ⟨_, rfl⟩
        rw [hqe] at hq ⊢
        clear hqe
        go_wp2_with fail
        go_returns
        exact ⟨rfl, hB9⟩
      rw [(frame_one f).2 hok]
      have HOk' := Lib.hid hok
      obtain ⟨g0, g1, g2⟩ := HF9.out
      clear hok
      go_wp2_with fail
      obtain ⟨W, hW⟩ : ∃ W, w9.alloc (.cells #[.int .i64 f.p, .int .i64 f.s, .int .i64 f.b] 102) = W := ⟨_, rfl⟩
      have KB := Lib.hid (show FrBox W w9.heap.size f.p f.s f.b by subst hW; exact ⟨by go_cell, by go_cell, by go_cell, by go_cell, by go_cell⟩)
      have hbW : Below w9.heap.size w9 W := by subst hW; go_grown
      have HFW := Lib.hid (HF9.out.later hbW)
      have hBW := hB9.trans (hbW.mono hB9.size)
      have hne : w.heap.size < w9.heap.size := World.block_lt_of_cell? _ _ g0
      rw [hW]
      clear hW hbW hB9 HF9 g0 g1 g2
      generalize w9.heap.size = b25 at *
      have hbd : Below W.heap.size W W.drew := below_drewN (Below.refl _ _) 1
      have hA := HFW.out.later hbd
      obtain ⟨n0, n1⟩ := Hn.out
      have hfb := Fr.bound HOk'.out
      obtain ⟨hN2, hcase⟩ := weak_list (n := n) HN.out HOk'.out n0
      obtain ⟨k0, k1, k2, kf1, kf2⟩ := KB.out.later hbd
      have hne' : w.heap.size ≠ b25 := by omega
      refine AnyV.start (Two 15 (fun w' => Three w' w.heap.size f.p f.s f.b) 15 (fun _ => True)) 16 #[false, false, false, false, false, false, false, false, false, false, false, false, false, false, false, false] (by kernel_rfl) (by kernel_rfl) (by kernel_rfl) (fun _ => ⟨fun _ => hA, fun _ => trivial⟩) (fun _ => ?_)
      generalize World.drew W = wd at hA hbd k0 k1 k2 kf1 kf2 ⊢
      refine AnyV.take 15 16 (i := 0) (oi := _) (v := ?_) rfl (by kernel_rfl) (by kernel_rfl) (by kernel_rfl) (by kernel_rfl) (by kernel_rfl) (fun _ _ _ h => h) (Two.other (by decide)) (Or.inl ⟨by kernel_rfl, ?_⟩) (Two.till (fun _ => hA) (fun _ => trivial)) (fun _ => ?_)
      rotate_left 1
      · intro wz hSw'; clear hSw'; go_simp; try with_reducible rfl
      try simp only [Act.put, List.setIfInBounds_toArray, List.set_cons_zero, List.set_cons_succ]
      refine AnyV.take 15 16 (i := 1) (oi := _) (v := ?_) rfl (by kernel_rfl) (by kernel_rfl) (by kernel_rfl) (by kernel_rfl) (by kernel_rfl) (fun _ _ _ h => h) (Two.other (by decide)) (Or.inl ⟨by kernel_rfl, ?_⟩) (Two.till (fun _ => hA) (fun _ => trivial)) (fun _ => ?_)
      rotate_left 1
      · intro wz hSw'; have hSw := hSw'.1 rfl; clear hSw'; have h1 := hSw.c1; go_simp; try with_reducible rfl
      try simp only [Act.put, List.setIfInBounds_toArray, List.set_cons_zero, List.set_cons_succ]
      refine AnyV.take 15 16 (i := 2) (oi := _) (v := ?_) rfl (by kernel_rfl) (by kernel_rfl) (by kernel_rfl) (by kernel_rfl) (by kernel_rfl) (fun _ _ _ h => h) (Two.other (by decide)) (Or.inl ⟨by kernel_rfl, ?_⟩) (Two.till (fun _ => hA) (fun _ => trivial)) (fun _ => ?_)
      rotate_left 1
      · intro wz hSw'; clear hSw'; go_simp; try with_reducible rfl
      try simp only [Act.put, List.setIfInBounds_toArray, List.set_cons_zero, List.set_cons_succ]
      refine AnyV.take 15 16 (i := 3) (oi := _) (v := ?_) rfl (by kernel_rfl) (by kernel_rfl) (by kernel_rfl) (by kernel_rfl) (by kernel_rfl) (fun _ _ _ h => h) (Two.other (by decide)) (Or.inl ⟨by kernel_rfl, ?_⟩) (Two.till (fun _ => hA) (fun _ => trivial)) (fun _ => ?_)
      rotate_left 1
      · intro wz hSw'; clear hSw'; go_simp; try with_reducible rfl
      try simp only [Act.put, List.setIfInBounds_toArray, List.set_cons_zero, List.set_cons_succ]
      refine AnyV.take 15 16 (i := 4) (oi := _) (v := ?_) rfl (by kernel_rfl) (by kernel_rfl) (by kernel_rfl) (by kernel_rfl) (by kernel_rfl) (fun _ _ _ h => h) (Two.other (by decide)) (Or.inl ⟨by kernel_rfl, ?_⟩) (Two.till (fun _ => hA) (fun _ => trivial)) (fun _ => ?_)
      rotate_left 1
      · intro wz hSw'; clear hSw'; go_simp; try with_reducible rfl
      try simp only [Act.put, List.setIfInBounds_toArray, List.set_cons_zero, List.set_cons_succ]
      refine AnyV.take 15 16 (i := 5) (oi := _) (v := ?_) rfl (by kernel_rfl) (by kernel_rfl) (by kernel_rfl) (by kernel_rfl) (by kernel_rfl) (fun _ _ _ h => h) (Two.other (by decide)) (Or.inl ⟨by kernel_rfl, ?_⟩) (Two.till (fun _ => hA) (fun _ => trivial)) (fun _ => ?_)
      rotate_left 1
      · intro wz hSw'; clear hSw'; go_simp; try with_reducible rfl
      try simp only [Act.put, List.setIfInBounds_toArray, List.set_cons_zero, List.set_cons_succ]
      refine AnyV.take 15 16 (i := 6) (oi := _) (v := ?_) rfl (by kernel_rfl) (by kernel_rfl) (by kernel_rfl) (by kernel_rfl) (by kernel_rfl) (fun _ _ _ h => h) (Two.other (by decide)) (Or.inl ⟨by kernel_rfl, ?_⟩) (Two.till (fun _ => hA) (fun _ => trivial)) (fun _ => ?_)
      rotate_left 1
      · intro wz hSw'; clear hSw'; go_simp; try with_reducible rfl
      try simp only [Act.put, List.setIfInBounds_toArray, List.set_cons_zero, List.set_cons_succ]
      refine AnyV.take 15 16 (i := 7) (oi := _) (v := ?_) rfl (by kernel_rfl) (by kernel_rfl) (by kernel_rfl) (by kernel_rfl) (by kernel_rfl) (fun _ _ _ h => h) (Two.other (by decide)) (Or.inl ⟨by kernel_rfl, ?_⟩) (Two.till (fun _ => hA) (fun _ => trivial)) (fun _ => ?_)
      rotate_left 1
      · intro wz hSw'; have hSw := hSw'.1 rfl; clear hSw'; have h1 := hSw.c2; go_simp; try with_reducible rfl
      try simp only [Act.put, List.setIfInBounds_toArray, List.set_cons_zero, List.set_cons_succ]
      refine AnyV.take 15 16 (i := 8) (oi := _) (v := ?_) rfl (by kernel_rfl) (by kernel_rfl) (by kernel_rfl) (by kernel_rfl) (by kernel_rfl) (fun _ _ _ h => h) (Two.other (by decide)) (Or.inl ⟨by kernel_rfl, ?_⟩) (Two.till (fun _ => hA) (fun _ => trivial)) (fun _ => ?_)
      rotate_left 1
      · intro wz hSw'; clear hSw'; go_simp; try with_reducible rfl
      try simp only [Act.put, List.setIfInBounds_toArray, List.set_cons_zero, List.set_cons_succ]
      refine AnyV.take 15 16 (i := 9) (oi := _) (v := ?_) rfl (by kernel_rfl) (by kernel_rfl) (by kernel_rfl) (by kernel_rfl) (by kernel_rfl) (fun _ _ _ h => h) (Two.other (by decide)) (Or.inl ⟨by kernel_rfl, ?_⟩) (Two.till (fun _ => hA) (fun _ => trivial)) (fun _ => ?_)
      rotate_left 1
      · intro wz hSw'; clear hSw'; go_simp; try with_reducible rfl
      try simp only [Act.put, List.setIfInBounds_toArray, List.set_cons_zero, List.set_cons_succ]
      refine AnyV.take 15 16 (i := 10) (oi := _) (v := ?_) rfl (by kernel_rfl) (by kernel_rfl) (by kernel_rfl) (by kernel_rfl) (by kernel_rfl) (fun _ _ _ h => h) (Two.other (by decide)) (Or.inl ⟨by kernel_rfl, ?_⟩) (Two.till (fun _ => hA) (fun _ => trivial)) (fun _ => ?_)
      rotate_left 1
      · intro wz hSw'; clear hSw'; go_simp; try with_reducible rfl
      try simp only [Act.put, List.setIfInBounds_toArray, List.set_cons_zero, List.set_cons_succ]
      refine AnyV.take 15 16 (i := 11) (oi := _) (v := ?_) rfl (by kernel_rfl) (by kernel_rfl) (by kernel_rfl) (by kernel_rfl) (by kernel_rfl) (fun _ _ _ h => h) (Two.other (by decide)) (Or.inl ⟨by kernel_rfl, ?_⟩) (Two.till (fun _ => hA) (fun _ => trivial)) (fun _ => ?_)
      rotate_left 1
      · intro wz hSw'; clear hSw'; go_simp; try with_reducible rfl
      try simp only [Act.put, List.setIfInBounds_toArray, List.set_cons_zero, List.set_cons_succ]
      refine AnyV.take 15 16 (i := 12) (oi := _) (v := ?_) rfl (by kernel_rfl) (by kernel_rfl) (by kernel_rfl) (by kernel_rfl) (by kernel_rfl) (fun _ _ _ h => h) (Two.other (by decide)) (Or.inl ⟨by kernel_rfl, ?_⟩) (Two.till (fun _ => hA) (fun _ => trivial)) (fun _ => ?_)
      rotate_left 1
      · intro wz hSw'; clear hSw'; go_simp; try with_reducible rfl
      try simp only [Act.put, List.setIfInBounds_toArray, List.set_cons_zero, List.set_cons_succ]
      refine AnyV.one (i := 13) (o := _) rfl (by kernel_rfl) (fun K hK => ?_)
      go_simp
      have hA13 : ∀ u, Three (wd.setCell ⟨b25, 1, none⟩ u) w.heap.size f.p f.s f.b := fun u => ⟨by rw [cell_far _ _ hne']; exact hA.c0, by rw [cell_far _ _ hne']; exact hA.c1, by rw [cell_far _ _ hne']; exact hA.c2⟩
      refine hK.out _ _ (Two.till (fun _ => hA13 _) (fun _ => trivial)) ?_
      clear hK K
      try simp only [Act.put, List.setIfInBounds_toArray, List.set_cons_zero, List.set_cons_succ]
      refine AnyV.one (i := 14) (o := _) rfl (by kernel_rfl) (fun K hK => ?_)
      go_simp
      refine hK.out _ _ (Two.till (fun _ => hA13 _) (fun _ => trivial)) ?_
      clear hK K
      try simp only [Act.put, List.setIfInBounds_toArray, List.set_cons_zero, List.set_cons_succ]
      refine AnyV.one (i := 15) (o := _) rfl (by kernel_rfl) (fun K hK => ?_)
      go_simp
      refine hK.out _ _ (Two.till (fun h => absurd h (by decide)) (fun _ => trivial)) ?_
      clear hK K
      refine AnyV.done (by kernel_rfl) ?_
      try simp only [Act.put, List.setIfInBounds_toArray, List.set_cons_zero, List.set_cons_succ]
      rw [show IntKind.i64.wrap n = n from IntWalk.i64_in _ ⟨by omega, by omega⟩]
      rw [show IntKind.i64.wrap (f.s - n) = f.s - n from IntWalk.i64_in _ ⟨by omega, by omega⟩, show IntKind.i64.wrap (f.b - n) = f.b - n from IntWalk.i64_in _ ⟨by omega, by omega⟩]
      have hle : w.heap.size ≤ b25 := by omega
      obtain ⟨W26, hW⟩ : ∃ W, (wd.setCell ⟨b25, 1, none⟩ (.int .i64 (max (f.s - n) 0))).setCell ⟨b25, 2, none⟩ (.int .i64 (max (f.b - n) 0)) = W := ⟨_, rfl⟩
      have hBd := hBW.trans (hbd.mono hBW.size)
      have hA26 := hA13 (.int .i64 (max (f.s - n) 0))
      obtain ⟨g0, g1, g2⟩ : Three W26 w.heap.size f.p f.s f.b := by
        subst hW
        exact ⟨by rw [cell_far _ _ hne']; exact hA26.c0, by rw [cell_far _ _ hne']; exact hA26.c1, by rw [cell_far _ _ hne']; exact hA26.c2⟩
      obtain ⟨m0, m1, m2⟩ : Three W26 b25 (weakF f n).p (weakF f n).s (weakF f n).b := by
        subst hW
        unfold weakF
        exact ⟨by go_cell, by go_cell, by go_cell⟩
      have hB26 : Below w.heap.size w W26 := by subst hW; go_grown
      have hz26 := hB26.size
      rw [hW]
      clear hW hA hbd k0 k1 k2 kf1 kf2 hA13 hA26 KB hBd hfb hBW HFW
      obtain ⟨fw, hfw⟩ : ∃ x, weakF f n = x := ⟨_, rfl⟩
      rw [hfw] at m0 m1 m2 hN2 hcase
      clear hfw
      go_wp2_with fail
      refine (strained_any _ _ ls [f, fw] _ (ldLater HV.out (by go_grown)) (two_frames _ f fw _)).mono ?_
      rintro e w11 ⟨zu, rfl, hz, hb11⟩
      rw [hN2]
      have hB11 : Below w.heap.size w w11 := (after (w := w) (by go_grown) hb11).1
      clear hb11 g0 g1 g2 m0 m1 m2
      rcases hcase with hL | hL | hL
      · rw [hL] at hz
        obtain ⟨za, zc, rfl, _, _⟩ := hz.form
        rw [show ([] : List Int).length = 0 from rfl]
        go_wp2_with fail
        go_returns
        exact ⟨rfl, hB11⟩
      · rw [hL] at hz
        obtain ⟨za, zc, rfl, _, _⟩ := hz.form
        obtain ⟨g, o, z, rfl, hg, hz0, hat⟩ := hz.at (show 0 < ([1] : List Int).length by simp)
        have e0 : w11.cell? ⟨g, o, none⟩ = some (.int .i64 1) := by
          simp at hz0
          subst hz0
          unfold IntAt at hat
          simpa using hat
        rw [show ([1] : List Int).length = 1 from rfl]
        clear hz hz0 hat hL
        go_wp2_with fail
        go_returns
        exact ⟨rfl, hB11⟩
      · rw [hL] at hz
        obtain ⟨za, zc, rfl, _, _⟩ := hz.form
        obtain ⟨g, o, z, rfl, hg, hz0, hat⟩ := hz.at (show 1 < ([0, 1] : List Int).length by simp)
        have e0 : w11.cell? ⟨g, o + 1, none⟩ = some (.int .i64 1) := by
          simp at hz0
          subst hz0
          unfold IntAt at hat
          simpa using hat
        rw [show ([0, 1] : List Int).length = 2 from rfl]
        clear hz hz0 hat hL
        go_wp2_with fail
        go_returns
        exact ⟨rfl, hB11⟩
end Go.Proofs.Ytldnpnplgfkebaa
