/- MastTurns: the walk. -/
import Derived.Test.YtbkabgbkdggnhaaMRTurn
import Derived.Test.YtbkabgbkdggnhaaMRMan
namespace Go.Proofs.Ytbkabgbkdggnhaa
open Go.RowKit

theorem wp_append_ax {o : Oper} {a : Act} {w : World} {K : Act → World → Prop} {Q : Exit → Act → World → Prop} (s x : Operand) (ho : o.op = .call { callee := .builtin .append, args := #[s, x], argTypes := #[42, 42] })
    (base : Nat) (sv xv : Value) (xs ys : List Pr) (hs : a.eval s = sv) (hown : w.ownsRow base 27 2 sv xs.length (spR (xs.map Pr.row))) (hx : a.eval x = xv) (hy : SlPr w xv ys) (hn : xs.length + ys.length ≤ 1000) (hbase : base ≤ w.heap.size)
    (h : ∀ v' w', w'.ownsRow base 27 2 v' (xs ++ ys).length (spR ((xs ++ ys).map Pr.row)) → w.grownBy w' sv.ownBlock → K (a.put o.dst v') w') : o.wp Try.prog a w K Q := by
  obtain ⟨i0, hi, hz0, hz1, hz2⟩ := info_parts (P := Try.prog) (e := 27) (z := .agg #[.int .i64 0, .int .i64 0]) (size := 2) (bytes := 16) (by kernel_rfl)
  rcases hy with ⟨rfl, rfl⟩ | ⟨b, off, cap, rfl, h2, h3, h4, h5⟩
  · have hrun := run_append_owned_none (P := Try.prog) (w := w) base 42 o.type 27 i0 2 Try.underlying42 hi sv xs.length _ hown
    unfold Oper.wp
    simp [execOp, ho, resolve, invoke, builtin, hs, hx, hrun, Result.andThen]
    exact h sv w (by simpa using hown) ⟨rfl, rfl, rfl, Nat.le_refl _, fun _ _ _ => rfl⟩
  · have hlo := pr_len ys
    refine wp_append_own w s x 42 ho base 27 i0 (.agg #[.int .i64 0, .int .i64 0]) 2 16 Try.underlying42 hi hz0 hz1 hz2 rfl (by decide) sv xs.length _ hs hown ⟨b, off, none⟩ ys.length cap (spR (ys.map Pr.row)) hx ?_ (spR_cell (pr_rows h5) hlo (by decide)) spR_one (by unfold maxLen; omega) (by omega) hbase ?_
    · rw [spR_len _ hlo, List.length_map]
    · intro v' w' ho' hg _
      exact h v' w' (by rw [List.length_append, List.map_append]; unfold spR; rw [List.flatMap_append]; exact ho') hg
theorem wp_append_sp {o : Oper} {a : Act} {w : World} {K : Act → World → Prop} {Q : Exit → Act → World → Prop} (s x : Operand) (ho : o.op = .call { callee := .builtin .append, args := #[s, x], argTypes := #[43, 43] })
    (base : Nat) (sv xv : Value) (xs ys : List Pr) (hs : a.eval s = sv) (hown : w.ownsRow base 23 2 sv xs.length (spR (xs.map Pr.row))) (hx : a.eval x = xv) (hy : SlPr w xv ys) (hn : xs.length + ys.length ≤ 1000) (hbase : base ≤ w.heap.size)
    (h : ∀ v' w', w'.ownsRow base 23 2 v' (xs ++ ys).length (spR ((xs ++ ys).map Pr.row)) → w.grownBy w' sv.ownBlock → K (a.put o.dst v') w') : o.wp Try.prog a w K Q := by
  obtain ⟨i0, hi, hz0, hz1, hz2⟩ := info_parts (P := Try.prog) (e := 23) (z := .agg #[.int .i64 0, .int .i64 0]) (size := 2) (bytes := 16) (by kernel_rfl)
  rcases hy with ⟨rfl, rfl⟩ | ⟨b, off, cap, rfl, h2, h3, h4, h5⟩
  · have hrun := run_append_owned_none (P := Try.prog) (w := w) base 43 o.type 23 i0 2 Try.underlying43 hi sv xs.length _ hown
    unfold Oper.wp
    simp [execOp, ho, resolve, invoke, builtin, hs, hx, hrun, Result.andThen]
    exact h sv w (by simpa using hown) ⟨rfl, rfl, rfl, Nat.le_refl _, fun _ _ _ => rfl⟩
  · have hlo := pr_len ys
    refine wp_append_own w s x 43 ho base 23 i0 (.agg #[.int .i64 0, .int .i64 0]) 2 16 Try.underlying43 hi hz0 hz1 hz2 rfl (by decide) sv xs.length _ hs hown ⟨b, off, none⟩ ys.length cap (spR (ys.map Pr.row)) hx ?_ (spR_cell (pr_rows h5) hlo (by decide)) spR_one (by unfold maxLen; omega) (by omega) hbase ?_
    · rw [spR_len _ hlo, List.length_map]
    · intro v' w' ho' hg _
      exact h v' w' (by rw [List.length_append, List.map_append]; unfold spR; rw [List.flatMap_append]; exact ho') hg
theorem grown_b {B e k : Nat} {w w' : World} {v : Value} {n : Nat} {xs : List Value} (h : w.ownsRow B e k v n xs) (hg : w.grownBy w' v.ownBlock) (hB : B ≤ w.heap.size) : Below B w w' :=
  ⟨hg.os, hg.tape, hg.output, hg.size, fun k hk => hg.block k (by omega) (fun e => by have := (h.lt k e.symm).1; omega)⟩
/-- Rows of different types lie in different blocks. -/
theorem own_ne {B B' e e' k k' n n' : Nat} {w : World} {v v' : Value} {xs xs' : List Value} (h : w.ownsRow B e k v n xs) (h' : w.ownsRow B' e' k' v' n' xs') (he : e ≠ e') : v.ownBlock = none ∨ v.ownBlock ≠ v'.ownBlock := by
  rcases h.2 with ⟨rfl, _⟩ | ⟨g, cap, cur, rfl, _, h3, _⟩
  · exact .inl rfl
  · refine .inr fun hx => ?_
    rcases h'.2 with ⟨rfl, _⟩ | ⟨g', cap', cur', rfl, _, h3', _⟩
    · simp [Value.ownBlock] at hx
    · simp [Value.ownBlock] at hx
      subst hx
      rw [h3] at h3'
      injection h3' with h3'
      injection h3' with _ h4
      exact he h4
/-- An empty row, made in a region of W. -/
theorem row_new {W cur : World} {t : TypeId} (hA : Below W.heap.size W cur) :
    ∃ w9 B, cur.alloc (.cells #[] t) = w9 ∧ cur.heap.size = B ∧ Below W.heap.size W w9 ∧ Below cur.heap.size cur w9 ∧ w9.ownsRow W.heap.size t 2 (.slice (some ⟨B, 0, none⟩) 0 0) 0 [] :=
  ⟨_, _, rfl, rfl, hA.alloc hA.size _, (Below.refl _ _).alloc (Nat.le_refl _) _, own_none cur W.heap.size t 2 hA.size⟩

/-- A port as a value. -/
abbrev portV (ax : Value) (ppl m : Int) (pu : Value) (cr : Int) : Value := .agg #[ax, .int .i64 ppl, .int .i64 m, pu, .int .i64 cr]
/-- What the law keeps: its port, its wind. -/
structure MtK (w wr : World) (ax : Value) (ppl m : Int) (pu : Value) (cr a b c d : Int) : Prop where
  p0 : wr.cell? ⟨w.heap.size, 0, none⟩ = some ax
  p1 : wr.cell? ⟨w.heap.size, 1, none⟩ = some (.int .i64 ppl)
  p2 : wr.cell? ⟨w.heap.size, 2, none⟩ = some (.int .i64 m)
  p3 : wr.cell? ⟨w.heap.size, 3, none⟩ = some pu
  p4 : wr.cell? ⟨w.heap.size, 4, none⟩ = some (.int .i64 cr)
  wind : Four wr (w.heap.size + 1) a b c d
  below : Below w.heap.size w wr
theorem MtK.later {w wr w1 : World} {ax : Value} {ppl m : Int} {pu : Value} {cr a b c d : Int} (k : MtK w wr ax ppl m pu cr a b c d) (hb : Below wr.heap.size wr w1) : MtK w w1 ax ppl m pu cr a b c d :=
  ⟨cell_later hb k.p0, cell_later hb k.p1, cell_later hb k.p2, cell_later hb k.p3, cell_later hb k.p4, k.wind.later hb, k.below.trans (hb.mono k.below.size)⟩
/-- Behind the two copies. -/
def MtC (w wr : World) (v v' ax : Value) (ppl m : Int) (pu : Value) (cr a b c d : Int) (l q : List Pr) : Prop := SlPr wr v l ∧ SlPr wr v' q ∧ MtK w wr ax ppl m pu cr a b c d

def greatP (n k : Nat) : Bool := decide (40 < n) || decide (20 < k)
set_option linter.unusedSimpArgs false in
set_option maxHeartbeats 1000000 in
theorem great_any (a0 a3 : Option Addr) (n0 n3 c0 c3 : Nat) (ppl m cr : Int) (w : World) (h0 : n0 ≤ maxLen) (h3 : n3 ≤ maxLen) :
    Calls Try.prog 17 #[portV (.slice a0 n0 c0) ppl m (.slice a3 n3 c3) cr] w fun e w' => e = .returned (.bool (greatP n0 n3)) ∧ Below w.heap.size w w' := by
  unfold maxLen at h0 h3
  by_cases h1 : 40 < n0
  · have h1' : (40 : Int) < (n0 : Int) := by omega
    go_enter Try.func17, Try.ntmps17
    go_wp2_with fail
    go_returns
    exact ⟨ret_bool (by unfold greatP; simp [h1]), by go_grown⟩
  · have h1' : ¬ (40 : Int) < (n0 : Int) := by omega
    go_enter Try.func17, Try.ntmps17
    go_wp2_with fail
    go_returns
    exact ⟨ret_bool (by unfold greatP; rw [Bool.eq_iff_iff]; simp [h1]; try omega), by go_grown⟩
set_option linter.unusedSimpArgs false in
set_option maxRecDepth 100000 in
set_option maxHeartbeats 1000000 in
theorem mastTurns_great (a0 a3 : Option Addr) (n0 n3 c0 c3 : Nat) (ppl pm cr p a b c d m people : Int) (w : World) (h0 : n0 ≤ maxLen) (h3 : n3 ≤ maxLen) (hg : greatP n0 n3 = true) :
    Calls Try.prog 4 #[portV (.slice a0 n0 c0) ppl pm (.slice a3 n3 c3) cr, .int .i64 p, wd a b c d, .int .i64 m, .int .i64 people] w fun e w' => e = .returned (.bool true) ∧ Below w.heap.size w w' := by
  have HG := Lib.hid hg
  clear hg
  go_enter Try.func4, Try.ntmps4
  go_wp2_with fail
  refine (great_any _ _ _ _ _ _ _ _ _ _ h0 h3).mono ?_
  rintro e w1 ⟨rfl, hb1⟩
  rw [HG.out]
  have hB1 : Below w.heap.size w w1 := (after (w := w) (by go_grown) hb1).1
  clear hb1
  go_wp2_with fail
  go_returns
  exact ⟨rfl, hB1⟩

/-- The heads of the law's loops. -/
def MlHead (n : Nat) (wb wr : World) (v v' : Value) : Prop := ∃ k : Nat, k ≤ n ∧ v = .bool true ∧ v' = .int .i64 k ∧ Below wb.heap.size wb wr

set_option linter.unusedSimpArgs false in
set_option maxRecDepth 100000 in
set_option maxHeartbeats 8000000 in
theorem mastTurns_walk (a0 a3 : Option Addr) (c0 c3 : Nat) (l q : List Pr) (ppl pm cr p a b c d m people : Int) (w : World) (hl : SlPr w (.slice a0 l.length c0) l) (hq : SlPr w (.slice a3 q.length c3) q) (hl40 : l.length ≤ 40) (hq20 : q.length ≤ 20) :
    Calls Try.prog 4 #[portV (.slice a0 l.length c0) ppl pm (.slice a3 q.length c3) cr, .int .i64 p, wd a b c d, .int .i64 m, .int .i64 people] w fun e w' => e = .returned (.bool true) ∧ Below w.heap.size w w' := by
  have HL := Lib.hid hl
  have HQ := Lib.hid hq
  have HG : Hid (greatP l.length q.length = false) := Lib.hid (by unfold greatP; simp; omega)
  clear hl hq
  go_enter Try.func4, Try.ntmps4
  go_wp2_with fail
  refine (great_any _ _ _ _ _ _ _ _ _ _ (by unfold maxLen; omega) (by unfold maxLen; omega)).mono ?_
  rintro e w1 ⟨rfl, hb1⟩
  rw [HG.out]
  have k1 : MtK w w1 (.slice a0 l.length c0) ppl pm (.slice a3 q.length c3) cr a b c d :=
    ⟨cell_later hb1 (by go_cell), cell_later hb1 (by go_cell), cell_later hb1 (by go_cell), cell_later hb1 (by go_cell), cell_later hb1 (by go_cell), Four.later ⟨by go_cell, by go_cell, by go_cell, by go_cell⟩ hb1, (after (w := w) (by go_grown) hb1).1⟩
  have HK := Lib.hid k1
  clear k1 hb1
  go_wp2_with fail
  generalize w1 = W at *
  go_cut [11, 12] from 28 to 35 (fun v11 v12 wr => MtC w wr v11 v12 (.slice a0 l.length c0) ppl pm (.slice a3 q.length c3) cr a b c d l q)
  case first =>
    have hA : Below W.heap.size W W.drew := below_drewN (Below.refl _ _) 1
    refine AnyV.start (Two 9 (fun w' => Below W.heap.size W w') 9 (fun _ => True)) 10 #[false, false, false, false, false, false, false, false, false, false] (by kernel_rfl) (by kernel_rfl) (by kernel_rfl) (fun _ => ⟨fun _ => hA, fun _ => trivial⟩) (fun _ => ?_)
    generalize World.drew W = wd0 at hA ⊢
    refine AnyV.take 9 10 (i := 1) (oi := _) (v := ?_) rfl (by kernel_rfl) (by kernel_rfl) (by kernel_rfl) (by kernel_rfl) (by kernel_rfl) (fun _ _ _ h => h) (Two.other (by decide)) (Or.inl ⟨by kernel_rfl, ?_⟩) (Two.till (fun _ => hA) (fun _ => trivial)) (fun _ => ?_)
    rotate_left 1
    · intro wz hSw'; have hSw := hSw'.1 rfl; clear hSw'; skip; go_simp; try with_reducible rfl
    try simp only [Act.put, List.setIfInBounds_toArray, List.set_cons_zero, List.set_cons_succ]
    refine AnyV.take 9 10 (i := 2) (oi := _) (v := ?_) rfl (by kernel_rfl) (by kernel_rfl) (by kernel_rfl) (by kernel_rfl) (by kernel_rfl) (fun _ _ _ h => h) (Two.other (by decide)) (Or.inl ⟨by kernel_rfl, ?_⟩) (Two.till (fun _ => hA) (fun _ => trivial)) (fun _ => ?_)
    rotate_left 1
    · intro wz hSw'; have hSw := hSw'.1 rfl; clear hSw'; have h1 := (HK.out.later hSw).p0; go_simp; try with_reducible rfl
    try simp only [Act.put, List.setIfInBounds_toArray, List.set_cons_zero, List.set_cons_succ]
    refine AnyV.take 9 10 (i := 5) (oi := _) (v := ?_) rfl (by kernel_rfl) (by kernel_rfl) (by kernel_rfl) (by kernel_rfl) (by kernel_rfl) (fun _ _ _ h => h) (Two.other (by decide)) (Or.inl ⟨by kernel_rfl, ?_⟩) (Two.till (fun _ => hA) (fun _ => trivial)) (fun _ => ?_)
    rotate_left 1
    · intro wz hSw'; have hSw := hSw'.1 rfl; clear hSw'; skip; go_simp; try with_reducible rfl
    try simp only [Act.put, List.setIfInBounds_toArray, List.set_cons_zero, List.set_cons_succ]
    refine AnyV.take 9 10 (i := 6) (oi := _) (v := ?_) rfl (by kernel_rfl) (by kernel_rfl) (by kernel_rfl) (by kernel_rfl) (by kernel_rfl) (fun _ _ _ h => h) (Two.other (by decide)) (Or.inl ⟨by kernel_rfl, ?_⟩) (Two.till (fun _ => hA) (fun _ => trivial)) (fun _ => ?_)
    rotate_left 1
    · intro wz hSw'; have hSw := hSw'.1 rfl; clear hSw'; have h1 := (HK.out.later hSw).p3; go_simp; try with_reducible rfl
    try simp only [Act.put, List.setIfInBounds_toArray, List.set_cons_zero, List.set_cons_succ]
    refine AnyV.some [0, 4] (by kernel_rfl) (by simp) (fun i hi => ?_)
    simp only [List.mem_cons, List.not_mem_nil, or_false] at hi
    rcases hi with rfl | rfl
    · skip
      refine AnyV.step (o := _) rfl (fun K hK => ?_)
      go_simp
      obtain ⟨w9, ga, e9, f9, hA9, hb9, r9⟩ := row_new (t := 27) hA
      rw [e9, f9]
      clear e9 f9 hA
      have hA := hA9
      clear hA9
      have HRa := Lib.hid r9
      clear r9
      try replace HRa := Lib.hid (own_below HRa.out hb9)
      try replace HRb := Lib.hid (own_below HRb.out hb9)
      try replace HOa := Lib.hid (own_below HOa.out hb9)
      clear hb9
      refine hK.out _ _ (Two.till (fun _ => hA) (fun _ => trivial)) ?_
      clear hK K
      try simp only [Act.put, List.setIfInBounds_toArray, List.set_cons_zero, List.set_cons_succ]
      refine AnyV.some [3, 4] (by kernel_rfl) (by simp) (fun i hi => ?_)
      simp only [List.mem_cons, List.not_mem_nil, or_false] at hi
      rcases hi with rfl | rfl
      · skip
        refine AnyV.step (o := _) rfl (fun K hK => ?_)
        rw [if_pos (by kernel_rfl)]
        refine wp_append_ax (.tmp 28) (.tmp 30) rfl W.heap.size _ _ [] l rfl HRa.out rfl (prLater HL.out (HK.out.below.trans (hA.mono HK.out.below.size))) (by simp; omega) hA.size ?_
        intro va w9 ho hg
        have hA9 := hA.trans (grown_b HRa.out hg hA.size)
        have HOa : Hid (w9.ownsRow W.heap.size 27 2 va l.length (spR (l.map Pr.row))) := Lib.hid (by simpa using ho)
        try replace HRb := Lib.hid (HRb.out.kept hg (own_ne HRb.out HRa.out (by decide)))
        clear ho hg HRa
        clear hA
        have hA := hA9
        clear hA9
        refine hK.out _ _ (Two.till (fun _ => hA) (fun _ => trivial)) ?_
        clear hK K
        try simp only [Act.put, List.setIfInBounds_toArray, List.set_cons_zero, List.set_cons_succ]
        refine AnyV.one (i := 4) (o := _) rfl (by kernel_rfl) (fun K hK => ?_)
        go_simp
        obtain ⟨w9, gb, e9, f9, hA9, hb9, r9⟩ := row_new (t := 23) hA
        rw [e9, f9]
        clear e9 f9 hA
        have hA := hA9
        clear hA9
        have HRb := Lib.hid r9
        clear r9
        try replace HRa := Lib.hid (own_below HRa.out hb9)
        try replace HRb := Lib.hid (own_below HRb.out hb9)
        try replace HOa := Lib.hid (own_below HOa.out hb9)
        clear hb9
        refine hK.out _ _ (Two.till (fun _ => hA) (fun _ => trivial)) ?_
        clear hK K
        try simp only [Act.put, List.setIfInBounds_toArray, List.set_cons_zero, List.set_cons_succ]
        refine AnyV.one (i := 7) (o := _) rfl (by kernel_rfl) (fun K hK => ?_)
        rw [if_pos (by kernel_rfl)]
        refine wp_append_sp (.tmp 32) (.tmp 34) rfl W.heap.size _ _ [] q rfl HRb.out rfl (prLater HQ.out (HK.out.below.trans (hA.mono HK.out.below.size))) (by simp; omega) hA.size ?_
        intro vb w9 ho hg
        have hA9 := hA.trans (grown_b HRb.out hg hA.size)
        have HOb : Hid (w9.ownsRow W.heap.size 23 2 vb q.length (spR (q.map Pr.row))) := Lib.hid (by simpa using ho)
        replace HOa := Lib.hid (HOa.out.kept hg (own_ne HOa.out HRb.out (by decide)))
        clear ho hg HRb
        clear hA
        have hA := hA9
        clear hA9
        refine hK.out _ _ (Two.till (fun _ => hA) (fun _ => trivial)) ?_
        clear hK K
        try simp only [Act.put, List.setIfInBounds_toArray, List.set_cons_zero, List.set_cons_succ]
        refine AnyV.one (i := 8) (o := _) rfl (by kernel_rfl) (fun K hK => ?_)
        go_simp
        refine hK.out _ _ (Two.till (fun _ => hA) (fun _ => trivial)) ?_
        clear hK K
        try simp only [Act.put, List.setIfInBounds_toArray, List.set_cons_zero, List.set_cons_succ]
        refine AnyV.one (i := 9) (o := _) rfl (by kernel_rfl) (fun K hK => ?_)
        go_simp
        refine hK.out _ _ (Two.till (fun h => absurd h (by decide)) (fun _ => trivial)) ?_
        clear hK K
        refine AnyV.done (by kernel_rfl) ?_
        try simp only [Act.put, List.setIfInBounds_toArray, List.set_cons_zero, List.set_cons_succ]
        go_wp2_with fail
        go_meet
        case rel => exact ⟨own_copy HOa.out (by omega), own_copy HOb.out (by omega), HK.out.later hA⟩
      · skip
        refine AnyV.step (o := _) rfl (fun K hK => ?_)
        go_simp
        obtain ⟨w9, gb, e9, f9, hA9, hb9, r9⟩ := row_new (t := 23) hA
        rw [e9, f9]
        clear e9 f9 hA
        have hA := hA9
        clear hA9
        have HRb := Lib.hid r9
        clear r9
        try replace HRa := Lib.hid (own_below HRa.out hb9)
        try replace HRb := Lib.hid (own_below HRb.out hb9)
        try replace HOa := Lib.hid (own_below HOa.out hb9)
        clear hb9
        refine hK.out _ _ (Two.till (fun _ => hA) (fun _ => trivial)) ?_
        clear hK K
        try simp only [Act.put, List.setIfInBounds_toArray, List.set_cons_zero, List.set_cons_succ]
        refine AnyV.one (i := 3) (o := _) rfl (by kernel_rfl) (fun K hK => ?_)
        rw [if_pos (by kernel_rfl)]
        refine wp_append_ax (.tmp 28) (.tmp 30) rfl W.heap.size _ _ [] l rfl HRa.out rfl (prLater HL.out (HK.out.below.trans (hA.mono HK.out.below.size))) (by simp; omega) hA.size ?_
        intro va w9 ho hg
        have hA9 := hA.trans (grown_b HRa.out hg hA.size)
        have HOa : Hid (w9.ownsRow W.heap.size 27 2 va l.length (spR (l.map Pr.row))) := Lib.hid (by simpa using ho)
        try replace HRb := Lib.hid (HRb.out.kept hg (own_ne HRb.out HRa.out (by decide)))
        clear ho hg HRa
        clear hA
        have hA := hA9
        clear hA9
        refine hK.out _ _ (Two.till (fun _ => hA) (fun _ => trivial)) ?_
        clear hK K
        try simp only [Act.put, List.setIfInBounds_toArray, List.set_cons_zero, List.set_cons_succ]
        refine AnyV.one (i := 7) (o := _) rfl (by kernel_rfl) (fun K hK => ?_)
        rw [if_pos (by kernel_rfl)]
        refine wp_append_sp (.tmp 32) (.tmp 34) rfl W.heap.size _ _ [] q rfl HRb.out rfl (prLater HQ.out (HK.out.below.trans (hA.mono HK.out.below.size))) (by simp; omega) hA.size ?_
        intro vb w9 ho hg
        have hA9 := hA.trans (grown_b HRb.out hg hA.size)
        have HOb : Hid (w9.ownsRow W.heap.size 23 2 vb q.length (spR (q.map Pr.row))) := Lib.hid (by simpa using ho)
        replace HOa := Lib.hid (HOa.out.kept hg (own_ne HOa.out HRb.out (by decide)))
        clear ho hg HRb
        clear hA
        have hA := hA9
        clear hA9
        refine hK.out _ _ (Two.till (fun _ => hA) (fun _ => trivial)) ?_
        clear hK K
        try simp only [Act.put, List.setIfInBounds_toArray, List.set_cons_zero, List.set_cons_succ]
        refine AnyV.one (i := 8) (o := _) rfl (by kernel_rfl) (fun K hK => ?_)
        go_simp
        refine hK.out _ _ (Two.till (fun _ => hA) (fun _ => trivial)) ?_
        clear hK K
        try simp only [Act.put, List.setIfInBounds_toArray, List.set_cons_zero, List.set_cons_succ]
        refine AnyV.one (i := 9) (o := _) rfl (by kernel_rfl) (fun K hK => ?_)
        go_simp
        refine hK.out _ _ (Two.till (fun h => absurd h (by decide)) (fun _ => trivial)) ?_
        clear hK K
        refine AnyV.done (by kernel_rfl) ?_
        try simp only [Act.put, List.setIfInBounds_toArray, List.set_cons_zero, List.set_cons_succ]
        go_wp2_with fail
        go_meet
        case rel => exact ⟨own_copy HOa.out (by omega), own_copy HOb.out (by omega), HK.out.later hA⟩
    · skip
      refine AnyV.step (o := _) rfl (fun K hK => ?_)
      go_simp
      obtain ⟨w9, gb, e9, f9, hA9, hb9, r9⟩ := row_new (t := 23) hA
      rw [e9, f9]
      clear e9 f9 hA
      have hA := hA9
      clear hA9
      have HRb := Lib.hid r9
      clear r9
      try replace HRa := Lib.hid (own_below HRa.out hb9)
      try replace HRb := Lib.hid (own_below HRb.out hb9)
      try replace HOa := Lib.hid (own_below HOa.out hb9)
      clear hb9
      refine hK.out _ _ (Two.till (fun _ => hA) (fun _ => trivial)) ?_
      clear hK K
      try simp only [Act.put, List.setIfInBounds_toArray, List.set_cons_zero, List.set_cons_succ]
      refine AnyV.one (i := 0) (o := _) rfl (by kernel_rfl) (fun K hK => ?_)
      go_simp
      obtain ⟨w9, ga, e9, f9, hA9, hb9, r9⟩ := row_new (t := 27) hA
      rw [e9, f9]
      clear e9 f9 hA
      have hA := hA9
      clear hA9
      have HRa := Lib.hid r9
      clear r9
      try replace HRa := Lib.hid (own_below HRa.out hb9)
      try replace HRb := Lib.hid (own_below HRb.out hb9)
      try replace HOa := Lib.hid (own_below HOa.out hb9)
      clear hb9
      refine hK.out _ _ (Two.till (fun _ => hA) (fun _ => trivial)) ?_
      clear hK K
      try simp only [Act.put, List.setIfInBounds_toArray, List.set_cons_zero, List.set_cons_succ]
      refine AnyV.one (i := 3) (o := _) rfl (by kernel_rfl) (fun K hK => ?_)
      rw [if_pos (by kernel_rfl)]
      refine wp_append_ax (.tmp 28) (.tmp 30) rfl W.heap.size _ _ [] l rfl HRa.out rfl (prLater HL.out (HK.out.below.trans (hA.mono HK.out.below.size))) (by simp; omega) hA.size ?_
      intro va w9 ho hg
      have hA9 := hA.trans (grown_b HRa.out hg hA.size)
      have HOa : Hid (w9.ownsRow W.heap.size 27 2 va l.length (spR (l.map Pr.row))) := Lib.hid (by simpa using ho)
      try replace HRb := Lib.hid (HRb.out.kept hg (own_ne HRb.out HRa.out (by decide)))
      clear ho hg HRa
      clear hA
      have hA := hA9
      clear hA9
      refine hK.out _ _ (Two.till (fun _ => hA) (fun _ => trivial)) ?_
      clear hK K
      try simp only [Act.put, List.setIfInBounds_toArray, List.set_cons_zero, List.set_cons_succ]
      refine AnyV.one (i := 7) (o := _) rfl (by kernel_rfl) (fun K hK => ?_)
      rw [if_pos (by kernel_rfl)]
      refine wp_append_sp (.tmp 32) (.tmp 34) rfl W.heap.size _ _ [] q rfl HRb.out rfl (prLater HQ.out (HK.out.below.trans (hA.mono HK.out.below.size))) (by simp; omega) hA.size ?_
      intro vb w9 ho hg
      have hA9 := hA.trans (grown_b HRb.out hg hA.size)
      have HOb : Hid (w9.ownsRow W.heap.size 23 2 vb q.length (spR (q.map Pr.row))) := Lib.hid (by simpa using ho)
      replace HOa := Lib.hid (HOa.out.kept hg (own_ne HOa.out HRb.out (by decide)))
      clear ho hg HRb
      clear hA
      have hA := hA9
      clear hA9
      refine hK.out _ _ (Two.till (fun _ => hA) (fun _ => trivial)) ?_
      clear hK K
      try simp only [Act.put, List.setIfInBounds_toArray, List.set_cons_zero, List.set_cons_succ]
      refine AnyV.one (i := 8) (o := _) rfl (by kernel_rfl) (fun K hK => ?_)
      go_simp
      refine hK.out _ _ (Two.till (fun _ => hA) (fun _ => trivial)) ?_
      clear hK K
      try simp only [Act.put, List.setIfInBounds_toArray, List.set_cons_zero, List.set_cons_succ]
      refine AnyV.one (i := 9) (o := _) rfl (by kernel_rfl) (fun K hK => ?_)
      go_simp
      refine hK.out _ _ (Two.till (fun h => absurd h (by decide)) (fun _ => trivial)) ?_
      clear hK K
      refine AnyV.done (by kernel_rfl) ?_
      try simp only [Act.put, List.setIfInBounds_toArray, List.set_cons_zero, List.set_cons_succ]
      go_wp2_with fail
      go_meet
      case rel => exact ⟨own_copy HOa.out (by omega), own_copy HOb.out (by omega), HK.out.later hA⟩
  case rest =>
    obtain ⟨hl1, hq1, hk⟩ := hcut
    obtain ⟨a1, c1, rfl, _, _⟩ := hl1.form
    obtain ⟨a2, c2, rfl, _, _⟩ := hq1.form
    generalize wc = w1 at *
    have HL1 := Lib.hid hl1
    have HQ1 := Lib.hid hq1
    have HK1 := Lib.hid hk
    clear hl1 hq1 hk HK
    obtain ⟨p0, p1, p2, p3, p4, ⟨q0, q1, q2, q3⟩, hB⟩ := HK1.out
    have hz := World.block_lt_of_cell? _ _ p0
    have hy := World.block_lt_of_cell? _ _ q0
    go_wp2_with fail
    refine (turn_any _ l p a b c d m _ HL1.out).mono ?_
    rintro e w2 ⟨⟨x, y, z, rfl, hr⟩, hb2⟩
    have HR := Lib.hid hr
    have HL2 := Lib.hid (prLater HL1.out hb2)
    have HQ2 := Lib.hid (prLater HQ1.out hb2)
    have HK2 := Lib.hid (HK1.out.later hb2)
    clear HL1 HQ1 HK1 p0 p1 p2 p3 p4 q0 q1 q2 q3 hB hz hy
    clear hr hb2
    obtain ⟨p0, p1, p2, p3, p4, ⟨q0, q1, q2, q3⟩, hB⟩ := HK2.out
    have hz := World.block_lt_of_cell? _ _ p0
    have hy := World.block_lt_of_cell? _ _ q0
    go_wp2_with fail
    refine (rturn_any _ l p a b c d m _ (prLater HL.out HK2.out.below)).mono ?_
    rintro e w3 ⟨ht, hb3⟩
    obtain rfl := ht.uniq (show TurnE l p a b c d m (.returned (.tuple #[.int .i64 x, .int .i64 y, .int .i64 z])) from ⟨x, y, z, rfl, HR.out⟩)
    have HL3 := Lib.hid (prLater HL2.out hb3)
    have HQ3 := Lib.hid (prLater HQ2.out hb3)
    have HK3 := Lib.hid (HK2.out.later hb3)
    clear HL2 HQ2 HK2 p0 p1 p2 p3 p4 q0 q1 q2 q3 hB hz hy
    clear ht HR hb3
    obtain ⟨zs, hzs⟩ : ∃ zs, (manL q people pm).1 = zs := ⟨_, rfl⟩
    obtain ⟨nm, hnm⟩ : ∃ n, (manL q people pm).2 = n := ⟨_, rfl⟩
    have HM := Lib.hid (And.intro hzs hnm)
    clear hzs hnm
    obtain ⟨p0, p1, p2, p3, p4, ⟨q0, q1, q2, q3⟩, hB⟩ := HK3.out
    have hz := World.block_lt_of_cell? _ _ p0
    have hy := World.block_lt_of_cell? _ _ q0
    go_wp2_with fail
    refine (man_any _ q people pm _ HQ3.out).mono ?_
    rintro e w4 ⟨⟨u1, rfl, hs1⟩, hb4⟩
    rw [HM.out.1] at hs1
    rw [HM.out.2]
    have HU1 := Lib.hid hs1
    have HL4 := Lib.hid (prLater HL3.out hb4)
    have HQ4 := Lib.hid (prLater HQ3.out hb4)
    have HK4 := Lib.hid (HK3.out.later hb4)
    clear HL3 HQ3 HK3 p0 p1 p2 p3 p4 q0 q1 q2 q3 hB hz hy
    clear hs1 hb4
    obtain ⟨p0, p1, p2, p3, p4, ⟨q0, q1, q2, q3⟩, hB⟩ := HK4.out
    have hz := World.block_lt_of_cell? _ _ p0
    have hy := World.block_lt_of_cell? _ _ q0
    go_wp2_with fail
    refine (rman_any _ q people pm _ (prLater HQ.out HK4.out.below)).mono ?_
    rintro e w5 ⟨⟨u2, rfl, hs2⟩, hb5⟩
    rw [HM.out.1] at hs2
    rw [HM.out.2]
    have HU2 := Lib.hid hs2
    have HU3 := Lib.hid (SlAny.later (At := IntAt) IntAt.later HU1.out hb5)
    have HL5 := Lib.hid (prLater HL4.out hb5)
    have HQ5 := Lib.hid (prLater HQ4.out hb5)
    have HK5 := Lib.hid (HK4.out.later hb5)
    clear HL4 HQ4 HK4 p0 p1 p2 p3 p4 q0 q1 q2 q3 hB hz hy
    clear hs2 hb5 HU1 HM
    obtain ⟨p0, p1, p2, p3, p4, ⟨q0, q1, q2, q3⟩, hB⟩ := HK5.out
    have hz := World.block_lt_of_cell? _ _ p0
    have hy := World.block_lt_of_cell? _ _ q0
    go_wp2_with fail
    refine (sameInts_eq _ _ zs _ HU3.out HU2.out).mono ?_
    rintro e w6 ⟨rfl, hb6⟩
    have HL6 := Lib.hid (prLater HL5.out hb6)
    have HQ6 := Lib.hid (prLater HQ5.out hb6)
    have HK6 := Lib.hid (HK5.out.later hb6)
    clear HL5 HQ5 HK5 p0 p1 p2 p3 p4 q0 q1 q2 q3 hB hz hy
    clear hb6 HU3 HU2
    go_wp2_with fail
    go_loopw [23, 97] (fun v23 v97 wr => MlHead l.length w6 wr v23 v97) (fun _ v97 _ => l.length - (intOf v97).toNat)
    case atStart => exact ⟨0, by omega, rfl, rfl, Below.refl _ _⟩
    case round =>
      obtain ⟨k, hk, rfl, rfl, hbr⟩ := hrel
      have HBr := Lib.hid hbr
      by_cases hlt : k < l.length
      · obtain ⟨b1, o1, x1, rfl, _, hx1, hat1⟩ := HL6.out.at hlt
        obtain ⟨b2, o2, x2, rfl, _, hx2, hat2⟩ := HL.out.at hlt
        rw [hx1] at hx2
        cases hx2
        have g1 := PrAt.later hat1 hbr
        have g2 := PrAt.later (PrAt.later hat2 HK6.out.below) hbr
        obtain ⟨r0, r1⟩ := g1
        obtain ⟨s0, s1⟩ := g2
        obtain ⟨p0, p1, p2, p3, p4, _, _⟩ := HK6.out.later hbr
        have hlt' : (k : Int) < (l.length : Int) := by omega
        have hk0 : (0 : Int) ≤ (k : Int) := by omega
        have hkn : ((k : Int).toNat) = k := by omega
        clear hx1 hat1 hat2
        go_wp2_with fail
        go_quiet (fail)
        have hbr2 := below_drewN hbr nq
        go_wp2_with fail
        go_roundw
        case rel => exact ⟨k + 1, by omega, rfl, by go_num, hbr2⟩
        case measure => simp [intOf]; omega
      · go_wp2_with fail
        clear hlt hbr
        go_loopw [23, 116] (fun v23 v116 wr => MlHead q.length w6 wr v23 v116) (fun _ v116 _ => q.length - (intOf v116).toNat)
        case atStart => exact ⟨0, by omega, rfl, rfl, HBr.out⟩
        case round =>
          obtain ⟨k, hk, rfl, rfl, hbr⟩ := hrel
          by_cases hlt : k < q.length
          · obtain ⟨b1, o1, x1, rfl, _, hx1, hat1⟩ := HQ6.out.at hlt
            obtain ⟨b2, o2, x2, rfl, _, hx2, hat2⟩ := HQ.out.at hlt
            rw [hx1] at hx2
            cases hx2
            have g1 := PrAt.later hat1 hbr
            have g2 := PrAt.later (PrAt.later hat2 HK6.out.below) hbr
            obtain ⟨r0, r1⟩ := g1
            obtain ⟨s0, s1⟩ := g2
            obtain ⟨p0, p1, p2, p3, p4, _, _⟩ := HK6.out.later hbr
            have hlt' : (k : Int) < (q.length : Int) := by omega
            have hk0 : (0 : Int) ≤ (k : Int) := by omega
            have hkn : ((k : Int).toNat) = k := by omega
            clear hx1 hat1 hat2
            go_wp2_with fail
            go_quiet (fail)
            have hbr2 := below_drewN hbr nq
            go_wp2_with fail
            go_roundw
            case rel => exact ⟨k + 1, by omega, rfl, by go_num, hbr2⟩
            case measure => simp [intOf]; omega
          · go_wp2_with fail
            go_returns
            exact ⟨rfl, HK6.out.below.trans (hbr.mono HK6.out.below.size)⟩
end Go.Proofs.Ytbkabgbkdggnhaa
