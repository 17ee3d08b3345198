/- where, and so May and Must. -/
import Derived.Test.YtflgdckeinappaaPair
import Derived.Test.YtflgdckeinappaaTail2
namespace Go.Proofs.Ytflgdckeinappaa
open Go.RowKit

theorem amS_in {a v b u : Int} (y : Int) (h : a < b) : a ≤ (amS a v b u y).1 ∧ (amS a v b u y).2 ≤ b := by
  unfold amS
  split
  · simp only; omega
  · split
    · simp only; omega
    · split <;> (simp only; omega)
theorem alS_in {a v b u : Int} (y : Int) (h : a < b) : a ≤ (alS a v b u y).1 ∧ (alS a v b u y).2 ≤ b := amS_in _ h

/-- What a closure finds of two knots. -/
abbrev Seg := Int × Int × Int → Int × Int × Int → (Int × Int) × (Int × Int)
def wh (S : Seg) (ks : List (Int × Int × Int)) : Nat → List (Int × Int)
  | 0 => []
  | i + 1 => colS (wh S ks i) (max (S (ks.getD i (0, 0, 0)) (ks.getD (i + 1) (0, 0, 0))).1.1 (S (ks.getD i (0, 0, 0)) (ks.getD (i + 1) (0, 0, 0))).2.1)
      (min (S (ks.getD i (0, 0, 0)) (ks.getD (i + 1) (0, 0, 0))).1.2 (S (ks.getD i (0, 0, 0)) (ks.getD (i + 1) (0, 0, 0))).2.2)
/-- A closure that serves. -/
def Serves (F Y : Nat) (lo hi : Int) (ks : List (Int × Int × Int)) (S : Seg) : Prop :=
  ∀ (i : Nat) (a l h a' l' h' : Int) (w : World), ks[i]? = some (a, l, h) → ks[i + 1]? = some (a', l', h') → w.cell? ⟨Y, 0, none⟩ = some (.int .i64 lo) → w.cell? ⟨Y, 1, none⟩ = some (.int .i64 hi) →
    Calls Try.prog F #[kn a l h, kn a' l' h', .pointer (some ⟨Y, 0, none⟩)] w fun e w' =>
      e = .returned (.tuple #[sp (S (a, l, h) (a', l', h')).1.1 (S (a, l, h) (a', l', h')).1.2, sp (S (a, l, h) (a', l', h')).2.1 (S (a, l, h) (a', l', h')).2.2]) ∧ Below w.heap.size w w'

theorem colS_len (l : List (Int × Int)) (f t : Int) : (colS l f t).length ≤ l.length + 1 := by
  unfold colS
  split
  · omega
  · split <;> simp
theorem wh_len (S : Seg) (ks : List (Int × Int × Int)) (k : Nat) : (wh S ks k).length ≤ k := by
  induction k with
  | zero => exact Nat.le_refl _
  | succ k ih => exact Nat.le_trans (colS_len _ _ _) (by omega)
theorem colS_mem {l : List (Int × Int)} {f t x y : Int} (h : (x, y) ∈ colS l f t) : (x, y) ∈ l ∨ (f ≤ t ∧ y = t) := by
  unfold colS at h
  split at h
  · exact Or.inl h
  · split at h
    · rcases List.mem_or_eq_of_mem_set h with h | h
      · exact Or.inl h
      · simp only [Prod.mk.injEq] at h; exact Or.inr ⟨by omega, h.2⟩
    · rcases List.mem_append.1 h with h | h
      · exact Or.inl h
      · simp at h; exact Or.inr ⟨by omega, h.2⟩
def Inner (ks : List (Int × Int × Int)) (S : Seg) : Prop := ∀ (i : Nat) (a l h a' l' h' : Int), ks[i]? = some (a, l, h) → ks[i + 1]? = some (a', l', h') → a ≤ (S (a, l, h) (a', l', h')).1.1 ∧ (S (a, l, h) (a', l', h')).1.2 ≤ a'
theorem wh_in {S : Seg} {ks : List (Int × Int × Int)} (ht : tableB ks = true) (hS : Inner ks S) : ∀ (k : Nat), k ≤ ks.length - 1 → ∀ x y, (x, y) ∈ wh S ks k → -1099511627776 ≤ y ∧ y ≤ 1099511627776
  | 0, _, x, y, h => by simp [wh] at h
  | k + 1, hk, x, y, h => by
    rcases colS_mem h with h | ⟨h1, h2⟩
    · exact wh_in ht hS k (by omega) x y h
    · obtain ⟨a, l, hh, hp⟩ : ∃ a l h, ks[k]? = some (a, l, h) := ⟨_, _, _, List.getElem?_eq_getElem (by omega)⟩
      obtain ⟨a', l', hh', hq⟩ : ∃ a l h, ks[k + 1]? = some (a, l, h) := ⟨_, _, _, List.getElem?_eq_getElem (by omega)⟩
      rw [getD_is hp, getD_is hq] at h1 h2
      obtain ⟨s1, s2⟩ := hS k _ _ _ _ _ _ hp hq
      obtain ⟨⟨b1, b2, b3, b4, b5⟩, ⟨b6, b7, b8, b9, b10⟩, b11⟩ := seg_ok ht hp hq
      omega
theorem Col.later {A : Nat} {w w1 : World} {v : Value} {l : List (Int × Int)} (h : Col A w v l) (hb : Below w.heap.size w w1) : Col A w1 v l := by
  have hz := h.size
  have hz1 := hb.size
  refine ⟨h.own.kept (row := none) ⟨hb.os, hb.tape, hb.output, hb.size, fun k hk _ => hb.block k hk⟩ ?_, by omega, cell_later hb h.c, ?_⟩
  · cases v.ownBlock <;> simp
  · rw [(bcell hb).2 _ _ hz]; exact h.f
/-- What the round's region loads. -/
structure RX (b o Y n : Nat) (w : World) (pa pl ph qa ql qh lo hi : Int) : Prop where
  p0 : w.cell? ⟨b, o, none⟩ = some (.int .i64 pa)
  p1 : w.cell? ⟨b, o + 1, none⟩ = some (.int .i64 pl)
  p2 : w.cell? ⟨b, o + 2, none⟩ = some (.int .i64 ph)
  q0 : w.cell? ⟨n, 0, none⟩ = some (.int .i64 qa)
  q1 : w.cell? ⟨n, 1, none⟩ = some (.int .i64 ql)
  q2 : w.cell? ⟨n, 2, none⟩ = some (.int .i64 qh)
  y0 : w.cell? ⟨Y, 0, none⟩ = some (.int .i64 lo)
  y1 : w.cell? ⟨Y, 1, none⟩ = some (.int .i64 hi)
theorem RX.later {b o Y n : Nat} {w w1 : World} {pa pl ph qa ql qh lo hi : Int} (k : RX b o Y n w pa pl ph qa ql qh lo hi) (hb : Below w.heap.size w w1) : RX b o Y n w1 pa pl ph qa ql qh lo hi :=
  ⟨cell_later hb k.p0, cell_later hb k.p1, cell_later hb k.p2, cell_later hb k.q0, cell_later hb k.q1, cell_later hb k.q2, cell_later hb k.y0, cell_later hb k.y1⟩
/-- Behind the closure's call: its two spans lie in boxes of their own. -/
def WC (wr wy : World) (v9 v10 : Value) (s : (Int × Int) × (Int × Int)) : Prop := ∃ n9 n10 : Nat, v9 = .pointer (some ⟨n9, 0, none⟩) ∧ v10 = .pointer (some ⟨n10, 0, none⟩) ∧ Below wr.heap.size wr wy ∧
  wy.cell? ⟨n9, 0, none⟩ = some (.int .i64 s.1.1) ∧ wy.cell? ⟨n9, 1, none⟩ = some (.int .i64 s.1.2) ∧ wy.cell? ⟨n10, 0, none⟩ = some (.int .i64 s.2.1) ∧ wy.cell? ⟨n10, 1, none⟩ = some (.int .i64 s.2.2)
/-- Spans handed back, in memory of the call's own. -/
def WhR (w w' : World) (e : Ending) (l : List (Int × Int)) : Prop := ∃ v, e = .returned v ∧ w'.ownsRow w.heap.size 23 2 v l.length (spV l) ∧ Below w.heap.size w w'
def WHead (S : Seg) (ks : List (Int × Int × Int)) (A : Nat) (w wr : World) (v15 : Value) : Prop := ∃ k : Nat, k ≤ ks.length - 1 ∧ v15 = .int .i64 k ∧ Below A w wr ∧ ∃ v, Col A wr v (wh S ks k)

set_option linter.unusedSimpArgs false in
set_option maxHeartbeats 2000000 in
set_option maxRecDepth 100000 in
theorem where_may (v : Value) (ks : List (Int × Int × Int)) (lo hi : Int) (Y : Nat) (S : Seg) (w : World) (hs : SlK w v ks) (ht : tableB ks = true) (hS : Inner ks S) (hF : Serves 85 Y lo hi ks S)
    (y0 : w.cell? ⟨Y, 0, none⟩ = some (.int .i64 lo)) (y1 : w.cell? ⟨Y, 1, none⟩ = some (.int .i64 hi)) :
    Calls Try.prog 84 #[v, .func (.func 85) #[] #[.pointer (some ⟨Y, 0, none⟩)]] w fun e w' => WhR w w' e (wh S ks (ks.length - 1)) := by
  have hmf : ∀ (fn : Fn) (first cap : Array Value) (w : World), (Instr.makeFunc fn first cap).run Try.prog w = .ok (.func fn first cap) w := fun _ _ _ _ => rfl
  have hlen : 2 ≤ ks.length ∧ ks.length ≤ 32 := by unfold tableB at ht; simp at ht; omega
  have hyw := World.block_lt_of_cell? w _ y0
  have hyw' : Y < w.heap.size := hyw
  rcases hs with ⟨e1, _⟩ | ⟨b, off, cap, rfl, hcap, hmax, hb, hcells⟩
  · rw [e1] at hlen; simp at hlen
  obtain ⟨l1, l2⟩ := hlen
  have HC := Lib.hid hcells
  have HT := Lib.hid ht
  have HF := Lib.hid hF
  have HS := Lib.hid hS
  clear hcells ht hF hyw hS
  go_enter Try.func84, Try.ntmps84
  go_wp2_with fail
  go_loopw [15] (fun v15 wr => WHead S ks w.heap.size w wr v15) (fun v15 _ => ks.length - 1 - (intOf v15).toNat)
  case atStart => exact ⟨0, by omega, rfl, by go_grown, .slice none 0 0, ⟨World.ownsRow_nil _ _ _ _, by simp, by go_cell, by go_cell⟩⟩
  case round =>
    obtain ⟨k, hk, rfl, hbr, vv, hcol⟩ := hrel
    by_cases hlt : k < ks.length - 1
    · obtain ⟨pa, pl, ph, hp⟩ : ∃ a l h, ks[k]? = some (a, l, h) := ⟨_, _, _, List.getElem?_eq_getElem (by omega)⟩
      obtain ⟨qa, ql, qh, hq⟩ : ∃ a l h, ks[k + 1]? = some (a, l, h) := ⟨_, _, _, List.getElem?_eq_getElem (by omega)⟩
      have hbl : ∀ o, wr.cell? ⟨b, o, none⟩ = w.cell? ⟨b, o, none⟩ := fun o => hbr.cell (by simpa using hb)
      have hyl : ∀ o, wr.cell? ⟨Y, o, none⟩ = w.cell? ⟨Y, o, none⟩ := fun o => hbr.cell (by simpa using hyw')
      obtain ⟨e0, e1, e2⟩ := HC.out _ _ _ _ hp
      obtain ⟨f0, f1, f2⟩ := HC.out _ _ _ _ hq
      rw [← hbl] at e0 e1 e2 f0 f1 f2
      have z0 := y0
      have z1 := y1
      rw [← hyl] at z0 z1
      rw [show off + (k + 1) * 3 = off + 3 + k * 3 by omega] at f0 f1 f2
      have hbrr : b < wr.heap.size := by have := hbr.size; omega
      have hyr : Y < wr.heap.size := by have := hbr.size; omega
      have hz := hcol.size
      have HCo := Lib.hid hcol
      have HP := Lib.hid hp
      have HQ := Lib.hid hq
      have HBr := Lib.hid hbr
      have hlt' : (k : Int) < (ks.length : Int) - 1 := by omega
      have hk0 : (0 : Int) ≤ (k : Int) := by omega
      have hl1 : (k : Int) < (ks.length : Int) := by omega
      clear hcol hp hq hbl hyl y0 y1
      go_wp2_with fail
      go_cut [9, 10] from 16 to 42 (fun v9 v10 wy => WC wr wy v9 v10 (S (pa, pl, ph) (qa, ql, qh)))
      case first =>
        obtain ⟨W, hW⟩ : ∃ W, wr.alloc (.cells #[.int .i64 qa, .int .i64 ql, .int .i64 qh] 94) = W := ⟨_, rfl⟩
        have hX : RX b (off + k * 3) Y wr.heap.size W pa pl ph qa ql qh lo hi := by subst hW; exact ⟨by go_cell, by go_cell, by go_cell, by go_cell, by go_cell, by go_cell, by go_cell, by go_cell⟩
        have hBW : Below wr.heap.size wr W := by subst hW; exact below_box _ _
        rw [hW]
        have HX := Lib.hid hX
        clear hW hX e0 e1 e2 f0 f1 f2 z0 z1
        have hA : Below W.heap.size W W.drew := below_drewN (Below.refl _ _) 1
        refine AnyT.begin (fun w' => Below W.heap.size W w') 13 (by kernel_rfl) hA (fun hHeld => ?_)
        refine AnyT.take (i := 0) (oi := _) (v := ?_) rfl (by kernel_rfl) (by kernel_rfl) (by kernel_rfl) (by kernel_rfl) (fun _ _ _ h => h) (Or.inl ⟨by rfl, ?_⟩) (by assumption) ?_
        rotate_left 1
        · intro wz hSw; obtain ⟨_, _, _, _, _, _, _, _⟩ := HX.out.later hSw; go_simp; try with_reducible rfl
        try simp only [Act.put, List.setIfInBounds_toArray, List.set_cons_zero, List.set_cons_succ]
        refine AnyT.take (i := 1) (oi := _) (v := ?_) rfl (by kernel_rfl) (by kernel_rfl) (by kernel_rfl) (by kernel_rfl) (fun _ _ _ h => h) (Or.inl ⟨by rfl, ?_⟩) (by assumption) ?_
        rotate_left 1
        · intro wz hSw; obtain ⟨_, _, _, _, _, _, _, _⟩ := HX.out.later hSw; go_simp; try with_reducible rfl
        try simp only [Act.put, List.setIfInBounds_toArray, List.set_cons_zero, List.set_cons_succ]
        refine AnyT.take (i := 2) (oi := _) (v := ?_) rfl (by kernel_rfl) (by kernel_rfl) (by kernel_rfl) (by kernel_rfl) (fun _ _ _ h => h) (Or.inl ⟨by rfl, ?_⟩) (by assumption) ?_
        rotate_left 1
        · intro wz hSw; obtain ⟨_, _, _, _, _, _, _, _⟩ := HX.out.later hSw; go_simp; try with_reducible rfl
        try simp only [Act.put, List.setIfInBounds_toArray, List.set_cons_zero, List.set_cons_succ]
        refine AnyT.take (i := 3) (oi := _) (v := ?_) rfl (by kernel_rfl) (by kernel_rfl) (by kernel_rfl) (by kernel_rfl) (fun _ _ _ h => h) (Or.inl ⟨by rfl, ?_⟩) (by assumption) ?_
        rotate_left 1
        · intro wz hSw; obtain ⟨_, _, _, _, _, _, _, _⟩ := HX.out.later hSw; go_simp; try with_reducible rfl
        try simp only [Act.put, List.setIfInBounds_toArray, List.set_cons_zero, List.set_cons_succ]
        refine AnyT.take (i := 4) (oi := _) (v := ?_) rfl (by kernel_rfl) (by kernel_rfl) (by kernel_rfl) (by kernel_rfl) (fun _ _ _ h => h) (Or.inl ⟨by rfl, ?_⟩) (by assumption) ?_
        rotate_left 1
        · intro wz hSw; obtain ⟨_, _, _, _, _, _, _, _⟩ := HX.out.later hSw; go_simp; try with_reducible rfl
        try simp only [Act.put, List.setIfInBounds_toArray, List.set_cons_zero, List.set_cons_succ]
        refine AnyT.take (i := 5) (oi := _) (v := ?_) rfl (by kernel_rfl) (by kernel_rfl) (by kernel_rfl) (by kernel_rfl) (fun _ _ _ h => h) (Or.inl ⟨by rfl, ?_⟩) (by assumption) ?_
        rotate_left 1
        · intro wz hSw; obtain ⟨_, _, _, _, _, _, _, _⟩ := HX.out.later hSw; go_simp; try with_reducible rfl
        try simp only [Act.put, List.setIfInBounds_toArray, List.set_cons_zero, List.set_cons_succ]
        clear hHeld
        refine AnyT.some [6, 10, 11] (by kernel_rfl) (by simp) (fun i hi => ?_)
        simp only [List.mem_cons, List.not_mem_nil, or_false] at hi
        rcases hi with rfl | rfl | rfl
        · skip
          refine AnyT.step (o := _) rfl (fun K hK => ?_)
          go_simp
          refine (HF.out k _ _ _ _ _ _ _ HP.out HQ.out (HX.out.later hA).y0 (HX.out.later hA).y1).mono ?_
          rintro e w6 ⟨rfl, hb6⟩
          have hc6 := (bcell hb6).1
          have hf6 := (bcell hb6).2
          have hz6 := hb6.size
          simp at hz6
          try have x0 : w6.cell? ⟨W.heap.size, 0, none⟩ = some (.int .i64 0) := by rw [hc6 _ _ (by simp <;> omega)]; go_cell
          try have x1 : w6.cell? ⟨W.heap.size, 1, none⟩ = some (.int .i64 0) := by rw [hc6 _ _ (by simp <;> omega)]; go_cell
          try have x2 : w6.cell? ⟨W.heap.size + 1, 0, none⟩ = some (.int .i64 0) := by rw [hc6 _ _ (by simp <;> omega)]; go_cell
          try have x3 : w6.cell? ⟨W.heap.size + 1, 1, none⟩ = some (.int .i64 0) := by rw [hc6 _ _ (by simp <;> omega)]; go_cell
          try have xf0 : w6.frozen? ⟨W.heap.size, 0, none⟩ = false := by rw [hf6 _ _ (by simp <;> omega)]; go_cell
          try have xf1 : w6.frozen? ⟨W.heap.size, 1, none⟩ = false := by rw [hf6 _ _ (by simp <;> omega)]; go_cell
          try have xf2 : w6.frozen? ⟨W.heap.size + 1, 0, none⟩ = false := by rw [hf6 _ _ (by simp <;> omega)]; go_cell
          try have xf3 : w6.frozen? ⟨W.heap.size + 1, 1, none⟩ = false := by rw [hf6 _ _ (by simp <;> omega)]; go_cell
          try have sz1 : W.heap.size < w6.heap.size := by omega
          try have sz2 : W.heap.size + 1 < w6.heap.size := by omega
          clear hc6 hf6
          replace hA := two hA hb6
          have hA6 := hA
          have hB6 := hBW.trans (hA.mono hBW.size)
          have hs6 := hA.size
          have ht6 := hB6.size
          have hbw := hBW.size
          go_wp2_with fail
          refine hK.out _ _ (fun _ => hA) ?_
          clear hK K hb6
          try simp only [Act.put, List.setIfInBounds_toArray, List.set_cons_zero, List.set_cons_succ]
          refine AnyT.take (i := 7) (oi := _) (v := ?_) rfl (by kernel_rfl) (by kernel_rfl) (by kernel_rfl) (by kernel_rfl) (fun _ _ _ h => h) (Or.inl ⟨by rfl, ?_⟩) (by assumption) ?_
          rotate_left 1
          · intro wz hSw; obtain ⟨_, _, _, _, _, _, _, _⟩ := HX.out.later hSw; go_simp; try with_reducible rfl
          try simp only [Act.put, List.setIfInBounds_toArray, List.set_cons_zero, List.set_cons_succ]
          refine AnyT.take (i := 8) (oi := _) (v := ?_) rfl (by kernel_rfl) (by kernel_rfl) (by kernel_rfl) (by kernel_rfl) (fun _ _ _ h => h) (Or.inl ⟨by rfl, ?_⟩) (by assumption) ?_
          rotate_left 1
          · intro wz hSw; obtain ⟨_, _, _, _, _, _, _, _⟩ := HX.out.later hSw; go_simp; try with_reducible rfl
          try simp only [Act.put, List.setIfInBounds_toArray, List.set_cons_zero, List.set_cons_succ]
          refine AnyT.take (i := 9) (oi := _) (v := ?_) rfl (by kernel_rfl) (by kernel_rfl) (by kernel_rfl) (by kernel_rfl) (fun _ _ _ h => h) (Or.inl ⟨by rfl, ?_⟩) (by assumption) ?_
          rotate_left 1
          · intro wz hSw; obtain ⟨_, _, _, _, _, _, _, _⟩ := HX.out.later hSw; go_simp; try with_reducible rfl
          try simp only [Act.put, List.setIfInBounds_toArray, List.set_cons_zero, List.set_cons_succ]
          refine AnyT.some [10, 11] (by kernel_rfl) (by simp) (fun i hi => ?_)
          simp only [List.mem_cons, List.not_mem_nil, or_false] at hi
          rcases hi with rfl | rfl
          · skip
            refine AnyT.step (o := _) rfl (fun K hK => ?_)
            go_simp
            replace hA := hA.alloc hA.size (.cells #[.int .i64 0, .int .i64 0] 23)
            refine hK.out _ _ (fun _ => hA) ?_
            clear hK K
            try simp only [Act.put, List.setIfInBounds_toArray, List.set_cons_zero, List.set_cons_succ]
            refine AnyT.one (i := 11) (o := _) rfl (by kernel_rfl) (fun K hK => ?_)
            go_simp
            replace hA := hA.alloc hA.size (.cells #[.int .i64 0, .int .i64 0] 23)
            refine hK.out _ _ (fun _ => hA) ?_
            clear hK K
            try simp only [Act.put, List.setIfInBounds_toArray, List.set_cons_zero, List.set_cons_succ]
            refine AnyT.one (i := 12) (o := _) rfl (by kernel_rfl) (fun K hK => ?_)
            go_simp
            refine hK.out _ _ (fun _ => by go_grown) ?_
            clear hK K
            try simp only [Act.put, List.setIfInBounds_toArray, List.set_cons_zero, List.set_cons_succ]
            refine AnyT.one (i := 13) (o := _) rfl (by kernel_rfl) (fun K hK => ?_)
            go_simp
            refine hK.out _ _ (fun h => absurd rfl h) ?_
            clear hK K
            refine AnyT.done (by kernel_rfl) ?_
            try simp only [Act.put, List.setIfInBounds_toArray, List.set_cons_zero, List.set_cons_succ]
            go_wp2_with fail
            go_meet
            case rel => exact ⟨_, _, rfl, rfl, by go_grown, by go_cell, by go_cell, by go_cell, by go_cell⟩
          · skip
            refine AnyT.step (o := _) rfl (fun K hK => ?_)
            go_simp
            replace hA := hA.alloc hA.size (.cells #[.int .i64 0, .int .i64 0] 23)
            refine hK.out _ _ (fun _ => hA) ?_
            clear hK K
            try simp only [Act.put, List.setIfInBounds_toArray, List.set_cons_zero, List.set_cons_succ]
            refine AnyT.one (i := 10) (o := _) rfl (by kernel_rfl) (fun K hK => ?_)
            go_simp
            replace hA := hA.alloc hA.size (.cells #[.int .i64 0, .int .i64 0] 23)
            refine hK.out _ _ (fun _ => hA) ?_
            clear hK K
            try simp only [Act.put, List.setIfInBounds_toArray, List.set_cons_zero, List.set_cons_succ]
            refine AnyT.one (i := 12) (o := _) rfl (by kernel_rfl) (fun K hK => ?_)
            go_simp
            refine hK.out _ _ (fun _ => by go_grown) ?_
            clear hK K
            try simp only [Act.put, List.setIfInBounds_toArray, List.set_cons_zero, List.set_cons_succ]
            refine AnyT.one (i := 13) (o := _) rfl (by kernel_rfl) (fun K hK => ?_)
            go_simp
            refine hK.out _ _ (fun h => absurd rfl h) ?_
            clear hK K
            refine AnyT.done (by kernel_rfl) ?_
            try simp only [Act.put, List.setIfInBounds_toArray, List.set_cons_zero, List.set_cons_succ]
            go_wp2_with fail
            go_meet
            case rel => exact ⟨_, _, rfl, rfl, by go_grown, by go_cell, by go_cell, by go_cell, by go_cell⟩
        · skip
          refine AnyT.step (o := _) rfl (fun K hK => ?_)
          go_simp
          replace hA := hA.alloc hA.size (.cells #[.int .i64 0, .int .i64 0] 23)
          refine hK.out _ _ (fun _ => hA) ?_
          clear hK K
          try simp only [Act.put, List.setIfInBounds_toArray, List.set_cons_zero, List.set_cons_succ]
          refine AnyT.some [6, 11] (by kernel_rfl) (by simp) (fun i hi => ?_)
          simp only [List.mem_cons, List.not_mem_nil, or_false] at hi
          rcases hi with rfl | rfl
          · skip
            refine AnyT.step (o := _) rfl (fun K hK => ?_)
            go_simp
            refine (HF.out k _ _ _ _ _ _ _ HP.out HQ.out (HX.out.later hA).y0 (HX.out.later hA).y1).mono ?_
            rintro e w6 ⟨rfl, hb6⟩
            have hc6 := (bcell hb6).1
            have hf6 := (bcell hb6).2
            have hz6 := hb6.size
            simp at hz6
            try have x0 : w6.cell? ⟨W.heap.size, 0, none⟩ = some (.int .i64 0) := by rw [hc6 _ _ (by simp <;> omega)]; go_cell
            try have x1 : w6.cell? ⟨W.heap.size, 1, none⟩ = some (.int .i64 0) := by rw [hc6 _ _ (by simp <;> omega)]; go_cell
            try have x2 : w6.cell? ⟨W.heap.size + 1, 0, none⟩ = some (.int .i64 0) := by rw [hc6 _ _ (by simp <;> omega)]; go_cell
            try have x3 : w6.cell? ⟨W.heap.size + 1, 1, none⟩ = some (.int .i64 0) := by rw [hc6 _ _ (by simp <;> omega)]; go_cell
            try have xf0 : w6.frozen? ⟨W.heap.size, 0, none⟩ = false := by rw [hf6 _ _ (by simp <;> omega)]; go_cell
            try have xf1 : w6.frozen? ⟨W.heap.size, 1, none⟩ = false := by rw [hf6 _ _ (by simp <;> omega)]; go_cell
            try have xf2 : w6.frozen? ⟨W.heap.size + 1, 0, none⟩ = false := by rw [hf6 _ _ (by simp <;> omega)]; go_cell
            try have xf3 : w6.frozen? ⟨W.heap.size + 1, 1, none⟩ = false := by rw [hf6 _ _ (by simp <;> omega)]; go_cell
            try have sz1 : W.heap.size < w6.heap.size := by omega
            try have sz2 : W.heap.size + 1 < w6.heap.size := by omega
            clear hc6 hf6
            replace hA := two hA hb6
            have hA6 := hA
            have hB6 := hBW.trans (hA.mono hBW.size)
            have hs6 := hA.size
            have ht6 := hB6.size
            have hbw := hBW.size
            go_wp2_with fail
            refine hK.out _ _ (fun _ => hA) ?_
            clear hK K hb6
            try simp only [Act.put, List.setIfInBounds_toArray, List.set_cons_zero, List.set_cons_succ]
            refine AnyT.take (i := 7) (oi := _) (v := ?_) rfl (by kernel_rfl) (by kernel_rfl) (by kernel_rfl) (by kernel_rfl) (fun _ _ _ h => h) (Or.inl ⟨by rfl, ?_⟩) (by assumption) ?_
            rotate_left 1
            · intro wz hSw; obtain ⟨_, _, _, _, _, _, _, _⟩ := HX.out.later hSw; go_simp; try with_reducible rfl
            try simp only [Act.put, List.setIfInBounds_toArray, List.set_cons_zero, List.set_cons_succ]
            refine AnyT.take (i := 8) (oi := _) (v := ?_) rfl (by kernel_rfl) (by kernel_rfl) (by kernel_rfl) (by kernel_rfl) (fun _ _ _ h => h) (Or.inl ⟨by rfl, ?_⟩) (by assumption) ?_
            rotate_left 1
            · intro wz hSw; obtain ⟨_, _, _, _, _, _, _, _⟩ := HX.out.later hSw; go_simp; try with_reducible rfl
            try simp only [Act.put, List.setIfInBounds_toArray, List.set_cons_zero, List.set_cons_succ]
            refine AnyT.take (i := 9) (oi := _) (v := ?_) rfl (by kernel_rfl) (by kernel_rfl) (by kernel_rfl) (by kernel_rfl) (fun _ _ _ h => h) (Or.inl ⟨by rfl, ?_⟩) (by assumption) ?_
            rotate_left 1
            · intro wz hSw; obtain ⟨_, _, _, _, _, _, _, _⟩ := HX.out.later hSw; go_simp; try with_reducible rfl
            try simp only [Act.put, List.setIfInBounds_toArray, List.set_cons_zero, List.set_cons_succ]
            refine AnyT.one (i := 11) (o := _) rfl (by kernel_rfl) (fun K hK => ?_)
            go_simp
            replace hA := hA.alloc hA.size (.cells #[.int .i64 0, .int .i64 0] 23)
            refine hK.out _ _ (fun _ => hA) ?_
            clear hK K
            try simp only [Act.put, List.setIfInBounds_toArray, List.set_cons_zero, List.set_cons_succ]
            refine AnyT.one (i := 12) (o := _) rfl (by kernel_rfl) (fun K hK => ?_)
            go_simp
            refine hK.out _ _ (fun _ => by go_grown) ?_
            clear hK K
            try simp only [Act.put, List.setIfInBounds_toArray, List.set_cons_zero, List.set_cons_succ]
            refine AnyT.one (i := 13) (o := _) rfl (by kernel_rfl) (fun K hK => ?_)
            go_simp
            refine hK.out _ _ (fun h => absurd rfl h) ?_
            clear hK K
            refine AnyT.done (by kernel_rfl) ?_
            try simp only [Act.put, List.setIfInBounds_toArray, List.set_cons_zero, List.set_cons_succ]
            go_wp2_with fail
            go_meet
            case rel => exact ⟨_, _, rfl, rfl, by go_grown, by go_cell, by go_cell, by go_cell, by go_cell⟩
          · skip
            refine AnyT.step (o := _) rfl (fun K hK => ?_)
            go_simp
            replace hA := hA.alloc hA.size (.cells #[.int .i64 0, .int .i64 0] 23)
            refine hK.out _ _ (fun _ => hA) ?_
            clear hK K
            try simp only [Act.put, List.setIfInBounds_toArray, List.set_cons_zero, List.set_cons_succ]
            refine AnyT.one (i := 6) (o := _) rfl (by kernel_rfl) (fun K hK => ?_)
            go_simp
            refine (HF.out k _ _ _ _ _ _ _ HP.out HQ.out (HX.out.later hA).y0 (HX.out.later hA).y1).mono ?_
            rintro e w6 ⟨rfl, hb6⟩
            have hc6 := (bcell hb6).1
            have hf6 := (bcell hb6).2
            have hz6 := hb6.size
            simp at hz6
            try have x0 : w6.cell? ⟨W.heap.size, 0, none⟩ = some (.int .i64 0) := by rw [hc6 _ _ (by simp <;> omega)]; go_cell
            try have x1 : w6.cell? ⟨W.heap.size, 1, none⟩ = some (.int .i64 0) := by rw [hc6 _ _ (by simp <;> omega)]; go_cell
            try have x2 : w6.cell? ⟨W.heap.size + 1, 0, none⟩ = some (.int .i64 0) := by rw [hc6 _ _ (by simp <;> omega)]; go_cell
            try have x3 : w6.cell? ⟨W.heap.size + 1, 1, none⟩ = some (.int .i64 0) := by rw [hc6 _ _ (by simp <;> omega)]; go_cell
            try have xf0 : w6.frozen? ⟨W.heap.size, 0, none⟩ = false := by rw [hf6 _ _ (by simp <;> omega)]; go_cell
            try have xf1 : w6.frozen? ⟨W.heap.size, 1, none⟩ = false := by rw [hf6 _ _ (by simp <;> omega)]; go_cell
            try have xf2 : w6.frozen? ⟨W.heap.size + 1, 0, none⟩ = false := by rw [hf6 _ _ (by simp <;> omega)]; go_cell
            try have xf3 : w6.frozen? ⟨W.heap.size + 1, 1, none⟩ = false := by rw [hf6 _ _ (by simp <;> omega)]; go_cell
            try have sz1 : W.heap.size < w6.heap.size := by omega
            try have sz2 : W.heap.size + 1 < w6.heap.size := by omega
            clear hc6 hf6
            replace hA := two hA hb6
            have hA6 := hA
            have hB6 := hBW.trans (hA.mono hBW.size)
            have hs6 := hA.size
            have ht6 := hB6.size
            have hbw := hBW.size
            go_wp2_with fail
            refine hK.out _ _ (fun _ => hA) ?_
            clear hK K hb6
            try simp only [Act.put, List.setIfInBounds_toArray, List.set_cons_zero, List.set_cons_succ]
            refine AnyT.take (i := 7) (oi := _) (v := ?_) rfl (by kernel_rfl) (by kernel_rfl) (by kernel_rfl) (by kernel_rfl) (fun _ _ _ h => h) (Or.inl ⟨by rfl, ?_⟩) (by assumption) ?_
            rotate_left 1
            · intro wz hSw; obtain ⟨_, _, _, _, _, _, _, _⟩ := HX.out.later hSw; go_simp; try with_reducible rfl
            try simp only [Act.put, List.setIfInBounds_toArray, List.set_cons_zero, List.set_cons_succ]
            refine AnyT.take (i := 8) (oi := _) (v := ?_) rfl (by kernel_rfl) (by kernel_rfl) (by kernel_rfl) (by kernel_rfl) (fun _ _ _ h => h) (Or.inl ⟨by rfl, ?_⟩) (by assumption) ?_
            rotate_left 1
            · intro wz hSw; obtain ⟨_, _, _, _, _, _, _, _⟩ := HX.out.later hSw; go_simp; try with_reducible rfl
            try simp only [Act.put, List.setIfInBounds_toArray, List.set_cons_zero, List.set_cons_succ]
            refine AnyT.take (i := 9) (oi := _) (v := ?_) rfl (by kernel_rfl) (by kernel_rfl) (by kernel_rfl) (by kernel_rfl) (fun _ _ _ h => h) (Or.inl ⟨by rfl, ?_⟩) (by assumption) ?_
            rotate_left 1
            · intro wz hSw; obtain ⟨_, _, _, _, _, _, _, _⟩ := HX.out.later hSw; go_simp; try with_reducible rfl
            try simp only [Act.put, List.setIfInBounds_toArray, List.set_cons_zero, List.set_cons_succ]
            refine AnyT.one (i := 12) (o := _) rfl (by kernel_rfl) (fun K hK => ?_)
            go_simp
            refine hK.out _ _ (fun _ => by go_grown) ?_
            clear hK K
            try simp only [Act.put, List.setIfInBounds_toArray, List.set_cons_zero, List.set_cons_succ]
            refine AnyT.one (i := 13) (o := _) rfl (by kernel_rfl) (fun K hK => ?_)
            go_simp
            refine hK.out _ _ (fun h => absurd rfl h) ?_
            clear hK K
            refine AnyT.done (by kernel_rfl) ?_
            try simp only [Act.put, List.setIfInBounds_toArray, List.set_cons_zero, List.set_cons_succ]
            go_wp2_with fail
            go_meet
            case rel => exact ⟨_, _, rfl, rfl, by go_grown, by go_cell, by go_cell, by go_cell, by go_cell⟩
        · skip
          refine AnyT.step (o := _) rfl (fun K hK => ?_)
          go_simp
          replace hA := hA.alloc hA.size (.cells #[.int .i64 0, .int .i64 0] 23)
          refine hK.out _ _ (fun _ => hA) ?_
          clear hK K
          try simp only [Act.put, List.setIfInBounds_toArray, List.set_cons_zero, List.set_cons_succ]
          refine AnyT.some [6, 10] (by kernel_rfl) (by simp) (fun i hi => ?_)
          simp only [List.mem_cons, List.not_mem_nil, or_false] at hi
          rcases hi with rfl | rfl
          · skip
            refine AnyT.step (o := _) rfl (fun K hK => ?_)
            go_simp
            refine (HF.out k _ _ _ _ _ _ _ HP.out HQ.out (HX.out.later hA).y0 (HX.out.later hA).y1).mono ?_
            rintro e w6 ⟨rfl, hb6⟩
            have hc6 := (bcell hb6).1
            have hf6 := (bcell hb6).2
            have hz6 := hb6.size
            simp at hz6
            try have x0 : w6.cell? ⟨W.heap.size, 0, none⟩ = some (.int .i64 0) := by rw [hc6 _ _ (by simp <;> omega)]; go_cell
            try have x1 : w6.cell? ⟨W.heap.size, 1, none⟩ = some (.int .i64 0) := by rw [hc6 _ _ (by simp <;> omega)]; go_cell
            try have x2 : w6.cell? ⟨W.heap.size + 1, 0, none⟩ = some (.int .i64 0) := by rw [hc6 _ _ (by simp <;> omega)]; go_cell
            try have x3 : w6.cell? ⟨W.heap.size + 1, 1, none⟩ = some (.int .i64 0) := by rw [hc6 _ _ (by simp <;> omega)]; go_cell
            try have xf0 : w6.frozen? ⟨W.heap.size, 0, none⟩ = false := by rw [hf6 _ _ (by simp <;> omega)]; go_cell
            try have xf1 : w6.frozen? ⟨W.heap.size, 1, none⟩ = false := by rw [hf6 _ _ (by simp <;> omega)]; go_cell
            try have xf2 : w6.frozen? ⟨W.heap.size + 1, 0, none⟩ = false := by rw [hf6 _ _ (by simp <;> omega)]; go_cell
            try have xf3 : w6.frozen? ⟨W.heap.size + 1, 1, none⟩ = false := by rw [hf6 _ _ (by simp <;> omega)]; go_cell
            try have sz1 : W.heap.size < w6.heap.size := by omega
            try have sz2 : W.heap.size + 1 < w6.heap.size := by omega
            clear hc6 hf6
            replace hA := two hA hb6
            have hA6 := hA
            have hB6 := hBW.trans (hA.mono hBW.size)
            have hs6 := hA.size
            have ht6 := hB6.size
            have hbw := hBW.size
            go_wp2_with fail
            refine hK.out _ _ (fun _ => hA) ?_
            clear hK K hb6
            try simp only [Act.put, List.setIfInBounds_toArray, List.set_cons_zero, List.set_cons_succ]
            refine AnyT.take (i := 7) (oi := _) (v := ?_) rfl (by kernel_rfl) (by kernel_rfl) (by kernel_rfl) (by kernel_rfl) (fun _ _ _ h => h) (Or.inl ⟨by rfl, ?_⟩) (by assumption) ?_
            rotate_left 1
            · intro wz hSw; obtain ⟨_, _, _, _, _, _, _, _⟩ := HX.out.later hSw; go_simp; try with_reducible rfl
            try simp only [Act.put, List.setIfInBounds_toArray, List.set_cons_zero, List.set_cons_succ]
            refine AnyT.take (i := 8) (oi := _) (v := ?_) rfl (by kernel_rfl) (by kernel_rfl) (by kernel_rfl) (by kernel_rfl) (fun _ _ _ h => h) (Or.inl ⟨by rfl, ?_⟩) (by assumption) ?_
            rotate_left 1
            · intro wz hSw; obtain ⟨_, _, _, _, _, _, _, _⟩ := HX.out.later hSw; go_simp; try with_reducible rfl
            try simp only [Act.put, List.setIfInBounds_toArray, List.set_cons_zero, List.set_cons_succ]
            refine AnyT.take (i := 9) (oi := _) (v := ?_) rfl (by kernel_rfl) (by kernel_rfl) (by kernel_rfl) (by kernel_rfl) (fun _ _ _ h => h) (Or.inl ⟨by rfl, ?_⟩) (by assumption) ?_
            rotate_left 1
            · intro wz hSw; obtain ⟨_, _, _, _, _, _, _, _⟩ := HX.out.later hSw; go_simp; try with_reducible rfl
            try simp only [Act.put, List.setIfInBounds_toArray, List.set_cons_zero, List.set_cons_succ]
            refine AnyT.one (i := 10) (o := _) rfl (by kernel_rfl) (fun K hK => ?_)
            go_simp
            replace hA := hA.alloc hA.size (.cells #[.int .i64 0, .int .i64 0] 23)
            refine hK.out _ _ (fun _ => hA) ?_
            clear hK K
            try simp only [Act.put, List.setIfInBounds_toArray, List.set_cons_zero, List.set_cons_succ]
            refine AnyT.one (i := 12) (o := _) rfl (by kernel_rfl) (fun K hK => ?_)
            go_simp
            refine hK.out _ _ (fun _ => by go_grown) ?_
            clear hK K
            try simp only [Act.put, List.setIfInBounds_toArray, List.set_cons_zero, List.set_cons_succ]
            refine AnyT.one (i := 13) (o := _) rfl (by kernel_rfl) (fun K hK => ?_)
            go_simp
            refine hK.out _ _ (fun h => absurd rfl h) ?_
            clear hK K
            refine AnyT.done (by kernel_rfl) ?_
            try simp only [Act.put, List.setIfInBounds_toArray, List.set_cons_zero, List.set_cons_succ]
            go_wp2_with fail
            go_meet
            case rel => exact ⟨_, _, rfl, rfl, by go_grown, by go_cell, by go_cell, by go_cell, by go_cell⟩
          · skip
            refine AnyT.step (o := _) rfl (fun K hK => ?_)
            go_simp
            replace hA := hA.alloc hA.size (.cells #[.int .i64 0, .int .i64 0] 23)
            refine hK.out _ _ (fun _ => hA) ?_
            clear hK K
            try simp only [Act.put, List.setIfInBounds_toArray, List.set_cons_zero, List.set_cons_succ]
            refine AnyT.one (i := 6) (o := _) rfl (by kernel_rfl) (fun K hK => ?_)
            go_simp
            refine (HF.out k _ _ _ _ _ _ _ HP.out HQ.out (HX.out.later hA).y0 (HX.out.later hA).y1).mono ?_
            rintro e w6 ⟨rfl, hb6⟩
            have hc6 := (bcell hb6).1
            have hf6 := (bcell hb6).2
            have hz6 := hb6.size
            simp at hz6
            try have x0 : w6.cell? ⟨W.heap.size, 0, none⟩ = some (.int .i64 0) := by rw [hc6 _ _ (by simp <;> omega)]; go_cell
            try have x1 : w6.cell? ⟨W.heap.size, 1, none⟩ = some (.int .i64 0) := by rw [hc6 _ _ (by simp <;> omega)]; go_cell
            try have x2 : w6.cell? ⟨W.heap.size + 1, 0, none⟩ = some (.int .i64 0) := by rw [hc6 _ _ (by simp <;> omega)]; go_cell
            try have x3 : w6.cell? ⟨W.heap.size + 1, 1, none⟩ = some (.int .i64 0) := by rw [hc6 _ _ (by simp <;> omega)]; go_cell
            try have xf0 : w6.frozen? ⟨W.heap.size, 0, none⟩ = false := by rw [hf6 _ _ (by simp <;> omega)]; go_cell
            try have xf1 : w6.frozen? ⟨W.heap.size, 1, none⟩ = false := by rw [hf6 _ _ (by simp <;> omega)]; go_cell
            try have xf2 : w6.frozen? ⟨W.heap.size + 1, 0, none⟩ = false := by rw [hf6 _ _ (by simp <;> omega)]; go_cell
            try have xf3 : w6.frozen? ⟨W.heap.size + 1, 1, none⟩ = false := by rw [hf6 _ _ (by simp <;> omega)]; go_cell
            try have sz1 : W.heap.size < w6.heap.size := by omega
            try have sz2 : W.heap.size + 1 < w6.heap.size := by omega
            clear hc6 hf6
            replace hA := two hA hb6
            have hA6 := hA
            have hB6 := hBW.trans (hA.mono hBW.size)
            have hs6 := hA.size
            have ht6 := hB6.size
            have hbw := hBW.size
            go_wp2_with fail
            refine hK.out _ _ (fun _ => hA) ?_
            clear hK K hb6
            try simp only [Act.put, List.setIfInBounds_toArray, List.set_cons_zero, List.set_cons_succ]
            refine AnyT.take (i := 7) (oi := _) (v := ?_) rfl (by kernel_rfl) (by kernel_rfl) (by kernel_rfl) (by kernel_rfl) (fun _ _ _ h => h) (Or.inl ⟨by rfl, ?_⟩) (by assumption) ?_
            rotate_left 1
            · intro wz hSw; obtain ⟨_, _, _, _, _, _, _, _⟩ := HX.out.later hSw; go_simp; try with_reducible rfl
            try simp only [Act.put, List.setIfInBounds_toArray, List.set_cons_zero, List.set_cons_succ]
            refine AnyT.take (i := 8) (oi := _) (v := ?_) rfl (by kernel_rfl) (by kernel_rfl) (by kernel_rfl) (by kernel_rfl) (fun _ _ _ h => h) (Or.inl ⟨by rfl, ?_⟩) (by assumption) ?_
            rotate_left 1
            · intro wz hSw; obtain ⟨_, _, _, _, _, _, _, _⟩ := HX.out.later hSw; go_simp; try with_reducible rfl
            try simp only [Act.put, List.setIfInBounds_toArray, List.set_cons_zero, List.set_cons_succ]
            refine AnyT.take (i := 9) (oi := _) (v := ?_) rfl (by kernel_rfl) (by kernel_rfl) (by kernel_rfl) (by kernel_rfl) (fun _ _ _ h => h) (Or.inl ⟨by rfl, ?_⟩) (by assumption) ?_
            rotate_left 1
            · intro wz hSw; obtain ⟨_, _, _, _, _, _, _, _⟩ := HX.out.later hSw; go_simp; try with_reducible rfl
            try simp only [Act.put, List.setIfInBounds_toArray, List.set_cons_zero, List.set_cons_succ]
            refine AnyT.one (i := 12) (o := _) rfl (by kernel_rfl) (fun K hK => ?_)
            go_simp
            refine hK.out _ _ (fun _ => by go_grown) ?_
            clear hK K
            try simp only [Act.put, List.setIfInBounds_toArray, List.set_cons_zero, List.set_cons_succ]
            refine AnyT.one (i := 13) (o := _) rfl (by kernel_rfl) (fun K hK => ?_)
            go_simp
            refine hK.out _ _ (fun h => absurd rfl h) ?_
            clear hK K
            refine AnyT.done (by kernel_rfl) ?_
            try simp only [Act.put, List.setIfInBounds_toArray, List.set_cons_zero, List.set_cons_succ]
            go_wp2_with fail
            go_meet
            case rel => exact ⟨_, _, rfl, rfl, by go_grown, by go_cell, by go_cell, by go_cell, by go_cell⟩
      case rest =>
        obtain ⟨n9, n10, rfl, rfl, hbw, a0, a1, b0, b1⟩ := hcut
        have HCo2 := Lib.hid (HCo.out.later hbw)
        have hlen2 : (wh S ks k).length ≤ 1000 := Nat.le_trans (wh_len S ks k) (by omega)
        have hin := wh_in HT.out HS.out k (by omega)
        have HI := Lib.hid hin
        have hB2 := HBr.out.trans (hbw.mono HBr.out.size)
        have HB2 := Lib.hid hB2
        clear e0 e1 e2 f0 f1 f2 z0 z1 hin hB2
        go_wp2_with fail
        refine (collect_any w.heap.size vv _ _ _ _ HCo2.out hlen2 HI.out).mono ?_
        rintro e w7 ⟨rfl, hb7, v7, hcol7⟩
        have H7 := Lib.hid hcol7
        have HB7 := Lib.hid (HB2.out.trans hb7)
        clear hcol7 hb7
        go_wp2_with fail
        go_roundw
        case rel => exact ⟨k + 1, by omega, by go_num, HB7.out, v7, by
          have ea : wh S ks (k + 1) = colS (wh S ks k) (max (S (pa, pl, ph) (qa, ql, qh)).1.1 (S (pa, pl, ph) (qa, ql, qh)).2.1) (min (S (pa, pl, ph) (qa, ql, qh)).1.2 (S (pa, pl, ph) (qa, ql, qh)).2.2) := by
            show colS _ _ _ = _
            rw [getD_is HP.out, getD_is HQ.out]
          rw [ea]; exact H7.out⟩
        case measure => simp [intOf]; omega
    · obtain rfl : k = ks.length - 1 := by omega
      have hcc := hcol.c
      have HCo := Lib.hid hcol
      have HBr := Lib.hid hbr
      clear hcol hbr
      go_wp2_with fail
      exact bodyPost_ret (v := vv) (by simp [results, Try.results84, go_sem, *]) rfl ⟨vv, rfl, Go.Joins.ownsRow_le HCo.out.own (by omega), HBr.out⟩
set_option linter.unusedSimpArgs false in
set_option maxHeartbeats 2000000 in
set_option maxRecDepth 100000 in
theorem where_must (v : Value) (ks : List (Int × Int × Int)) (lo hi : Int) (Y : Nat) (S : Seg) (w : World) (hs : SlK w v ks) (ht : tableB ks = true) (hS : Inner ks S) (hF : Serves 90 Y lo hi ks S)
    (y0 : w.cell? ⟨Y, 0, none⟩ = some (.int .i64 lo)) (y1 : w.cell? ⟨Y, 1, none⟩ = some (.int .i64 hi)) :
    Calls Try.prog 84 #[v, .func (.func 90) #[] #[.pointer (some ⟨Y, 0, none⟩)]] w fun e w' => WhR w w' e (wh S ks (ks.length - 1)) := by
  have hmf : ∀ (fn : Fn) (first cap : Array Value) (w : World), (Instr.makeFunc fn first cap).run Try.prog w = .ok (.func fn first cap) w := fun _ _ _ _ => rfl
  have hlen : 2 ≤ ks.length ∧ ks.length ≤ 32 := by unfold tableB at ht; simp at ht; omega
  have hyw := World.block_lt_of_cell? w _ y0
  have hyw' : Y < w.heap.size := hyw
  rcases hs with ⟨e1, _⟩ | ⟨b, off, cap, rfl, hcap, hmax, hb, hcells⟩
  · rw [e1] at hlen; simp at hlen
  obtain ⟨l1, l2⟩ := hlen
  have HC := Lib.hid hcells
  have HT := Lib.hid ht
  have HF := Lib.hid hF
  have HS := Lib.hid hS
  clear hcells ht hF hyw hS
  go_enter Try.func84, Try.ntmps84
  go_wp2_with fail
  go_loopw [15] (fun v15 wr => WHead S ks w.heap.size w wr v15) (fun v15 _ => ks.length - 1 - (intOf v15).toNat)
  case atStart => exact ⟨0, by omega, rfl, by go_grown, .slice none 0 0, ⟨World.ownsRow_nil _ _ _ _, by simp, by go_cell, by go_cell⟩⟩
  case round =>
    obtain ⟨k, hk, rfl, hbr, vv, hcol⟩ := hrel
    by_cases hlt : k < ks.length - 1
    · obtain ⟨pa, pl, ph, hp⟩ : ∃ a l h, ks[k]? = some (a, l, h) := ⟨_, _, _, List.getElem?_eq_getElem (by omega)⟩
      obtain ⟨qa, ql, qh, hq⟩ : ∃ a l h, ks[k + 1]? = some (a, l, h) := ⟨_, _, _, List.getElem?_eq_getElem (by omega)⟩
      have hbl : ∀ o, wr.cell? ⟨b, o, none⟩ = w.cell? ⟨b, o, none⟩ := fun o => hbr.cell (by simpa using hb)
      have hyl : ∀ o, wr.cell? ⟨Y, o, none⟩ = w.cell? ⟨Y, o, none⟩ := fun o => hbr.cell (by simpa using hyw')
      obtain ⟨e0, e1, e2⟩ := HC.out _ _ _ _ hp
      obtain ⟨f0, f1, f2⟩ := HC.out _ _ _ _ hq
      rw [← hbl] at e0 e1 e2 f0 f1 f2
      have z0 := y0
      have z1 := y1
      rw [← hyl] at z0 z1
      rw [show off + (k + 1) * 3 = off + 3 + k * 3 by omega] at f0 f1 f2
      have hbrr : b < wr.heap.size := by have := hbr.size; omega
      have hyr : Y < wr.heap.size := by have := hbr.size; omega
      have hz := hcol.size
      have HCo := Lib.hid hcol
      have HP := Lib.hid hp
      have HQ := Lib.hid hq
      have HBr := Lib.hid hbr
      have hlt' : (k : Int) < (ks.length : Int) - 1 := by omega
      have hk0 : (0 : Int) ≤ (k : Int) := by omega
      have hl1 : (k : Int) < (ks.length : Int) := by omega
      clear hcol hp hq hbl hyl y0 y1
      go_wp2_with fail
      go_cut [9, 10] from 16 to 42 (fun v9 v10 wy => WC wr wy v9 v10 (S (pa, pl, ph) (qa, ql, qh)))
      case first =>
        obtain ⟨W, hW⟩ : ∃ W, wr.alloc (.cells #[.int .i64 qa, .int .i64 ql, .int .i64 qh] 94) = W := ⟨_, rfl⟩
        have hX : RX b (off + k * 3) Y wr.heap.size W pa pl ph qa ql qh lo hi := by subst hW; exact ⟨by go_cell, by go_cell, by go_cell, by go_cell, by go_cell, by go_cell, by go_cell, by go_cell⟩
        have hBW : Below wr.heap.size wr W := by subst hW; exact below_box _ _
        rw [hW]
        have HX := Lib.hid hX
        clear hW hX e0 e1 e2 f0 f1 f2 z0 z1
        have hA : Below W.heap.size W W.drew := below_drewN (Below.refl _ _) 1
        refine AnyT.begin (fun w' => Below W.heap.size W w') 13 (by kernel_rfl) hA (fun hHeld => ?_)
        refine AnyT.take (i := 0) (oi := _) (v := ?_) rfl (by kernel_rfl) (by kernel_rfl) (by kernel_rfl) (by kernel_rfl) (fun _ _ _ h => h) (Or.inl ⟨by rfl, ?_⟩) (by assumption) ?_
        rotate_left 1
        · intro wz hSw; obtain ⟨_, _, _, _, _, _, _, _⟩ := HX.out.later hSw; go_simp; try with_reducible rfl
        try simp only [Act.put, List.setIfInBounds_toArray, List.set_cons_zero, List.set_cons_succ]
        refine AnyT.take (i := 1) (oi := _) (v := ?_) rfl (by kernel_rfl) (by kernel_rfl) (by kernel_rfl) (by kernel_rfl) (fun _ _ _ h => h) (Or.inl ⟨by rfl, ?_⟩) (by assumption) ?_
        rotate_left 1
        · intro wz hSw; obtain ⟨_, _, _, _, _, _, _, _⟩ := HX.out.later hSw; go_simp; try with_reducible rfl
        try simp only [Act.put, List.setIfInBounds_toArray, List.set_cons_zero, List.set_cons_succ]
        refine AnyT.take (i := 2) (oi := _) (v := ?_) rfl (by kernel_rfl) (by kernel_rfl) (by kernel_rfl) (by kernel_rfl) (fun _ _ _ h => h) (Or.inl ⟨by rfl, ?_⟩) (by assumption) ?_
        rotate_left 1
        · intro wz hSw; obtain ⟨_, _, _, _, _, _, _, _⟩ := HX.out.later hSw; go_simp; try with_reducible rfl
        try simp only [Act.put, List.setIfInBounds_toArray, List.set_cons_zero, List.set_cons_succ]
        refine AnyT.take (i := 3) (oi := _) (v := ?_) rfl (by kernel_rfl) (by kernel_rfl) (by kernel_rfl) (by kernel_rfl) (fun _ _ _ h => h) (Or.inl ⟨by rfl, ?_⟩) (by assumption) ?_
        rotate_left 1
        · intro wz hSw; obtain ⟨_, _, _, _, _, _, _, _⟩ := HX.out.later hSw; go_simp; try with_reducible rfl
        try simp only [Act.put, List.setIfInBounds_toArray, List.set_cons_zero, List.set_cons_succ]
        refine AnyT.take (i := 4) (oi := _) (v := ?_) rfl (by kernel_rfl) (by kernel_rfl) (by kernel_rfl) (by kernel_rfl) (fun _ _ _ h => h) (Or.inl ⟨by rfl, ?_⟩) (by assumption) ?_
        rotate_left 1
        · intro wz hSw; obtain ⟨_, _, _, _, _, _, _, _⟩ := HX.out.later hSw; go_simp; try with_reducible rfl
        try simp only [Act.put, List.setIfInBounds_toArray, List.set_cons_zero, List.set_cons_succ]
        refine AnyT.take (i := 5) (oi := _) (v := ?_) rfl (by kernel_rfl) (by kernel_rfl) (by kernel_rfl) (by kernel_rfl) (fun _ _ _ h => h) (Or.inl ⟨by rfl, ?_⟩) (by assumption) ?_
        rotate_left 1
        · intro wz hSw; obtain ⟨_, _, _, _, _, _, _, _⟩ := HX.out.later hSw; go_simp; try with_reducible rfl
        try simp only [Act.put, List.setIfInBounds_toArray, List.set_cons_zero, List.set_cons_succ]
        clear hHeld
        refine AnyT.some [6, 10, 11] (by kernel_rfl) (by simp) (fun i hi => ?_)
        simp only [List.mem_cons, List.not_mem_nil, or_false] at hi
        rcases hi with rfl | rfl | rfl
        · skip
          refine AnyT.step (o := _) rfl (fun K hK => ?_)
          go_simp
          refine (HF.out k _ _ _ _ _ _ _ HP.out HQ.out (HX.out.later hA).y0 (HX.out.later hA).y1).mono ?_
          rintro e w6 ⟨rfl, hb6⟩
          have hc6 := (bcell hb6).1
          have hf6 := (bcell hb6).2
          have hz6 := hb6.size
          simp at hz6
          try have x0 : w6.cell? ⟨W.heap.size, 0, none⟩ = some (.int .i64 0) := by rw [hc6 _ _ (by simp <;> omega)]; go_cell
          try have x1 : w6.cell? ⟨W.heap.size, 1, none⟩ = some (.int .i64 0) := by rw [hc6 _ _ (by simp <;> omega)]; go_cell
          try have x2 : w6.cell? ⟨W.heap.size + 1, 0, none⟩ = some (.int .i64 0) := by rw [hc6 _ _ (by simp <;> omega)]; go_cell
          try have x3 : w6.cell? ⟨W.heap.size + 1, 1, none⟩ = some (.int .i64 0) := by rw [hc6 _ _ (by simp <;> omega)]; go_cell
          try have xf0 : w6.frozen? ⟨W.heap.size, 0, none⟩ = false := by rw [hf6 _ _ (by simp <;> omega)]; go_cell
          try have xf1 : w6.frozen? ⟨W.heap.size, 1, none⟩ = false := by rw [hf6 _ _ (by simp <;> omega)]; go_cell
          try have xf2 : w6.frozen? ⟨W.heap.size + 1, 0, none⟩ = false := by rw [hf6 _ _ (by simp <;> omega)]; go_cell
          try have xf3 : w6.frozen? ⟨W.heap.size + 1, 1, none⟩ = false := by rw [hf6 _ _ (by simp <;> omega)]; go_cell
          try have sz1 : W.heap.size < w6.heap.size := by omega
          try have sz2 : W.heap.size + 1 < w6.heap.size := by omega
          clear hc6 hf6
          replace hA := two hA hb6
          have hA6 := hA
          have hB6 := hBW.trans (hA.mono hBW.size)
          have hs6 := hA.size
          have ht6 := hB6.size
          have hbw := hBW.size
          go_wp2_with fail
          refine hK.out _ _ (fun _ => hA) ?_
          clear hK K hb6
          try simp only [Act.put, List.setIfInBounds_toArray, List.set_cons_zero, List.set_cons_succ]
          refine AnyT.take (i := 7) (oi := _) (v := ?_) rfl (by kernel_rfl) (by kernel_rfl) (by kernel_rfl) (by kernel_rfl) (fun _ _ _ h => h) (Or.inl ⟨by rfl, ?_⟩) (by assumption) ?_
          rotate_left 1
          · intro wz hSw; obtain ⟨_, _, _, _, _, _, _, _⟩ := HX.out.later hSw; go_simp; try with_reducible rfl
          try simp only [Act.put, List.setIfInBounds_toArray, List.set_cons_zero, List.set_cons_succ]
          refine AnyT.take (i := 8) (oi := _) (v := ?_) rfl (by kernel_rfl) (by kernel_rfl) (by kernel_rfl) (by kernel_rfl) (fun _ _ _ h => h) (Or.inl ⟨by rfl, ?_⟩) (by assumption) ?_
          rotate_left 1
          · intro wz hSw; obtain ⟨_, _, _, _, _, _, _, _⟩ := HX.out.later hSw; go_simp; try with_reducible rfl
          try simp only [Act.put, List.setIfInBounds_toArray, List.set_cons_zero, List.set_cons_succ]
          refine AnyT.take (i := 9) (oi := _) (v := ?_) rfl (by kernel_rfl) (by kernel_rfl) (by kernel_rfl) (by kernel_rfl) (fun _ _ _ h => h) (Or.inl ⟨by rfl, ?_⟩) (by assumption) ?_
          rotate_left 1
          · intro wz hSw; obtain ⟨_, _, _, _, _, _, _, _⟩ := HX.out.later hSw; go_simp; try with_reducible rfl
          try simp only [Act.put, List.setIfInBounds_toArray, List.set_cons_zero, List.set_cons_succ]
          refine AnyT.some [10, 11] (by kernel_rfl) (by simp) (fun i hi => ?_)
          simp only [List.mem_cons, List.not_mem_nil, or_false] at hi
          rcases hi with rfl | rfl
          · skip
            refine AnyT.step (o := _) rfl (fun K hK => ?_)
            go_simp
            replace hA := hA.alloc hA.size (.cells #[.int .i64 0, .int .i64 0] 23)
            refine hK.out _ _ (fun _ => hA) ?_
            clear hK K
            try simp only [Act.put, List.setIfInBounds_toArray, List.set_cons_zero, List.set_cons_succ]
            refine AnyT.one (i := 11) (o := _) rfl (by kernel_rfl) (fun K hK => ?_)
            go_simp
            replace hA := hA.alloc hA.size (.cells #[.int .i64 0, .int .i64 0] 23)
            refine hK.out _ _ (fun _ => hA) ?_
            clear hK K
            try simp only [Act.put, List.setIfInBounds_toArray, List.set_cons_zero, List.set_cons_succ]
            refine AnyT.one (i := 12) (o := _) rfl (by kernel_rfl) (fun K hK => ?_)
            go_simp
            refine hK.out _ _ (fun _ => by go_grown) ?_
            clear hK K
            try simp only [Act.put, List.setIfInBounds_toArray, List.set_cons_zero, List.set_cons_succ]
            refine AnyT.one (i := 13) (o := _) rfl (by kernel_rfl) (fun K hK => ?_)
            go_simp
            refine hK.out _ _ (fun h => absurd rfl h) ?_
            clear hK K
            refine AnyT.done (by kernel_rfl) ?_
            try simp only [Act.put, List.setIfInBounds_toArray, List.set_cons_zero, List.set_cons_succ]
            go_wp2_with fail
            go_meet
            case rel => exact ⟨_, _, rfl, rfl, by go_grown, by go_cell, by go_cell, by go_cell, by go_cell⟩
          · skip
            refine AnyT.step (o := _) rfl (fun K hK => ?_)
            go_simp
            replace hA := hA.alloc hA.size (.cells #[.int .i64 0, .int .i64 0] 23)
            refine hK.out _ _ (fun _ => hA) ?_
            clear hK K
            try simp only [Act.put, List.setIfInBounds_toArray, List.set_cons_zero, List.set_cons_succ]
            refine AnyT.one (i := 10) (o := _) rfl (by kernel_rfl) (fun K hK => ?_)
            go_simp
            replace hA := hA.alloc hA.size (.cells #[.int .i64 0, .int .i64 0] 23)
            refine hK.out _ _ (fun _ => hA) ?_
            clear hK K
            try simp only [Act.put, List.setIfInBounds_toArray, List.set_cons_zero, List.set_cons_succ]
            refine AnyT.one (i := 12) (o := _) rfl (by kernel_rfl) (fun K hK => ?_)
            go_simp
            refine hK.out _ _ (fun _ => by go_grown) ?_
            clear hK K
            try simp only [Act.put, List.setIfInBounds_toArray, List.set_cons_zero, List.set_cons_succ]
            refine AnyT.one (i := 13) (o := _) rfl (by kernel_rfl) (fun K hK => ?_)
            go_simp
            refine hK.out _ _ (fun h => absurd rfl h) ?_
            clear hK K
            refine AnyT.done (by kernel_rfl) ?_
            try simp only [Act.put, List.setIfInBounds_toArray, List.set_cons_zero, List.set_cons_succ]
            go_wp2_with fail
            go_meet
            case rel => exact ⟨_, _, rfl, rfl, by go_grown, by go_cell, by go_cell, by go_cell, by go_cell⟩
        · skip
          refine AnyT.step (o := _) rfl (fun K hK => ?_)
          go_simp
          replace hA := hA.alloc hA.size (.cells #[.int .i64 0, .int .i64 0] 23)
          refine hK.out _ _ (fun _ => hA) ?_
          clear hK K
          try simp only [Act.put, List.setIfInBounds_toArray, List.set_cons_zero, List.set_cons_succ]
          refine AnyT.some [6, 11] (by kernel_rfl) (by simp) (fun i hi => ?_)
          simp only [List.mem_cons, List.not_mem_nil, or_false] at hi
          rcases hi with rfl | rfl
          · skip
            refine AnyT.step (o := _) rfl (fun K hK => ?_)
            go_simp
            refine (HF.out k _ _ _ _ _ _ _ HP.out HQ.out (HX.out.later hA).y0 (HX.out.later hA).y1).mono ?_
            rintro e w6 ⟨rfl, hb6⟩
            have hc6 := (bcell hb6).1
            have hf6 := (bcell hb6).2
            have hz6 := hb6.size
            simp at hz6
            try have x0 : w6.cell? ⟨W.heap.size, 0, none⟩ = some (.int .i64 0) := by rw [hc6 _ _ (by simp <;> omega)]; go_cell
            try have x1 : w6.cell? ⟨W.heap.size, 1, none⟩ = some (.int .i64 0) := by rw [hc6 _ _ (by simp <;> omega)]; go_cell
            try have x2 : w6.cell? ⟨W.heap.size + 1, 0, none⟩ = some (.int .i64 0) := by rw [hc6 _ _ (by simp <;> omega)]; go_cell
            try have x3 : w6.cell? ⟨W.heap.size + 1, 1, none⟩ = some (.int .i64 0) := by rw [hc6 _ _ (by simp <;> omega)]; go_cell
            try have xf0 : w6.frozen? ⟨W.heap.size, 0, none⟩ = false := by rw [hf6 _ _ (by simp <;> omega)]; go_cell
            try have xf1 : w6.frozen? ⟨W.heap.size, 1, none⟩ = false := by rw [hf6 _ _ (by simp <;> omega)]; go_cell
            try have xf2 : w6.frozen? ⟨W.heap.size + 1, 0, none⟩ = false := by rw [hf6 _ _ (by simp <;> omega)]; go_cell
            try have xf3 : w6.frozen? ⟨W.heap.size + 1, 1, none⟩ = false := by rw [hf6 _ _ (by simp <;> omega)]; go_cell
            try have sz1 : W.heap.size < w6.heap.size := by omega
            try have sz2 : W.heap.size + 1 < w6.heap.size := by omega
            clear hc6 hf6
            replace hA := two hA hb6
            have hA6 := hA
            have hB6 := hBW.trans (hA.mono hBW.size)
            have hs6 := hA.size
            have ht6 := hB6.size
            have hbw := hBW.size
            go_wp2_with fail
            refine hK.out _ _ (fun _ => hA) ?_
            clear hK K hb6
            try simp only [Act.put, List.setIfInBounds_toArray, List.set_cons_zero, List.set_cons_succ]
            refine AnyT.take (i := 7) (oi := _) (v := ?_) rfl (by kernel_rfl) (by kernel_rfl) (by kernel_rfl) (by kernel_rfl) (fun _ _ _ h => h) (Or.inl ⟨by rfl, ?_⟩) (by assumption) ?_
            rotate_left 1
            · intro wz hSw; obtain ⟨_, _, _, _, _, _, _, _⟩ := HX.out.later hSw; go_simp; try with_reducible rfl
            try simp only [Act.put, List.setIfInBounds_toArray, List.set_cons_zero, List.set_cons_succ]
            refine AnyT.take (i := 8) (oi := _) (v := ?_) rfl (by kernel_rfl) (by kernel_rfl) (by kernel_rfl) (by kernel_rfl) (fun _ _ _ h => h) (Or.inl ⟨by rfl, ?_⟩) (by assumption) ?_
            rotate_left 1
            · intro wz hSw; obtain ⟨_, _, _, _, _, _, _, _⟩ := HX.out.later hSw; go_simp; try with_reducible rfl
            try simp only [Act.put, List.setIfInBounds_toArray, List.set_cons_zero, List.set_cons_succ]
            refine AnyT.take (i := 9) (oi := _) (v := ?_) rfl (by kernel_rfl) (by kernel_rfl) (by kernel_rfl) (by kernel_rfl) (fun _ _ _ h => h) (Or.inl ⟨by rfl, ?_⟩) (by assumption) ?_
            rotate_left 1
            · intro wz hSw; obtain ⟨_, _, _, _, _, _, _, _⟩ := HX.out.later hSw; go_simp; try with_reducible rfl
            try simp only [Act.put, List.setIfInBounds_toArray, List.set_cons_zero, List.set_cons_succ]
            refine AnyT.one (i := 11) (o := _) rfl (by kernel_rfl) (fun K hK => ?_)
            go_simp
            replace hA := hA.alloc hA.size (.cells #[.int .i64 0, .int .i64 0] 23)
            refine hK.out _ _ (fun _ => hA) ?_
            clear hK K
            try simp only [Act.put, List.setIfInBounds_toArray, List.set_cons_zero, List.set_cons_succ]
            refine AnyT.one (i := 12) (o := _) rfl (by kernel_rfl) (fun K hK => ?_)
            go_simp
            refine hK.out _ _ (fun _ => by go_grown) ?_
            clear hK K
            try simp only [Act.put, List.setIfInBounds_toArray, List.set_cons_zero, List.set_cons_succ]
            refine AnyT.one (i := 13) (o := _) rfl (by kernel_rfl) (fun K hK => ?_)
            go_simp
            refine hK.out _ _ (fun h => absurd rfl h) ?_
            clear hK K
            refine AnyT.done (by kernel_rfl) ?_
            try simp only [Act.put, List.setIfInBounds_toArray, List.set_cons_zero, List.set_cons_succ]
            go_wp2_with fail
            go_meet
            case rel => exact ⟨_, _, rfl, rfl, by go_grown, by go_cell, by go_cell, by go_cell, by go_cell⟩
          · skip
            refine AnyT.step (o := _) rfl (fun K hK => ?_)
            go_simp
            replace hA := hA.alloc hA.size (.cells #[.int .i64 0, .int .i64 0] 23)
            refine hK.out _ _ (fun _ => hA) ?_
            clear hK K
            try simp only [Act.put, List.setIfInBounds_toArray, List.set_cons_zero, List.set_cons_succ]
            refine AnyT.one (i := 6) (o := _) rfl (by kernel_rfl) (fun K hK => ?_)
            go_simp
            refine (HF.out k _ _ _ _ _ _ _ HP.out HQ.out (HX.out.later hA).y0 (HX.out.later hA).y1).mono ?_
            rintro e w6 ⟨rfl, hb6⟩
            have hc6 := (bcell hb6).1
            have hf6 := (bcell hb6).2
            have hz6 := hb6.size
            simp at hz6
            try have x0 : w6.cell? ⟨W.heap.size, 0, none⟩ = some (.int .i64 0) := by rw [hc6 _ _ (by simp <;> omega)]; go_cell
            try have x1 : w6.cell? ⟨W.heap.size, 1, none⟩ = some (.int .i64 0) := by rw [hc6 _ _ (by simp <;> omega)]; go_cell
            try have x2 : w6.cell? ⟨W.heap.size + 1, 0, none⟩ = some (.int .i64 0) := by rw [hc6 _ _ (by simp <;> omega)]; go_cell
            try have x3 : w6.cell? ⟨W.heap.size + 1, 1, none⟩ = some (.int .i64 0) := by rw [hc6 _ _ (by simp <;> omega)]; go_cell
            try have xf0 : w6.frozen? ⟨W.heap.size, 0, none⟩ = false := by rw [hf6 _ _ (by simp <;> omega)]; go_cell
            try have xf1 : w6.frozen? ⟨W.heap.size, 1, none⟩ = false := by rw [hf6 _ _ (by simp <;> omega)]; go_cell
            try have xf2 : w6.frozen? ⟨W.heap.size + 1, 0, none⟩ = false := by rw [hf6 _ _ (by simp <;> omega)]; go_cell
            try have xf3 : w6.frozen? ⟨W.heap.size + 1, 1, none⟩ = false := by rw [hf6 _ _ (by simp <;> omega)]; go_cell
            try have sz1 : W.heap.size < w6.heap.size := by omega
            try have sz2 : W.heap.size + 1 < w6.heap.size := by omega
            clear hc6 hf6
            replace hA := two hA hb6
            have hA6 := hA
            have hB6 := hBW.trans (hA.mono hBW.size)
            have hs6 := hA.size
            have ht6 := hB6.size
            have hbw := hBW.size
            go_wp2_with fail
            refine hK.out _ _ (fun _ => hA) ?_
            clear hK K hb6
            try simp only [Act.put, List.setIfInBounds_toArray, List.set_cons_zero, List.set_cons_succ]
            refine AnyT.take (i := 7) (oi := _) (v := ?_) rfl (by kernel_rfl) (by kernel_rfl) (by kernel_rfl) (by kernel_rfl) (fun _ _ _ h => h) (Or.inl ⟨by rfl, ?_⟩) (by assumption) ?_
            rotate_left 1
            · intro wz hSw; obtain ⟨_, _, _, _, _, _, _, _⟩ := HX.out.later hSw; go_simp; try with_reducible rfl
            try simp only [Act.put, List.setIfInBounds_toArray, List.set_cons_zero, List.set_cons_succ]
            refine AnyT.take (i := 8) (oi := _) (v := ?_) rfl (by kernel_rfl) (by kernel_rfl) (by kernel_rfl) (by kernel_rfl) (fun _ _ _ h => h) (Or.inl ⟨by rfl, ?_⟩) (by assumption) ?_
            rotate_left 1
            · intro wz hSw; obtain ⟨_, _, _, _, _, _, _, _⟩ := HX.out.later hSw; go_simp; try with_reducible rfl
            try simp only [Act.put, List.setIfInBounds_toArray, List.set_cons_zero, List.set_cons_succ]
            refine AnyT.take (i := 9) (oi := _) (v := ?_) rfl (by kernel_rfl) (by kernel_rfl) (by kernel_rfl) (by kernel_rfl) (fun _ _ _ h => h) (Or.inl ⟨by rfl, ?_⟩) (by assumption) ?_
            rotate_left 1
            · intro wz hSw; obtain ⟨_, _, _, _, _, _, _, _⟩ := HX.out.later hSw; go_simp; try with_reducible rfl
            try simp only [Act.put, List.setIfInBounds_toArray, List.set_cons_zero, List.set_cons_succ]
            refine AnyT.one (i := 12) (o := _) rfl (by kernel_rfl) (fun K hK => ?_)
            go_simp
            refine hK.out _ _ (fun _ => by go_grown) ?_
            clear hK K
            try simp only [Act.put, List.setIfInBounds_toArray, List.set_cons_zero, List.set_cons_succ]
            refine AnyT.one (i := 13) (o := _) rfl (by kernel_rfl) (fun K hK => ?_)
            go_simp
            refine hK.out _ _ (fun h => absurd rfl h) ?_
            clear hK K
            refine AnyT.done (by kernel_rfl) ?_
            try simp only [Act.put, List.setIfInBounds_toArray, List.set_cons_zero, List.set_cons_succ]
            go_wp2_with fail
            go_meet
            case rel => exact ⟨_, _, rfl, rfl, by go_grown, by go_cell, by go_cell, by go_cell, by go_cell⟩
        · skip
          refine AnyT.step (o := _) rfl (fun K hK => ?_)
          go_simp
          replace hA := hA.alloc hA.size (.cells #[.int .i64 0, .int .i64 0] 23)
          refine hK.out _ _ (fun _ => hA) ?_
          clear hK K
          try simp only [Act.put, List.setIfInBounds_toArray, List.set_cons_zero, List.set_cons_succ]
          refine AnyT.some [6, 10] (by kernel_rfl) (by simp) (fun i hi => ?_)
          simp only [List.mem_cons, List.not_mem_nil, or_false] at hi
          rcases hi with rfl | rfl
          · skip
            refine AnyT.step (o := _) rfl (fun K hK => ?_)
            go_simp
            refine (HF.out k _ _ _ _ _ _ _ HP.out HQ.out (HX.out.later hA).y0 (HX.out.later hA).y1).mono ?_
            rintro e w6 ⟨rfl, hb6⟩
            have hc6 := (bcell hb6).1
            have hf6 := (bcell hb6).2
            have hz6 := hb6.size
            simp at hz6
            try have x0 : w6.cell? ⟨W.heap.size, 0, none⟩ = some (.int .i64 0) := by rw [hc6 _ _ (by simp <;> omega)]; go_cell
            try have x1 : w6.cell? ⟨W.heap.size, 1, none⟩ = some (.int .i64 0) := by rw [hc6 _ _ (by simp <;> omega)]; go_cell
            try have x2 : w6.cell? ⟨W.heap.size + 1, 0, none⟩ = some (.int .i64 0) := by rw [hc6 _ _ (by simp <;> omega)]; go_cell
            try have x3 : w6.cell? ⟨W.heap.size + 1, 1, none⟩ = some (.int .i64 0) := by rw [hc6 _ _ (by simp <;> omega)]; go_cell
            try have xf0 : w6.frozen? ⟨W.heap.size, 0, none⟩ = false := by rw [hf6 _ _ (by simp <;> omega)]; go_cell
            try have xf1 : w6.frozen? ⟨W.heap.size, 1, none⟩ = false := by rw [hf6 _ _ (by simp <;> omega)]; go_cell
            try have xf2 : w6.frozen? ⟨W.heap.size + 1, 0, none⟩ = false := by rw [hf6 _ _ (by simp <;> omega)]; go_cell
            try have xf3 : w6.frozen? ⟨W.heap.size + 1, 1, none⟩ = false := by rw [hf6 _ _ (by simp <;> omega)]; go_cell
            try have sz1 : W.heap.size < w6.heap.size := by omega
            try have sz2 : W.heap.size + 1 < w6.heap.size := by omega
            clear hc6 hf6
            replace hA := two hA hb6
            have hA6 := hA
            have hB6 := hBW.trans (hA.mono hBW.size)
            have hs6 := hA.size
            have ht6 := hB6.size
            have hbw := hBW.size
            go_wp2_with fail
            refine hK.out _ _ (fun _ => hA) ?_
            clear hK K hb6
            try simp only [Act.put, List.setIfInBounds_toArray, List.set_cons_zero, List.set_cons_succ]
            refine AnyT.take (i := 7) (oi := _) (v := ?_) rfl (by kernel_rfl) (by kernel_rfl) (by kernel_rfl) (by kernel_rfl) (fun _ _ _ h => h) (Or.inl ⟨by rfl, ?_⟩) (by assumption) ?_
            rotate_left 1
            · intro wz hSw; obtain ⟨_, _, _, _, _, _, _, _⟩ := HX.out.later hSw; go_simp; try with_reducible rfl
            try simp only [Act.put, List.setIfInBounds_toArray, List.set_cons_zero, List.set_cons_succ]
            refine AnyT.take (i := 8) (oi := _) (v := ?_) rfl (by kernel_rfl) (by kernel_rfl) (by kernel_rfl) (by kernel_rfl) (fun _ _ _ h => h) (Or.inl ⟨by rfl, ?_⟩) (by assumption) ?_
            rotate_left 1
            · intro wz hSw; obtain ⟨_, _, _, _, _, _, _, _⟩ := HX.out.later hSw; go_simp; try with_reducible rfl
            try simp only [Act.put, List.setIfInBounds_toArray, List.set_cons_zero, List.set_cons_succ]
            refine AnyT.take (i := 9) (oi := _) (v := ?_) rfl (by kernel_rfl) (by kernel_rfl) (by kernel_rfl) (by kernel_rfl) (fun _ _ _ h => h) (Or.inl ⟨by rfl, ?_⟩) (by assumption) ?_
            rotate_left 1
            · intro wz hSw; obtain ⟨_, _, _, _, _, _, _, _⟩ := HX.out.later hSw; go_simp; try with_reducible rfl
            try simp only [Act.put, List.setIfInBounds_toArray, List.set_cons_zero, List.set_cons_succ]
            refine AnyT.one (i := 10) (o := _) rfl (by kernel_rfl) (fun K hK => ?_)
            go_simp
            replace hA := hA.alloc hA.size (.cells #[.int .i64 0, .int .i64 0] 23)
            refine hK.out _ _ (fun _ => hA) ?_
            clear hK K
            try simp only [Act.put, List.setIfInBounds_toArray, List.set_cons_zero, List.set_cons_succ]
            refine AnyT.one (i := 12) (o := _) rfl (by kernel_rfl) (fun K hK => ?_)
            go_simp
            refine hK.out _ _ (fun _ => by go_grown) ?_
            clear hK K
            try simp only [Act.put, List.setIfInBounds_toArray, List.set_cons_zero, List.set_cons_succ]
            refine AnyT.one (i := 13) (o := _) rfl (by kernel_rfl) (fun K hK => ?_)
            go_simp
            refine hK.out _ _ (fun h => absurd rfl h) ?_
            clear hK K
            refine AnyT.done (by kernel_rfl) ?_
            try simp only [Act.put, List.setIfInBounds_toArray, List.set_cons_zero, List.set_cons_succ]
            go_wp2_with fail
            go_meet
            case rel => exact ⟨_, _, rfl, rfl, by go_grown, by go_cell, by go_cell, by go_cell, by go_cell⟩
          · skip
            refine AnyT.step (o := _) rfl (fun K hK => ?_)
            go_simp
            replace hA := hA.alloc hA.size (.cells #[.int .i64 0, .int .i64 0] 23)
            refine hK.out _ _ (fun _ => hA) ?_
            clear hK K
            try simp only [Act.put, List.setIfInBounds_toArray, List.set_cons_zero, List.set_cons_succ]
            refine AnyT.one (i := 6) (o := _) rfl (by kernel_rfl) (fun K hK => ?_)
            go_simp
            refine (HF.out k _ _ _ _ _ _ _ HP.out HQ.out (HX.out.later hA).y0 (HX.out.later hA).y1).mono ?_
            rintro e w6 ⟨rfl, hb6⟩
            have hc6 := (bcell hb6).1
            have hf6 := (bcell hb6).2
            have hz6 := hb6.size
            simp at hz6
            try have x0 : w6.cell? ⟨W.heap.size, 0, none⟩ = some (.int .i64 0) := by rw [hc6 _ _ (by simp <;> omega)]; go_cell
            try have x1 : w6.cell? ⟨W.heap.size, 1, none⟩ = some (.int .i64 0) := by rw [hc6 _ _ (by simp <;> omega)]; go_cell
            try have x2 : w6.cell? ⟨W.heap.size + 1, 0, none⟩ = some (.int .i64 0) := by rw [hc6 _ _ (by simp <;> omega)]; go_cell
            try have x3 : w6.cell? ⟨W.heap.size + 1, 1, none⟩ = some (.int .i64 0) := by rw [hc6 _ _ (by simp <;> omega)]; go_cell
            try have xf0 : w6.frozen? ⟨W.heap.size, 0, none⟩ = false := by rw [hf6 _ _ (by simp <;> omega)]; go_cell
            try have xf1 : w6.frozen? ⟨W.heap.size, 1, none⟩ = false := by rw [hf6 _ _ (by simp <;> omega)]; go_cell
            try have xf2 : w6.frozen? ⟨W.heap.size + 1, 0, none⟩ = false := by rw [hf6 _ _ (by simp <;> omega)]; go_cell
            try have xf3 : w6.frozen? ⟨W.heap.size + 1, 1, none⟩ = false := by rw [hf6 _ _ (by simp <;> omega)]; go_cell
            try have sz1 : W.heap.size < w6.heap.size := by omega
            try have sz2 : W.heap.size + 1 < w6.heap.size := by omega
            clear hc6 hf6
            replace hA := two hA hb6
            have hA6 := hA
            have hB6 := hBW.trans (hA.mono hBW.size)
            have hs6 := hA.size
            have ht6 := hB6.size
            have hbw := hBW.size
            go_wp2_with fail
            refine hK.out _ _ (fun _ => hA) ?_
            clear hK K hb6
            try simp only [Act.put, List.setIfInBounds_toArray, List.set_cons_zero, List.set_cons_succ]
            refine AnyT.take (i := 7) (oi := _) (v := ?_) rfl (by kernel_rfl) (by kernel_rfl) (by kernel_rfl) (by kernel_rfl) (fun _ _ _ h => h) (Or.inl ⟨by rfl, ?_⟩) (by assumption) ?_
            rotate_left 1
            · intro wz hSw; obtain ⟨_, _, _, _, _, _, _, _⟩ := HX.out.later hSw; go_simp; try with_reducible rfl
            try simp only [Act.put, List.setIfInBounds_toArray, List.set_cons_zero, List.set_cons_succ]
            refine AnyT.take (i := 8) (oi := _) (v := ?_) rfl (by kernel_rfl) (by kernel_rfl) (by kernel_rfl) (by kernel_rfl) (fun _ _ _ h => h) (Or.inl ⟨by rfl, ?_⟩) (by assumption) ?_
            rotate_left 1
            · intro wz hSw; obtain ⟨_, _, _, _, _, _, _, _⟩ := HX.out.later hSw; go_simp; try with_reducible rfl
            try simp only [Act.put, List.setIfInBounds_toArray, List.set_cons_zero, List.set_cons_succ]
            refine AnyT.take (i := 9) (oi := _) (v := ?_) rfl (by kernel_rfl) (by kernel_rfl) (by kernel_rfl) (by kernel_rfl) (fun _ _ _ h => h) (Or.inl ⟨by rfl, ?_⟩) (by assumption) ?_
            rotate_left 1
            · intro wz hSw; obtain ⟨_, _, _, _, _, _, _, _⟩ := HX.out.later hSw; go_simp; try with_reducible rfl
            try simp only [Act.put, List.setIfInBounds_toArray, List.set_cons_zero, List.set_cons_succ]
            refine AnyT.one (i := 12) (o := _) rfl (by kernel_rfl) (fun K hK => ?_)
            go_simp
            refine hK.out _ _ (fun _ => by go_grown) ?_
            clear hK K
            try simp only [Act.put, List.setIfInBounds_toArray, List.set_cons_zero, List.set_cons_succ]
            refine AnyT.one (i := 13) (o := _) rfl (by kernel_rfl) (fun K hK => ?_)
            go_simp
            refine hK.out _ _ (fun h => absurd rfl h) ?_
            clear hK K
            refine AnyT.done (by kernel_rfl) ?_
            try simp only [Act.put, List.setIfInBounds_toArray, List.set_cons_zero, List.set_cons_succ]
            go_wp2_with fail
            go_meet
            case rel => exact ⟨_, _, rfl, rfl, by go_grown, by go_cell, by go_cell, by go_cell, by go_cell⟩
      case rest =>
        obtain ⟨n9, n10, rfl, rfl, hbw, a0, a1, b0, b1⟩ := hcut
        have HCo2 := Lib.hid (HCo.out.later hbw)
        have hlen2 : (wh S ks k).length ≤ 1000 := Nat.le_trans (wh_len S ks k) (by omega)
        have hin := wh_in HT.out HS.out k (by omega)
        have HI := Lib.hid hin
        have hB2 := HBr.out.trans (hbw.mono HBr.out.size)
        have HB2 := Lib.hid hB2
        clear e0 e1 e2 f0 f1 f2 z0 z1 hin hB2
        go_wp2_with fail
        refine (collect_any w.heap.size vv _ _ _ _ HCo2.out hlen2 HI.out).mono ?_
        rintro e w7 ⟨rfl, hb7, v7, hcol7⟩
        have H7 := Lib.hid hcol7
        have HB7 := Lib.hid (HB2.out.trans hb7)
        clear hcol7 hb7
        go_wp2_with fail
        go_roundw
        case rel => exact ⟨k + 1, by omega, by go_num, HB7.out, v7, by
          have ea : wh S ks (k + 1) = colS (wh S ks k) (max (S (pa, pl, ph) (qa, ql, qh)).1.1 (S (pa, pl, ph) (qa, ql, qh)).2.1) (min (S (pa, pl, ph) (qa, ql, qh)).1.2 (S (pa, pl, ph) (qa, ql, qh)).2.2) := by
            show colS _ _ _ = _
            rw [getD_is HP.out, getD_is HQ.out]
          rw [ea]; exact H7.out⟩
        case measure => simp [intOf]; omega
    · obtain rfl : k = ks.length - 1 := by omega
      have hcc := hcol.c
      have HCo := Lib.hid hcol
      have HBr := Lib.hid hbr
      clear hcol hbr
      go_wp2_with fail
      exact bodyPost_ret (v := vv) (by simp [results, Try.results84, go_sem, *]) rfl ⟨vv, rfl, Go.Joins.ownsRow_le HCo.out.own (by omega), HBr.out⟩
end Go.Proofs.Ytflgdckeinappaa
