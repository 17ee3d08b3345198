/- Package trim: slacks (a row of three cells each, made and filled). -/
import Derived.Test.YtldnpnplgfkebaaTWith
import Derived.Test.YtldnpnplgfkebaaTBr
import Derived.Test.YtldnpnplgfkebaaTAst
import Derived.Test.YtldnpnplgfkebaaTail4
namespace Go.Proofs.Ytldnpnplgfkebaa
open Go.RowKit

/-- What loads leave of a limit: its scale, and how much more the value may be. -/
structure Sk where
  a : Int
  b : Int
  m : Int
instance : Inhabited Sk := ⟨⟨0, 0, 0⟩⟩
structure SkAt (w : World) (b o : Nat) (l : Sk) : Prop where
  c0 : w.cell? ⟨b, o, none⟩ = some (.int .i64 l.a)
  c1 : w.cell? ⟨b, o + 1, none⟩ = some (.int .i64 l.b)
  c2 : w.cell? ⟨b, o + 2, none⟩ = some (.int .i64 l.m)
theorem SkAt.later : Stays SkAt := fun k hb => ⟨cell_later hb k.c0, cell_later hb k.c1, cell_later hb k.c2⟩
abbrev SlSk := SlAny SkAt 3
theorem skLater {w w1 : World} {v : Value} {l : List Sk} (h : SlAny SkAt 3 w v l) (hb : Below w.heap.size w w1) : SlAny SkAt 3 w1 v l := SlAny.later (At := SkAt) SkAt.later h hb
theorem zeros3_get {m j : Nat} (h : j < m) : (madeCells #[.int .i64 0, .int .i64 0, .int .i64 0] m)[j]? = some (.int .i64 0) := by
  unfold madeCells
  have : j % 3 = 0 ∨ j % 3 = 1 ∨ j % 3 = 2 := by omega
  rcases this with e | e | e <;> simp [h, e]
/-- So many zeros, three by three. -/
def zeros3 (m : Nat) : Array Value := madeCells #[.int .i64 0, .int .i64 0, .int .i64 0] m
theorem make_slacks (n : Nat) (hn : n ≤ 1000) (W : World) : (Instr.makeSlice 133 (.int .i64 n) (.int .i64 n)).run Try.prog W = .ok (.slice (some ⟨W.heap.size, 0, none⟩) n n) (W.alloc (.cells (zeros3 (n * 3)) 140)) := by
  have hi2 : (Try.prog.info? 140).map (fun i => (i.zero, i.size, i.bytes)) = some (some (.agg #[.int .i64 0, .int .i64 0, .int .i64 0]), 3, 24) := by kernel_rfl
  obtain ⟨i, hi, e⟩ := Option.map_eq_some_iff.1 hi2
  simp only [Prod.mk.injEq] at e
  obtain ⟨e1, e2, e3⟩ := e
  have hr := run_make (P := Try.prog) W 133 140 i _ (by kernel_rfl) hi e1 .i64 .i64 n n (by omega) (by omega) (by rw [e3]; omega) (by omega)
  rw [e2] at hr
  simpa [zeros3, Value.cells] using hr
/-- A row of n slacks, the first k of which are done. -/
structure MadeS (w : World) (g n k : Nat) (f : Nat → Sk) : Prop where
  put : ∀ i, i < k → SkAt w g (i * 3) (f i)
  old : ∀ j, j < n * 3 → ∃ x, w.cell? ⟨g, j, none⟩ = some x
  fz : ∀ j, w.frozen? ⟨g, j, none⟩ = false
  lt : g < w.heap.size
theorem MadeS.later {w w1 : World} {g n k : Nat} {f : Nat → Sk} (h : MadeS w g n k f) (hb : Below w.heap.size w w1) : MadeS w1 g n k f :=
  ⟨fun i hi => SkAt.later (h.put i hi) hb, fun j hj => (h.old j hj).imp fun _ e => cell_later hb e, fun j => by rw [(bcell hb).2 _ _ h.lt]; exact h.fz j, by have := h.lt; have := hb.size; omega⟩
theorem MadeS.start (w : World) (n : Nat) (f : Nat → Sk) : MadeS (w.alloc (.cells (zeros3 (n * 3)) 140)) w.heap.size n 0 f :=
  ⟨fun i hi => by omega, fun j hj => ⟨_, by rw [World.cell?_alloc_at _ _ _ _ rfl]; exact zeros3_get hj⟩, fun j => World.frozen?_alloc_at _ _ _ _ rfl, by simp⟩
/-- Three cells stored. -/
def set3 (w : World) (g o : Nat) (l : Sk) : World := ((w.setCell ⟨g, o, none⟩ (.int .i64 l.a)).setCell ⟨g, o + 1, none⟩ (.int .i64 l.b)).setCell ⟨g, o + 2, none⟩ (.int .i64 l.m)
theorem set3_far (w : World) (g o : Nat) (l : Sk) {j : Nat} (h0 : j ≠ o) (h1 : j ≠ o + 1) (h2 : j ≠ o + 2) : (set3 w g o l).cell? ⟨g, j, none⟩ = w.cell? ⟨g, j, none⟩ := by
  unfold set3
  rw [World.cell?_setCell_other _ _ _ _ (ne_off (Ne.symm h2)), World.cell?_setCell_other _ _ _ _ (ne_off (Ne.symm h1)), World.cell?_setCell_other _ _ _ _ (ne_off (Ne.symm h0))]
theorem set3_at {w : World} {g o : Nat} {x0 x1 x2 : Value} (l : Sk) (h0 : w.cell? ⟨g, o, none⟩ = some x0) (h1 : w.cell? ⟨g, o + 1, none⟩ = some x1) (h2 : w.cell? ⟨g, o + 2, none⟩ = some x2) : SkAt (set3 w g o l) g o l := by
  unfold set3
  refine ⟨?_, ?_, ?_⟩
  · rw [World.cell?_setCell_other _ _ _ _ (ne_off (by omega)), World.cell?_setCell_other _ _ _ _ (ne_off (by omega))]
    exact World.cell?_setCell_same _ _ _ h0
  · rw [World.cell?_setCell_other _ _ _ _ (ne_off (by omega))]
    exact World.cell?_setCell_same _ _ _ (by rw [World.cell?_setCell_other _ _ _ _ (ne_off (by omega))]; exact h1)
  · exact World.cell?_setCell_same _ _ _ (by rw [World.cell?_setCell_other _ _ _ _ (ne_off (by omega)), World.cell?_setCell_other _ _ _ _ (ne_off (by omega))]; exact h2)
theorem MadeS.store {w : World} {g n k : Nat} {f : Nat → Sk} (h : MadeS w g n k f) (hk : k < n) : MadeS (set3 w g (k * 3) (f k)) g n (k + 1) f := by
  obtain ⟨x0, e0⟩ := h.old (k * 3) (by omega)
  obtain ⟨x1, e1⟩ := h.old (k * 3 + 1) (by omega)
  obtain ⟨x2, e2⟩ := h.old (k * 3 + 2) (by omega)
  have hat := set3_at (f k) e0 e1 e2
  refine ⟨fun i hi => ?_, fun j hj => ?_, fun j => by unfold set3; simp [h.fz], by unfold set3; simpa using h.lt⟩
  · by_cases e : i = k
    · subst e; exact hat
    · have k0 := h.put i (by omega)
      exact ⟨by rw [set3_far _ _ _ _ (by omega) (by omega) (by omega)]; exact k0.c0, by rw [set3_far _ _ _ _ (by omega) (by omega) (by omega)]; exact k0.c1,
        by rw [set3_far _ _ _ _ (by omega) (by omega) (by omega)]; exact k0.c2⟩
  · by_cases e : j = k * 3 ∨ j = k * 3 + 1 ∨ j = k * 3 + 2
    · rcases e with rfl | rfl | rfl
      · exact ⟨_, hat.c0⟩
      · exact ⟨_, hat.c1⟩
      · exact ⟨_, hat.c2⟩
    · rw [set3_far _ _ _ _ (by omega) (by omega) (by omega)]
      exact h.old j hj
theorem MadeS.store3 {w : World} {g n k : Nat} {f : Nat → Sk} (a b m : Int) (h : MadeS w g n k f) (hk : k < n) (hl : f k = ⟨a, b, m⟩) :
    MadeS (((w.setCell ⟨g, k * 3, none⟩ (.int .i64 a)).setCell ⟨g, k * 3 + 1, none⟩ (.int .i64 b)).setCell ⟨g, k * 3 + 2, none⟩ (.int .i64 m)) g n (k + 1) f := by
  have := h.store hk
  rw [hl] at this
  exact this
theorem MadeS.done {w : World} {g : Nat} {F : Li → Sk} {ls : List Li} (h : MadeS w g ls.length ls.length (fun i => F (ls.getD i default))) (hl : ls.length ≤ 1000) : SlSk w (.slice (some ⟨g, 0, none⟩) ls.length ls.length) (ls.map F) := by
  refine .inr ⟨g, 0, ls.length, by rw [List.length_map], by rw [List.length_map]; omega, by rw [List.length_map]; omega, h.lt, fun i c e => ?_⟩
  have hi : i < ls.length := by have := (List.getElem?_eq_some_iff.1 e).1; simpa using this
  have hc : c = F (ls.getD i default) := by
    rw [List.getElem?_map, List.getElem?_eq_getElem hi] at e
    rw [List.getD_eq_getElem?_getD, List.getElem?_eq_getElem hi]
    simpa using e.symm
  subst hc
  rw [Nat.zero_add]
  exact h.put i hi
/-- What loads leave of a limit. -/
def slackE (ls : List Ld) (x : Li) : Sk := ⟨x.a, x.b, x.c - mostL x.a x.b ls⟩
def SkHead (ls : List Ld) (ms : List Li) (w wr : World) (v : Value) : Prop := ∃ k : Nat, k ≤ ms.length ∧ v = .int .i64 k ∧ MadeS wr w.heap.size ms.length k (fun i => slackE ls (ms.getD i default)) ∧ Below w.heap.size w wr
set_option linter.unusedSimpArgs false in
set_option maxRecDepth 100000 in
set_option maxHeartbeats 8000000 in
theorem slacks_any (v u : Value) (ls : List Ld) (ms : List Li) (w : World) (hv : SlLd w v ls) (hu : SlLi w u ms) (h50 : ls.length ≤ 50) (h12 : ms.length ≤ 1000) (hl : ∀ l, l ∈ ls → LdB l) (hm : ms.all Li.ok = true) :
    Calls Try.prog 83 #[v, u] w fun e w' => ∃ r, e = .returned r ∧ SlSk w' r (ms.map (slackE ls)) ∧ Below w.heap.size w w' := by
  obtain ⟨ad, cap, rfl, hlen, hcap⟩ := hu.form
  have HV := Lib.hid hv
  have HU := Lib.hid hu
  have HL := Lib.hid hl
  have HMo := Lib.hid hm
  clear hv hu hl hm
  have hmk := make_slacks ms.length h12
  go_enter Try.func83, Try.ntmps83
  go_wp2_with fail
  go_loopw [14] (fun v14 wr => SkHead ls ms w wr v14) (fun v14 _ => ms.length - (intOf v14).toNat)
  case atStart => exact ⟨0, by omega, rfl, MadeS.start _ _ _, by go_grown⟩
  case round =>
    obtain ⟨k, hk, rfl, hmd, hbr⟩ := hrel
    have HM := Lib.hid hmd
    clear hmd hmk
    by_cases hlt : k < ms.length
    rotate_left 1
    · have hkk : k = ms.length := by omega
      have HK := Lib.hid hkk
      clear hkk
      go_wp2_with fail
      go_returns
      exact ⟨_, rfl, MadeS.done (by have := HM.out; rw [HK.out] at this; exact this) (by omega), hbr⟩
    obtain ⟨bk, off, x, rfl, hb, hc, hat⟩ := HU.out.at hlt
    obtain ⟨c0, c1, c2⟩ := LiAt.later hat (show Below w.heap.size w wr from hbr)
    have hlt' : (k : Int) < (ms.length : Int) := by omega
    have hk0 : (0 : Int) ≤ (k : Int) := by omega
    obtain ⟨hs, hx0, hx1⟩ := limits_ok HMo.out (List.mem_of_getElem? hc)
    have hmb := mostL_bound (ls := ls) hs HL.out h50
    have HS := Lib.hid hs
    have HD := Lib.hid (show ms.getD k default = x by rw [List.getD_eq_getElem?_getD, hc]; rfl)
    have hsz := hbr.size
    obtain ⟨M, hM⟩ : ∃ M, mostL x.a x.b ls = M := ⟨_, rfl⟩
    rw [hM] at hmb
    obtain ⟨m0, m1⟩ := hmb
    have HMM := Lib.hid hM
    have HSl := Lib.hid (show slackE ls (ms.getD k default) = ⟨x.a, x.b, x.c - M⟩ by rw [HD.out]; unfold slackE; rw [hM])
    clear hc hat hM hs
    go_wp2_with fail
    refine (scaleOf_any x _).mono ?_
    rintro e w1 ⟨rfl, hb1⟩
    have hb11 : Below wr.heap.size wr w1 := two (W := wr) (by go_grown) hb1
    have K1 := Lib.hid (show Three w1 wr.heap.size x.a x.b x.c from Three.later ⟨by go_cell, by go_cell, by go_cell⟩ hb1)
    replace HM := Lib.hid (HM.out.later hb11)
    have hB1 := hbr.trans (hb11.mono hbr.size)
    clear hb1 hb11 c0 c1 c2
    have hs1 : wr.heap.size < w1.heap.size := World.block_lt_of_cell? _ _ K1.out.c0
    go_wp2_with fail
    obtain ⟨W, hW⟩ : ∃ W, w1.alloc (.cells #[.int .i64 x.a, .int .i64 x.b] 117) = W := ⟨_, rfl⟩
    have K2 := Lib.hid (show Two2 W w1.heap.size x.a x.b by subst hW; exact ⟨by go_cell, by go_cell⟩)
    have hbW : Below w1.heap.size w1 W := by subst hW; go_grown
    replace K1 := Lib.hid (K1.out.later hbW)
    replace HM := Lib.hid (HM.out.later hbW)
    have hBW := hB1.trans (hbW.mono hB1.size)
    have HVW := Lib.hid (ldLater HV.out hBW)
    rw [hW]
    clear hW hbW hB1
    have hA : Below W.heap.size W W.drew := below_drewN (Below.refl _ _) 1
    refine AnyV.start (Two 11 (fun w' => Below W.heap.size W w') 11 (fun _ => True)) 12 #[false, false, false, false, false, false, false, false, false, false, false, false] (by kernel_rfl) (by kernel_rfl) (by kernel_rfl) (fun _ => ⟨fun _ => hA, fun _ => trivial⟩) (fun _ => ?_)
    generalize World.drew W = wd at hA ⊢
    refine AnyV.take 11 12 (i := 0) (oi := _) (v := ?_) rfl (by kernel_rfl) (by kernel_rfl) (by kernel_rfl) (by kernel_rfl) (by kernel_rfl) (fun _ _ _ h => h) (Two.other (by decide)) (Or.inl ⟨by kernel_rfl, ?_⟩) (Two.till (fun _ => hA) (fun _ => trivial)) (fun _ => ?_)
    rotate_left 1
    · intro wz hSw'; have hSw := hSw'.1 rfl; clear hSw'; skip; go_simp; try with_reducible rfl
    try simp only [Act.put, List.setIfInBounds_toArray, List.set_cons_zero, List.set_cons_succ]
    refine AnyV.take 11 12 (i := 1) (oi := _) (v := ?_) rfl (by kernel_rfl) (by kernel_rfl) (by kernel_rfl) (by kernel_rfl) (by kernel_rfl) (fun _ _ _ h => h) (Two.other (by decide)) (Or.inl ⟨by kernel_rfl, ?_⟩) (Two.till (fun _ => hA) (fun _ => trivial)) (fun _ => ?_)
    rotate_left 1
    · intro wz hSw'; have hSw := hSw'.1 rfl; clear hSw'; skip; go_simp; try with_reducible rfl
    try simp only [Act.put, List.setIfInBounds_toArray, List.set_cons_zero, List.set_cons_succ]
    refine AnyV.take 11 12 (i := 2) (oi := _) (v := ?_) rfl (by kernel_rfl) (by kernel_rfl) (by kernel_rfl) (by kernel_rfl) (by kernel_rfl) (fun _ _ _ h => h) (Two.other (by decide)) (Or.inl ⟨by kernel_rfl, ?_⟩) (Two.till (fun _ => hA) (fun _ => trivial)) (fun _ => ?_)
    rotate_left 1
    · intro wz hSw'; have hSw := hSw'.1 rfl; clear hSw'; (have h1 := (K2.out.later hSw).c0; have h2 := (K2.out.later hSw).c1); go_simp; try with_reducible rfl
    try simp only [Act.put, List.setIfInBounds_toArray, List.set_cons_zero, List.set_cons_succ]
    refine AnyV.take 11 12 (i := 3) (oi := _) (v := ?_) rfl (by kernel_rfl) (by kernel_rfl) (by kernel_rfl) (by kernel_rfl) (by kernel_rfl) (fun _ _ _ h => h) (Two.other (by decide)) (Or.inl ⟨by kernel_rfl, ?_⟩) (Two.till (fun _ => hA) (fun _ => trivial)) (fun _ => ?_)
    rotate_left 1
    · intro wz hSw'; have hSw := hSw'.1 rfl; clear hSw'; skip; go_simp; try with_reducible rfl
    try simp only [Act.put, List.setIfInBounds_toArray, List.set_cons_zero, List.set_cons_succ]
    refine AnyV.take 11 12 (i := 4) (oi := _) (v := ?_) rfl (by kernel_rfl) (by kernel_rfl) (by kernel_rfl) (by kernel_rfl) (by kernel_rfl) (fun _ _ _ h => h) (Two.other (by decide)) (Or.inl ⟨by kernel_rfl, ?_⟩) (Two.till (fun _ => hA) (fun _ => trivial)) (fun _ => ?_)
    rotate_left 1
    · intro wz hSw'; have hSw := hSw'.1 rfl; clear hSw'; have h1 := (K1.out.later hSw).c2; go_simp; try with_reducible rfl
    try simp only [Act.put, List.setIfInBounds_toArray, List.set_cons_zero, List.set_cons_succ]
    refine AnyV.take 11 12 (i := 5) (oi := _) (v := ?_) rfl (by kernel_rfl) (by kernel_rfl) (by kernel_rfl) (by kernel_rfl) (by kernel_rfl) (fun _ _ _ h => h) (Two.other (by decide)) (Or.inl ⟨by kernel_rfl, ?_⟩) (Two.till (fun _ => hA) (fun _ => trivial)) (fun _ => ?_)
    rotate_left 1
    · intro wz hSw'; have hSw := hSw'.1 rfl; clear hSw'; (have h1 := (K2.out.later hSw).c0; have h2 := (K2.out.later hSw).c1); go_simp; try with_reducible rfl
    try simp only [Act.put, List.setIfInBounds_toArray, List.set_cons_zero, List.set_cons_succ]
    refine AnyV.take 11 12 (i := 6) (oi := _) (v := ?_) rfl (by kernel_rfl) (by kernel_rfl) (by kernel_rfl) (by kernel_rfl) (by kernel_rfl) (fun _ _ _ h => h) (Two.other (by decide)) (Or.inl ⟨by kernel_rfl, ?_⟩) (Two.till (fun _ => hA) (fun _ => trivial)) (fun _ => ?_)
    rotate_left 1
    · intro wz hSw'; have hSw := hSw'.1 rfl; clear hSw'; skip; go_simp; try with_reducible rfl
    try simp only [Act.put, List.setIfInBounds_toArray, List.set_cons_zero, List.set_cons_succ]
    refine AnyV.one (i := 7) (o := _) rfl (by kernel_rfl) (fun K hK => ?_)
    go_simp
    refine (most_any x.a x.b v ls _ (ldLater HVW.out hA) h50 HS.out HL.out).mono ?_
    rintro e w6 ⟨rfl, hb6⟩
    rw [HMM.out]
    replace hA := two hA hb6
    clear hb6
    go_wp2_with fail
    refine hK.out _ _ (Two.till (fun _ => hA) (fun _ => trivial)) ?_
    clear hK K
    try simp only [Act.put, List.setIfInBounds_toArray, List.set_cons_zero, List.set_cons_succ]
    refine AnyV.one (i := 8) (o := _) rfl (by kernel_rfl) (fun K hK => ?_)
    go_simp
    refine hK.out _ _ (Two.till (fun _ => hA) (fun _ => trivial)) ?_
    clear hK K
    try simp only [Act.put, List.setIfInBounds_toArray, List.set_cons_zero, List.set_cons_succ]
    refine AnyV.one (i := 9) (o := _) rfl (by kernel_rfl) (fun K hK => ?_)
    go_simp
    refine hK.out _ _ (Two.till (fun _ => hA) (fun _ => trivial)) ?_
    clear hK K
    try simp only [Act.put, List.setIfInBounds_toArray, List.set_cons_zero, List.set_cons_succ]
    refine AnyV.one (i := 10) (o := _) rfl (by kernel_rfl) (fun K hK => ?_)
    go_simp
    refine hK.out _ _ (Two.till (fun _ => hA) (fun _ => trivial)) ?_
    clear hK K
    try simp only [Act.put, List.setIfInBounds_toArray, List.set_cons_zero, List.set_cons_succ]
    have HM6 := Lib.hid (HM.out.later hA)
    have f0 := HM6.out.fz (k * 3)
    have f1 := HM6.out.fz (k * 3 + 1)
    have f2 := HM6.out.fz (k * 3 + 2)
    obtain ⟨q0, e0⟩ := HM6.out.old (k * 3) (by omega)
    obtain ⟨q1, e1⟩ := HM6.out.old (k * 3 + 1) (by omega)
    obtain ⟨q2, e2⟩ := HM6.out.old (k * 3 + 2) (by omega)
    have hB6 := hBW.trans (hA.mono hBW.size)
    have hz6 := hB6.size
    refine AnyV.one (i := 11) (o := _) rfl (by kernel_rfl) (fun K hK => ?_)
    go_simp
    refine hK.out _ _ (Two.till (fun h => absurd h (by decide)) (fun _ => trivial)) ?_
    clear hK K
    refine AnyV.done (by kernel_rfl) ?_
    try simp only [Act.put, List.setIfInBounds_toArray, List.set_cons_zero, List.set_cons_succ]
    go_wp2_with fail
    go_roundw
    case rel => exact ⟨k + 1, by omega, by go_num, MadeS.store3 x.a x.b (x.c - M) HM6.out hlt HSl.out, by go_grown⟩
    case measure => simp [intOf]; omega
end Go.Proofs.Ytldnpnplgfkebaa
