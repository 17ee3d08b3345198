/- Package trim: Drop. -/
import Derived.RangeFuncCalls
import Derived.RangeFuncLeaves
import Derived.Test.YtldnpnplgfkebaaTIter2
namespace Go.Proofs.Ytldnpnplgfkebaa
open Go.RowKit

attribute [local go_sem] Oper.semAt_some

/-- A function's contract from its body, where the body holds a range over a function. -/
theorem calls_of_wp_marks {P : Program} {f : FuncId} {fn : Func} {c : Code} {args : Array Value} {w : World} {R : Ending → World → Prop} (hf : P.funcs[f]? = some fn) (hb : fn.body = some c)
    (h : c.wp P (bodyPostM Fence.wide 0 P fn R) { tmps := args ++ Array.replicate (fn.ntmps - args.size) undef, defers := [] } w) : Calls P f args w R :=
  callsIn_wide.1 (callsIn_of_wp_marks hf hb trivial (wpIn_wide.2 h) rfl)
theorem handH_turn (x : Nat × List Int) (A : World) (l : Nat) (o o' : Obj) (h : HandH x A) (hl : A.heap[l]? = some o) (ho : o.isCells = false) : HandH x (A.putObj l o') :=
  ⟨fun i z e => cell_kept (h.1 i z e) (grownBy_putObj' A l o') (fun r e => by cases e; exact ⟨o, hl, ho⟩), by simpa using h.2.1, h.2.2⟩
theorem HandH.sl {x : Nat × List Int} {w : World} (h : HandH x w) : SlI w (.slice (some ⟨x.1, 0, none⟩) x.2.length x.2.length) x.2 := by
  refine .inr ⟨x.1, 0, x.2.length, rfl, Nat.le_refl _, by have := h.2.2; omega, h.2.1, fun i z e => ?_⟩
  have := h.1 i z e
  unfold IntAt
  rw [Nat.mul_one]
  exact this
theorem keeps_below {A B : World} (h : Below A.heap.size A B) : KeepsOthers A B := ⟨h.size, fun k _ hk _ => (h.block k (Array.getElem?_eq_some_iff.1 hk).1).trans hk⟩
theorem okS_sk (ls : List Ld) (ps : List Pu) (ms : List Li) (zs : List Int) : okS ls ps ms zs = (ms.map (slackE ls)).all fun s => decide (sumE (valE s.a s.b) (keptP zs 0 ps) ≤ s.m) := by
  unfold okS
  rw [List.all_map]
  rfl
/-- A copy of a row of numbers lies in a new block. -/
theorem cloneG_any (g o c : Nat) (zs : List Int) (w : World) (hz : RowI w g o zs) (hn : zs.length ≤ 1000) :
    Calls Try.prog 87 #[.slice (some ⟨g, o, none⟩) zs.length c] w fun e w' => ∃ g' c', e = .returned (.slice (some ⟨g', 0, none⟩) zs.length c') ∧ w.heap.size ≤ g' ∧ SlI w' (.slice (some ⟨g', 0, none⟩) zs.length c') zs ∧ Below w.heap.size w w' := by
  refine (Try.slices_Clone_int g o zs.length c zs w (Nat.le_refl _) (by omega) (fun j hj => ?_)).mono fun e w' ⟨v, h1, h2, h3, h4⟩ => ?_
  · have := hz j zs[j] (List.getElem?_eq_getElem hj)
    rw [this, List.getD_eq_getElem?_getD, List.getElem?_eq_getElem hj]
    rfl
  · rw [List.take_length] at h2
    obtain ⟨_, ⟨h5, _⟩ | ⟨g', c', cur, rfl, h6, _⟩⟩ := id h2
    · exact absurd h5 h3
    · exact ⟨g', c', h1, h6, SlI.of (B := w.heap.size) (e := 3) h2 (by omega), h4⟩
theorem slI_set {w : World} {g c : Nat} {zs : List Int} {p : Addr} {x : Value} (h : SlI w (.slice (some ⟨g, 0, none⟩) zs.length c) zs) (hp : g ≠ p.block) : SlI (w.setCell p x) (.slice (some ⟨g, 0, none⟩) zs.length c) zs := by
  rcases h with ⟨_, h1⟩ | ⟨b, off, cap, h1, h2, h3, h4, h5⟩
  · cases h1
  · cases h1
    refine .inr ⟨g, 0, c, rfl, h2, h3, by simpa using h4, fun i z e => ?_⟩
    have := h5 i z e
    unfold IntAt at this ⊢
    rw [World.cell?_setCell_other _ _ _ _ (fun e => hp (by have := congrArg Addr.block e; first | exact this.symm | exact this))]
    exact this
/-- What the loop over the sets leaves: nothing that lay has changed, and no set that has come will do. -/
def DrI (ls : List Ld) (ps : List Pu) (ms : List Li) (wl : World) (xs : List (Nat × List Int)) (W : World) : Prop := Below wl.heap.size wl W ∧ ∀ x, x ∈ xs → okS ls ps ms x.2 = false
/-- A round has left with a set that will do. -/
def DrX (ls : List Ld) (ps : List Pu) (ms : List Li) (B0 : Nat) (w : World) (c : Code) (xs : List (Nat × List Int)) (W : World) : Prop :=
  c = .ret ∧ (∃ (pre : List (Nat × List Int)) (x : Nat × List Int) (v : Value), xs = pre ++ [x] ∧ (∀ y, y ∈ pre → okS ls ps ms y.2 = false) ∧ okS ls ps ms x.2 = true ∧ W.cell? ⟨B0 + 1, 0, none⟩ = some v ∧ SlI W v x.2) ∧ W.cell? ⟨B0 + 1 + 1, 0, none⟩ = some (.int .i64 0) ∧ Below w.heap.size w W
theorem slI_turn {A : World} {v : Value} {zs : List Int} {l : Nat} {o : Obj} (o' : Obj) (h : SlI A v zs) (hl : A.heap[l]? = some o) (ho : o.isCells = false) : SlI (A.putObj l o') v zs := by
  rcases h with h | ⟨b, off, cap, h1, h2, h3, h4, h5⟩
  · exact .inl h
  · exact .inr ⟨b, off, cap, h1, h2, h3, by simpa using h4, fun i z e => cell_kept (h5 i z e) (grownBy_putObj' A l o') (fun r e => by cases e; exact ⟨o, hl, ho⟩)⟩
theorem below_turn {A : World} {n l : Nat} {o : Obj} (o' : Obj) (hn : n ≤ l) (hl : A.heap[l]? = some o) : Below n A (A.putObj l o') :=
  (Below.refl n A).grown (grownBy_putObj' A l o') (by have := (Array.getElem?_eq_some_iff.1 hl).1; omega) (fun k e => by cases e; omega)
theorem drop_none_of {ls : List Ld} {ps : List Pu} {ms : List Li} {xs : List (Nat × List Int)} (hS : HandS ps.length xs) (hno : ∀ x, x ∈ xs → okS ls ps ms x.2 = false) : dropE ls ps ms = none := by
  unfold dropE
  rw [← (show xs.map Prod.snd = setsN ps.length from hS)]
  refine List.find?_eq_none.2 fun zs hz => ?_
  obtain ⟨x, h1, rfl⟩ := List.mem_map.1 hz
  rw [hno x h1]
  decide
theorem drop_some_of {ls : List Ld} {ps : List Pu} {ms : List Li} {pre : List (Nat × List Int)} {x : Nat × List Int} (hS : HandSp ps.length (pre ++ [x])) (hno : ∀ y, y ∈ pre → okS ls ps ms y.2 = false) (hok : okS ls ps ms x.2 = true) : dropE ls ps ms = some x.2 := by
  unfold dropE
  obtain ⟨rest, hr⟩ := hS
  refine List.find?_eq_some_iff_append.2 ⟨hok, pre.map Prod.snd, rest, by rw [← hr]; simp, fun zs hz => ?_⟩
  obtain ⟨y, h1, rfl⟩ := List.mem_map.1 hz
  rw [hno y h1]
  rfl
def LoHead (ls : List Ld) (ps : List Pu) (ms : List Li) (zs : List Int) (w wr : World) (v : Value) : Prop := ∃ k : Nat, k ≤ ms.length ∧ v = .int .i64 k ∧ okS ls ps ms zs = ((ms.map (slackE ls)).drop k).all (fun s => decide (sumE (valE s.a s.b) (keptP zs 0 ps) ≤ s.m)) ∧ Below w.heap.size w wr
structure DBox (w : World) (b : Nat) (x y z : Value) : Prop where
  c0 : w.cell? ⟨b, 0, none⟩ = some x
  c1 : w.cell? ⟨b + 1, 0, none⟩ = some y
  c2 : w.cell? ⟨b + 1 + 1, 0, none⟩ = some z
  f1 : w.frozen? ⟨b + 1, 0, none⟩ = false
  f2 : w.frozen? ⟨b + 1 + 1, 0, none⟩ = false
theorem DBox.later {w w1 : World} {b : Nat} {x y z : Value} (h : DBox w b x y z) (hb : Below w.heap.size w w1) : DBox w1 b x y z :=
  ⟨cell_later hb h.c0, cell_later hb h.c1, cell_later hb h.c2, by rw [(bcell hb).2 _ _ (World.block_lt_of_cell? _ _ h.c1)]; exact h.f1, by rw [(bcell hb).2 _ _ (World.block_lt_of_cell? _ _ h.c2)]; exact h.f2⟩
set_option linter.unusedSimpArgs false in
set_option maxRecDepth 100000 in
set_option maxHeartbeats 8000000 in
theorem drop_any (v q u : Value) (ls : List Ld) (ps : List Pu) (ms : List Li) (w : World) (hv : SlLd w v ls) (hq : SlPu w q ps) (hu : SlLi w u ms) :
    Calls Try.prog 39 #[v, q, u] w (DropP ls ps ms w) := by
  obtain ⟨ad, cap, rfl, hlen, hcap⟩ := hq.form
  have HV := Lib.hid hv
  have HU := Lib.hid hu
  have HQ := Lib.hid hq
  obtain ⟨n, hn⟩ : ∃ n, bagsN ls ps ms = n := ⟨_, rfl⟩
  have HN := Lib.hid hn
  clear hv hu hq
  by_cases h0 : n = 0
  rotate_left 1
  · clear hn
    go_enter Try.func39, Try.ntmps39
    go_wp2_with fail
    apply wp_scope_straight
    go_wp2_with fail
    refine (checkBags_any v _ u ls ps ms _ (ldLater HV.out (by go_grown)) (puLater HQ.out (by go_grown)) (liLater HU.out (by go_grown))).mono ?_
    rintro e w1 ⟨rfl, hb1⟩
    rw [HN.out]
    have hB1 : Below w.heap.size w w1 := (after (w := w) (by go_grown) hb1).1
    obtain ⟨c0, c1, c2, f1, f2⟩ := show DBox w1 w.heap.size (.slice ad ps.length cap) (.slice none 0 0) (.int .i64 0) from DBox.later ⟨by go_cell, by go_cell, by go_cell, by go_cell, by go_cell⟩ hb1
    clear hb1
    go_wp2_with fail
    simp only [Exit.noGoto]
    refine bodyPost_ret (v := .tuple #[.slice none 0 0, .int .i64 n]) (by simp [results, Try.results39, go_sem, *]) rfl (.inl ⟨by rw [HN.out]; exact h0, by rw [HN.out], by go_grown⟩)
  subst h0
  obtain ⟨hboth, h40, h10, hpok⟩ := bagsN_ok hn
  obtain ⟨hl40, hok, h12, hmok⟩ := bothN_ok hboth
  have HL := Lib.hid (loads_bound hok)
  have HMo := Lib.hid hmok
  have HP := Lib.hid (show ∀ p, p ∈ ps → PuB p from fun p hp => Pu.bound (List.all_eq_true.1 hpok p hp))
  clear hok hmok hpok hn hboth
  refine calls_of_wp_marks Try.func39 rfl ?_
  simp only [Try.ntmps39, List.size_toArray, List.length_cons, List.length_nil, Nat.reduceAdd, Nat.reduceSub, Array.replicate_succ, Array.replicate_zero, List.push_toArray, List.append_toArray, List.nil_append, List.cons_append]
  go_wp2_with fail
  apply wp_scope_straight
  go_wp2_with fail
  refine (checkBags_any v _ u ls ps ms _ (ldLater HV.out (by go_grown)) (puLater HQ.out (by go_grown)) (liLater HU.out (by go_grown))).mono ?_
  rintro e w1 ⟨rfl, hb1⟩
  rw [HN.out]
  have hB1 : Below w.heap.size w w1 := (after (w := w) (by go_grown) hb1).1
  have R1 := Lib.hid (show DBox w1 w.heap.size (.slice ad ps.length cap) (.slice none 0 0) (.int .i64 0) from DBox.later ⟨by go_cell, by go_cell, by go_cell, by go_cell, by go_cell⟩ hb1)
  clear hb1
  go_wp2_with fail
  refine (slacks_any v u ls ms _ (ldLater HV.out hB1) (liLater HU.out hB1) (by omega) (by omega) HL.out HMo.out).mono ?_
  rintro e w2 ⟨sv, rfl, hsk, hb2⟩
  have hB2 := two hB1 hb2
  have R2 := Lib.hid (R1.out.later hb2)
  obtain ⟨as', caps, rfl, hls, hcs⟩ := hsk.form
  have HK := Lib.hid hsk
  clear hsk hb2 hB1 R1
  go_wp2_with fail
  obtain ⟨W3, hW⟩ : ∃ W, w2.alloc (.cells #[.slice as' (ms.map (slackE ls)).length caps] 133) = W := ⟨_, rfl⟩
  have hb3 : Below w2.heap.size w2 W3 := by subst hW; go_grown
  have S3 := Lib.hid (show W3.cell? ⟨w2.heap.size, 0, none⟩ = some (.slice as' (ms.map (slackE ls)).length caps) by subst hW; go_cell)
  have R3 := Lib.hid (R2.out.later hb3)
  have HK3 := Lib.hid (skLater HK.out hb3)
  have hB3 := two hB2 hb3
  rw [List.length_map] at hW
  rw [hW]
  clear hW hb3 R2 HK
  have c0 := R3.out.c0
  apply wp_label
  go_wp2_with fail
  refine (subsets_any _ _).mono ?_
  rintro e w4 ⟨rfl, hc4, hb4⟩
  have R4 := Lib.hid (R3.out.later hb4)
  have S4 := Lib.hid (cell_later hb4 S3.out)
  have HK4 := Lib.hid (skLater HK3.out hb4)
  have hB4 := two hB3 hb4
  have C4 := Lib.hid hc4
  have hbx : W3.heap.size < w4.heap.size := World.block_lt_of_cell? _ _ hc4
  clear hc4 hb4 c0 R3 S3 HK3
  rw [List.length_map] at S4
  go_wp2_with fail
  refine (wpIn_wide (n := 0)).1 ?_
  refine range_hands (gf := 117) (lb := #[.pointer (some ⟨W3.heap.size, 0, none⟩)]) rfl (enters_of Try.func117 (by kernel_rfl) rfl) (subsets1_hands W3.heap.size ps.length h10) (fun _ => rfl) handH_turn
    (fun o o' => cell_later (((Below.refl _ w4).alloc (Nat.le_refl _) o).alloc (by simp) o') C4.out) (DrI ls ps ms w4) (DrX ls ps ms w.heap.size w) (fun s A B h hb => ⟨h.1.trans hb, h.2⟩) ?stay ⟨Below.refl _ _, fun x h => by simp at h⟩
    (fun x => { tmps := #[v, .slice ad ps.length cap, u, undef, .pointer (some ⟨w.heap.size, 0, none⟩), undef, .pointer (some ⟨w.heap.size + 1, 0, none⟩), .pointer (some ⟨w.heap.size + 1 + 1, 0, none⟩), .int .i64 0,
      .pointer (some ⟨w2.heap.size, 0, none⟩), .slice (some ⟨x.1, 0, none⟩) x.2.length x.2.length, undef, undef, undef, v, .slice ad ps.length cap, u, .int .i64 0, .int .i64 0, .bool false, undef, v, u, .slice as' ms.length caps,
      .slice ad ps.length cap, .int .i64 ps.length, .func (.func 117) #[] #[.pointer (some ⟨W3.heap.size, 0, none⟩)], .slice (some ⟨x.1, 0, none⟩) x.2.length x.2.length, undef, undef, undef, undef, undef, undef, undef, undef, undef, undef, undef, undef, undef, undef, undef, undef], defers := [] })
    ?assign ?body ?done ?stop
  case stay =>
    rintro c s A l o o' ⟨rfl, ⟨pre, x, v', rfl, k1, k2, k3, k4⟩, k5, k6⟩ hl ho hle
    have hkeep : ∀ {p : Addr} {y : Value}, A.cell? p = some y → (A.putObj l o').cell? p = some y := fun h => cell_kept h (grownBy_putObj' A l o') (fun r e => by cases e; exact ⟨o, hl, ho⟩)
    exact ⟨rfl, ⟨pre, x, v', rfl, k1, k2, hkeep k3, slI_turn o' k4 hl ho⟩, hkeep k5, k6.trans (below_turn o' (by have := hB4.size; omega) hl)⟩
  case assign =>
    intro l x W K hK
    gi_wp2_with fail
    exact hK
  case body =>
    rintro l pre x W ⟨hbw, hno⟩ hh hle
    have HH := Lib.hid hh
    have HNo := Lib.hid hno
    have hBw := hB4.trans (hbw.mono hB4.size)
    have RW := Lib.hid (R4.out.later hbw)
    have SW := Lib.hid (cell_later hbw S4.out)
    have HKW := Lib.hid (skLater HK4.out hbw)
    have HQW := Lib.hid (puLater HQ.out hBw)
    have c0 := RW.out.c0
    clear hh hno
    gi_wp2_with fail
    refine ⟨trivial, rfl, ?_⟩
    refine (CallsIn.inRound l (callsIn_wide.2 (without_any _ _ ps x.2 W HQW.out HH.out.sl (by omega)))).mono ?_
    rintro e w5 ⟨r, rfl, hkp, hb5⟩
    have HKp := Lib.hid hkp
    have S5 := cell_later hb5 SW.out
    have HK5 := Lib.hid (skLater HKW.out hb5)
    have HB5 := Lib.hid hb5
    clear hkp hb5 c0
    gi_wp2_with fail
    gi_loopw [33] (fun v33 wr => LoHead ls ps ms x.2 w5 wr v33) (fun v33 _ => ms.length - (intOf v33).toNat)
    case atStart => exact ⟨0, by omega, rfl, okS_sk ls ps ms x.2, Below.refl _ _⟩
    case round =>
      obtain ⟨k, hk, rfl, he, hbr⟩ := hrel
      have HE := Lib.hid he
      have hk0 : (0 : Int) ≤ (k : Int) := by omega
      clear he S5
      by_cases hlt : k < ms.length
      rotate_left 1
      · have hlt' : ¬ (k : Int) < (ms.length : Int) := by omega
        have HOk := Lib.hid (show okS ls ps ms x.2 = true by rw [HE.out, List.drop_eq_nil_of_le (by rw [List.length_map]; omega)]; rfl)
        have hBr : Below W.heap.size W wr := HB5.out.trans (hbr.mono HB5.out.size)
        gi_wp2_with fail
        refine ⟨trivial, rfl, ?_⟩
        refine (CallsIn.inRound l (callsIn_wide.2 (cloneG_any x.1 0 x.2.length x.2 wr (RowI.later HH.out.1 hBr) (by have := HH.out.2.2; omega)))).mono ?_
        rintro e w6 ⟨g6, c6, rfl, hg6, hs6, hb6⟩
        have hB6 : Below W.heap.size W w6 := two hBr hb6
        have hBf := hBw.trans (hB6.mono hBw.size)
        obtain ⟨-, c1, c2, f1, f2⟩ := DBox.later RW.out hB6
        have hz2 : w.heap.size + 1 + 1 < wr.heap.size := by have h9 : w.heap.size + 1 + 1 < W.heap.size := World.block_lt_of_cell? _ _ RW.out.c2; have := hBr.size; omega
        have hs8 := Lib.hid (slI_set (p := ⟨w.heap.size + 1 + 1, 0, none⟩) (x := .int .i64 0) (slI_set (p := ⟨w.heap.size + 1, 0, none⟩) (x := .slice (some ⟨g6, 0, none⟩) x.2.length c6) hs6 (show g6 ≠ w.heap.size + 1 by omega)) (show g6 ≠ w.heap.size + 1 + 1 by omega))
        have hk6 := Lib.hid (keeps_below hB6)
        clear hs6 hb6 hg6
        gi_wp2_with fail
        refine ⟨hk6.out.trans ((KeepsOthers.setCell _ _ _).trans (KeepsOthers.setCell _ _ _)), rfl, ⟨pre, x, _, rfl, HNo.out, HOk.out, ?_, hs8.out⟩, ?_, (hBf.setCell (p := ⟨w.heap.size + 1, 0, none⟩) (by simp) _).setCell (p := ⟨w.heap.size + 1 + 1, 0, none⟩) (by simp; omega) _⟩
        · rw [World.cell?_setCell_other _ _ _ _ (fun e => by injection e with e1; omega)]
          exact World.cell?_setCell_same _ _ _ c1
        · exact World.cell?_setCell_same _ _ _ (by rw [World.cell?_setCell_other _ _ _ _ (fun e => by injection e with e1; omega)]; exact c2)
      have hlt' : (k : Int) < (ms.length : Int) := by omega
      obtain ⟨bk, off, s, hcs', hb, hc, hat⟩ := HK5.out.at (show k < (ms.map (slackE ls)).length by rw [List.length_map]; exact hlt)
      subst hcs'
      have hsc : ScB s.a s.b := by
        rw [List.getElem?_map] at hc
        obtain ⟨x', h1, h2⟩ := Option.map_eq_some_iff.1 hc
        rw [← h2]
        exact (limits_ok HMo.out (List.mem_of_getElem? h1)).1
      have HSc := Lib.hid hsc
      have HC := Lib.hid hc
      obtain ⟨q0, q1, q2⟩ := SkAt.later hat hbr
      obtain ⟨t, ht⟩ : ∃ t, decide (sumE (valE s.a s.b) (keptP x.2 0 ps) ≤ s.m) = t := ⟨_, rfl⟩
      have HT := Lib.hid ht
      clear ht hc hat hsc
      gi_wp2_with fail
      refine ⟨trivial, rfl, ?_⟩
      refine (CallsIn.inRound l (callsIn_wide.2 (holds_any s.a s.b s.m r (keptP x.2 0 ps) _ (puLater HKp.out (hbr.alloc hbr.size _)) (by have := keptP_len x.2 ps 0; omega) HSc.out (fun p hp => HP.out p (keptP_mem _ _ _ p hp))))).mono ?_
      rintro e w7 ⟨rfl, hb7⟩
      rw [HT.out]
      have hB7 : Below wr.heap.size wr w7 := two (W := wr) (by go_grown) hb7
      have hB57 : Below w5.heap.size w5 w7 := two hbr hB7
      have hBW7 : Below W.heap.size W w7 := two HB5.out hB57
      clear hb7 q0 q1 q2 hB7
      cases t
      · gi_wp2_with fail
        exact ⟨hBW7, two hbw hBW7, fun y hy => by
          rcases List.mem_append.1 hy with h | h
          · exact HNo.out y h
          · rw [List.mem_singleton.1 h, HE.out, drop_some HC.out, List.all_cons, HT.out]
            rfl⟩
      · gi_wp2_with fail
        go_roundw
        case rel => exact ⟨k + 1, by omega, by go_num, by rw [HE.out, drop_some HC.out, List.all_cons, HT.out]; rfl, hB57⟩
        case measure => simp [intOf]; omega
  case done =>
    rintro D xs W hS ⟨hbw, hno⟩ hK hD
    have HD := Lib.hid (drop_none_of hS hno)
    have hBw := hB4.trans (hbw.mono hB4.size)
    obtain ⟨-, c1, c2, f1, f2⟩ := R4.out.later hbw
    have HK' := Lib.hid hK
    have hDw : w.heap.size ≤ D := by have := hB4.size; omega
    clear hS hno hK
    go_wp2_with fail
    simp only [Exit.noGoto]
    obtain ⟨W5, hW5⟩ : ∃ V, (W.setCell ⟨w.heap.size + 1, 0, none⟩ (.slice none 0 0)).setCell ⟨w.heap.size + 1 + 1, 0, none⟩ (.int .i64 6) = V := ⟨_, rfl⟩
    have hk5 : W5.heap[D]? = some (.deferred (some [])) := by
      subst hW5
      exact ((KeepsOthers.setCell _ _ _).trans (KeepsOthers.setCell _ _ _)).same D _ HK'.out rfl
    have e1 : W5.cell? ⟨w.heap.size + 1, 0, none⟩ = some (.slice none 0 0) := by
      subst hW5
      rw [World.cell?_setCell_other _ _ _ _ (fun e => by injection e with e1; omega)]
      exact World.cell?_setCell_same _ _ _ c1
    have e2 : W5.cell? ⟨w.heap.size + 1 + 1, 0, none⟩ = some (.int .i64 6) := by
      subst hW5
      exact World.cell?_setCell_same _ _ _ (by rw [World.cell?_setCell_other _ _ _ _ (fun e => by injection e with e1; omega)]; exact c2)
    have hb5 : Below w.heap.size w W5 := by
      subst hW5
      exact (hBw.setCell (p := ⟨w.heap.size + 1, 0, none⟩) (by simp) _).setCell (p := ⟨w.heap.size + 1 + 1, 0, none⟩) (by simp; omega) _
    rw [hW5]
    have hkeep : ∀ {p : Addr} {y : Value}, W5.cell? p = some y → (W5.putObj D (.deferred none)).cell? p = some y := fun h => cell_kept h (grownBy_putObj' W5 D (.deferred none)) (fun r e => by cases e; exact ⟨_, hk5, rfl⟩)
    refine ⟨by simp, .inl ⟨_, _, rfl, run_takeDeferred hk5, ?_⟩⟩
    refine ⟨.tuple #[.slice none 0 0, .int .i64 6], ?_, .inr (.inl ⟨HN.out, HD.out, rfl, hb5.trans (below_turn _ hDw hk5)⟩)⟩
    simp [results, Try.results39, go_sem, hkeep e1, hkeep e2]
  case stop =>
    rintro D c xs W hSp ⟨rfl, ⟨pre, x, v', rfl, k1, k2, k3, k4⟩, k5, k6⟩ hK hD
    have HD := Lib.hid (drop_some_of hSp k1 k2)
    have HK' := Lib.hid hK
    have hDw : w.heap.size ≤ D := by have := hB4.size; omega
    clear hSp k1 k2 hK
    refine wpIn_wide.2 ?_
    go_wp2_with fail
    simp only [Exit.noGoto]
    have hk5 := HK'.out
    have hkeep : ∀ {p : Addr} {y : Value}, W.cell? p = some y → (W.putObj D (.deferred none)).cell? p = some y := fun h => cell_kept h (grownBy_putObj' W D (.deferred none)) (fun r e => by cases e; exact ⟨_, hk5, rfl⟩)
    refine ⟨by simp, .inl ⟨_, _, rfl, run_takeDeferred hk5, ?_⟩⟩
    refine ⟨.tuple #[v', .int .i64 0], ?_, .inr (.inr ⟨HN.out, x.2, v', HD.out, rfl, slI_turn _ k4 hk5 rfl, k6.trans (below_turn _ hDw hk5)⟩)⟩
    simp [results, Try.results39, go_sem, hkeep k3, hkeep k5]
end Go.Proofs.Ytldnpnplgfkebaa
