/- Package trim: the search for a stowage, in numbers; what it leaves in memory. -/
import Derived.Test.YtldnpnplgfkebaaTRoom
namespace Go.Proofs.Ytldnpnplgfkebaa
open Go.RowKit

/-- The rooms, when a parcel of weight x has come into hold h. -/
def lessF (f : Nat → Int) (h : Nat) (x : Int) : Nat → Int := fun i => if i = h then f h - x else f i
/-- The first stowage that goes on from zs, m parcels being left. -/
def searchE (hs ps : List Pu) (rs : List Li) (sks : List Sk) : Nat → List Int → (Nat → Int) → Option (List Int)
  | 0, zs, _ => if lnB rs ps zs = true then none else if offB hs ps sks zs = true then none else some zs
  | m + 1, zs, f => if lnB rs ps zs = true then none else
    (List.range hs.length).findSome? fun h => if 0 ≤ f h - (ps.getD zs.length default).p then searchE hs ps rs sks m (zs ++ [(h : Int)]) (lessF f h (ps.getD zs.length default).p) else none
theorem search_len (hs ps : List Pu) (rs : List Li) (sks : List Sk) : ∀ (m : Nat) (zs : List Int) (f : Nat → Int) (ys : List Int), searchE hs ps rs sks m zs f = some ys → ys.length = zs.length + m
  | 0, zs, f, ys, h => by
    unfold searchE at h
    split at h
    · cases h
    · split at h
      · cases h
      · cases h; rfl
  | m + 1, zs, f, ys, h => by
    unfold searchE at h
    split at h
    · cases h
    · obtain ⟨x, _, hx⟩ := List.exists_of_findSome?_eq_some h
      split at hx
      · have := search_len hs ps rs sks m _ _ ys hx
        rw [List.length_append] at this
        simp at this
        omega
      · cases hx
/-- From W to W' nothing that was has changed but cells of block bp, from n on. -/
structure Aside (bp n : Nat) (W W' : World) : Prop where
  os : W'.os = W.os
  tape : W'.tape = W.tape
  output : W'.output = W.output
  size : W.heap.size ≤ W'.heap.size
  block : ∀ k, k < W.heap.size → k ≠ bp → W'.heap[k]? = W.heap[k]?
  low : ∀ j, j < n → W'.cell? ⟨bp, j, none⟩ = W.cell? ⟨bp, j, none⟩
  fz : ∀ j, W'.frozen? ⟨bp, j, none⟩ = W.frozen? ⟨bp, j, none⟩
  any : ∀ j x, W.cell? ⟨bp, j, none⟩ = some x → ∃ y, W'.cell? ⟨bp, j, none⟩ = some y
theorem Aside.trans {bp n : Nat} {A B C : World} (h : Aside bp n A B) (k : Aside bp n B C) : Aside bp n A C :=
  ⟨k.os.trans h.os, k.tape.trans h.tape, k.output.trans h.output, Nat.le_trans h.size k.size, fun i hi hne => (k.block i (Nat.lt_of_lt_of_le hi h.size) hne).trans (h.block i hi hne),
    fun j hj => (k.low j hj).trans (h.low j hj), fun j => (k.fz j).trans (h.fz j), fun j x e => by obtain ⟨y, e1⟩ := h.any j x e; exact k.any j y e1⟩
theorem Aside.mono {bp n m : Nat} {A B : World} (h : Aside bp n A B) (hm : m ≤ n) : Aside bp m A B := ⟨h.os, h.tape, h.output, h.size, h.block, fun j hj => h.low j (by omega), h.fz, h.any⟩
theorem Aside.of {bp n : Nat} {A B : World} (h : Below A.heap.size A B) (hb : bp < A.heap.size) : Aside bp n A B :=
  ⟨h.os, h.tape, h.output, h.size, fun k hk _ => h.block k hk, fun j _ => h.cell (p := ⟨bp, j, none⟩) hb, fun _ => (bcell h).2 _ _ hb, fun j x e => ⟨x, (h.cell (p := ⟨bp, j, none⟩) hb).trans e⟩⟩
theorem Aside.store {bp n k : Nat} {A : World} (v : Value) (hk : n ≤ k) : Aside bp n A (A.setCell ⟨bp, k, none⟩ v) :=
  ⟨rfl, rfl, rfl, by simp, fun i _ hne => Below.heap_setCell A ⟨bp, k, none⟩ v i hne, fun j hj => World.cell?_setCell_other _ _ _ _ (ne_off (by omega)), fun j => World.frozen?_setCell .., fun j x e => by
    by_cases e1 : k = j
    · subst e1; exact ⟨v, World.cell?_setCell_same _ _ _ e⟩
    · exact ⟨x, by rw [World.cell?_setCell_other _ _ _ _ (ne_off e1)]; exact e⟩⟩
theorem Aside.cell {bp n : Nat} {A B : World} (h : Aside bp n A B) {b o : Nat} {v : Value} (hc : A.cell? ⟨b, o, none⟩ = some v) (hb : b ≠ bp) : B.cell? ⟨b, o, none⟩ = some v :=
  (World.cell?_of_block (h.block b (World.block_lt_of_cell? _ _ hc) hb)).trans hc
theorem Aside.below {bp n m : Nat} {w A B : World} (h : Aside bp n A B) (hw : Below m w A) (hb : m ≤ bp) (hm : m ≤ A.heap.size) : Below m w B :=
  hw.trans ⟨h.os, h.tape, h.output, h.size, fun k hk => h.block k (by omega) (by omega)⟩
/-- What the search stands on: the lists lie below w0's size; the cargo's box, its own, and the room for six numbers. -/
structure SeI (w0 W : World) (bp bc bs : Nat) (h p r s : Value) : Prop where
  base : Below w0.heap.size w0 W
  cg : CgAt W bc h p r s
  se : W.cell? ⟨bs, 0, none⟩ = some (.func (.func 127) #[] #[.pointer (some ⟨bp, 0, none⟩), .pointer (some ⟨bc, 0, none⟩), .pointer (some ⟨bs, 0, none⟩)])
  room : Room W bp 0 6
theorem SeI.aside {w0 A B : World} {bp bc bs n : Nat} {h p r s : Value} (x : SeI w0 A bp bc bs h p r s) (k : Aside bp n A B) (h0 : w0.heap.size ≤ bp) (hc : bc ≠ bp) (hs : bs ≠ bp) : SeI w0 B bp bc bs h p r s :=
  ⟨k.below x.base h0 x.base.size, ⟨k.cell x.cg.c0 hc, k.cell x.cg.c1 hc, k.cell x.cg.c2 hc, k.cell x.cg.c3 hc⟩, k.cell x.se hs,
    ⟨fun j hj => by obtain ⟨y, e⟩ := x.room.old j hj; exact k.any _ y e, fun j => by rw [k.fz]; exact x.room.fz j, Nat.lt_of_lt_of_le x.room.lt k.size⟩⟩
/-- What the search does. -/
def SeP (hs ps : List Pu) (rs : List Li) (sks : List Sk) (m : Nat) (zs : List Int) (f : Nat → Int) (bp : Nat) (W : World) (e : Ending) (W' : World) : Prop :=
  Aside bp zs.length W W' ∧ ((searchE hs ps rs sks m zs f = none ∧ e = .returned (.bool false)) ∨ ∃ ys, searchE hs ps rs sks m zs f = some ys ∧ e = .returned (.bool true) ∧ RowI W' bp 0 ys)
end Go.Proofs.Ytldnpnplgfkebaa
/- Package trim: the search for a stowage. -/
namespace Go.Proofs.Ytldnpnplgfkebaa
open Go.RowKit

theorem slice_place (g n : Nat) (hn : n ≤ 6) (w : World) : (Instr.sliceAt 183 (.pointer (some ⟨g, 0, none⟩)) none (some (.int .i64 n)) none).run Try.prog w = .ok (.slice (some ⟨g, 0, none⟩) n 6) w := by
  have ht : Try.prog.underlying 183 = some (.array 6 3) := by kernel_rfl
  have h1 : (n : Int) ≤ 6 := by omega
  have h0 : (0 : Int) ≤ (n : Int) := by omega
  simp [Instr.sliceAt, Instr.sureAddr, run_underlying ht, Instr.sliceBounds, run_sliceBound, h1, h0, go_sem]
theorem row_sl {w : World} {g n c : Nat} {zs : List Int} (h : RowI w g 0 zs) (hn : zs.length = n) (hc : n ≤ c) (hs : n ≤ 1000) (hg : g < w.heap.size) : SlI w (.slice (some ⟨g, 0, none⟩) n c) zs := by
  subst hn
  refine .inr ⟨g, 0, c, rfl, hc, by omega, hg, fun i z e => ?_⟩
  have := h i z e
  unfold IntAt
  rw [Nat.mul_one]
  exact this
theorem puts_bound {hs ps : List Pu} {zs : List Int} (hh : hs.all hoOk = true) (hp : ps.all paOk = true) : ∀ x, x ∈ putsS hs ps zs → PuB x := fun x hx => by
  obtain ⟨i, _, rfl⟩ := List.mem_map.1 hx
  have g1 : ∀ (k : Nat), -40000 ≤ (hs.getD k default).p ∧ (hs.getD k default).p ≤ 40000 := fun k => by
    rw [List.getD_eq_getElem?_getD]
    cases e : hs[k]? with
    | none => exact ⟨by decide, by decide⟩
    | some c =>
      have := List.all_eq_true.1 hh c (List.mem_of_getElem? e)
      unfold hoOk at this
      rw [Bool.and_eq_true, inB_iff, inB_iff] at this
      simp only [Option.getD_some]
      omega
  have g2 : ∀ (k : Nat), -1073741824 ≤ (ps.getD k default).p ∧ (ps.getD k default).p ≤ 1073741824 := fun k => by
    rw [List.getD_eq_getElem?_getD]
    cases e : ps[k]? with
    | none => exact ⟨by decide, by decide⟩
    | some c =>
      have := List.all_eq_true.1 hp c (List.mem_of_getElem? e)
      unfold paOk at this
      rw [Bool.and_eq_true, inB_iff, inB_iff] at this
      simp only [Option.getD_some]
      omega
  have a := g1 (zs.getD i 0).toNat
  have b := g2 i
  exact ⟨a.1, a.2, b.1, b.2⟩
/-- What one hold makes of the search. -/
def bodyS (hs ps : List Pu) (rs : List Li) (sks : List Sk) (m : Nat) (zs : List Int) (f : Nat → Int) (x : Int) (h : Nat) : Option (List Int) := if 0 ≤ f h - x then searchE hs ps rs sks m (zs ++ [(h : Int)]) (lessF f h x) else none
def SeHead (hs ps : List Pu) (rs : List Li) (sks : List Sk) (m : Nat) (zs : List Int) (f : Nat → Int) (x : Int) (n bp : Nat) (W wr : World) (v : Value) : Prop := ∃ k : Nat, k ≤ hs.length ∧ v = .int .i64 k ∧
  searchE hs ps rs sks (m + 1) zs f = ((List.range hs.length).drop k).findSome? (bodyS hs ps rs sks m zs f x) ∧ Five wr W.heap.size f ∧ Aside bp n W wr
theorem Five.aside {A B : World} {b bp n : Nat} {f : Nat → Int} (h : Five A b f) (k : Aside bp n A B) (hb : b ≠ bp) : Five B b f :=
  ⟨k.cell h.c0 hb, k.cell h.c1 hb, k.cell h.c2 hb, k.cell h.c3 hb, k.cell h.c4 hb, fun j => (World.frozen?_of_block (a := ⟨b, j, none⟩) (k.block b h.lt hb)).trans (h.fz j)⟩
theorem Aside.new {bp n g k : Nat} {W A : World} (h : Aside bp n W A) (v : Value) (hg : W.heap.size ≤ g) (hb : bp < W.heap.size) : Aside bp n W (A.setCell ⟨g, k, none⟩ v) := by
  have hfar : ∀ j, (A.setCell ⟨g, k, none⟩ v).cell? ⟨bp, j, none⟩ = A.cell? ⟨bp, j, none⟩ := fun j => World.cell?_setCell_other _ _ _ _ (fun e => by injection e with e1; omega)
  exact ⟨h.os, h.tape, h.output, by simpa using h.size, fun i hi hne => (Below.heap_setCell A ⟨g, k, none⟩ v i (show i ≠ g by omega)).trans (h.block i hi hne), fun j hj => (hfar j).trans (h.low j hj), fun j => (World.frozen?_setCell ..).trans (h.fz j), fun j x e => by obtain ⟨y, e1⟩ := h.any j x e; exact ⟨y, (hfar j).trans e1⟩⟩
theorem row_snoc {W W1 : World} {bp n : Nat} {zs : List Int} {z : Int} (h : RowI W bp 0 zs) (hn : zs.length = n) (ha : Aside bp n W W1) (hz : W1.cell? ⟨bp, n, none⟩ = some (.int .i64 z)) : RowI W1 bp 0 (zs ++ [z]) := fun i y e => by
  rw [Nat.zero_add]
  by_cases hi : i < n
  · rw [List.getElem?_append_left (by omega)] at e
    have := h i y e
    rw [Nat.zero_add] at this
    rw [ha.low i hi]
    exact this
  · rw [List.getElem?_append_right (by omega)] at e
    have hlt := (List.getElem?_eq_some_iff.1 e).1
    have h0 : i - zs.length = 0 := by simp at hlt; omega
    rw [h0] at e
    simp at e
    subst e
    rw [show i = n by omega]
    exact hz
theorem find_step {α : Type} {g : Nat → Option α} {H k : Nat} (hk : k < H) : ((List.range H).drop k).findSome? g = match g k with | some y => some y | none => ((List.range H).drop (k + 1)).findSome? g := by
  rw [List.drop_eq_getElem_cons (by simpa using hk), List.findSome?_cons, List.getElem_range]
  cases g k <;> rfl
set_option linter.unusedSimpArgs false in
set_option maxRecDepth 100000 in
set_option maxHeartbeats 8000000 in
theorem search_any (w0 : World) (h p r s : Value) (hs ps : List Pu) (rs : List Li) (sks : List Sk) (bp bc bs : Nat) (hh : SlPu w0 h hs) (hp : SlPu w0 p ps) (hr : SlLi w0 r rs) (hk : SlSk w0 s sks) (h0 : w0.heap.size ≤ bp) (hbc : bc ≠ bp) (hbs : bs ≠ bp)
    (h5 : hs.length ≤ 5) (h6 : ps.length ≤ 6) (hho : hs.all hoOk = true) (hpa : ps.all paOk = true) (hsc : ∀ x, x ∈ sks → ScB x.a x.b) :
    ∀ (m : Nat) (zs : List Int) (f : Nat → Int) (n : Nat) (W : World), zs.length = n → n + m = ps.length → (∀ z, z ∈ zs → 0 ≤ z ∧ z < (hs.length : Int)) → (∀ i, 0 ≤ f i ∧ f i ≤ 1073741824) → SeI w0 W bp bc bs h p r s → RowI W bp 0 zs →
    Calls Try.prog 127 #[.int .i64 n, rmV (f 0) (f 1) (f 2) (f 3) (f 4), .pointer (some ⟨bp, 0, none⟩), .pointer (some ⟨bc, 0, none⟩), .pointer (some ⟨bs, 0, none⟩)] W (SeP hs ps rs sks m zs f bp W) := by
  obtain ⟨a0, cap0, rfl, hl0, _⟩ := hh.form
  obtain ⟨a1, cap1, rfl, hl1, _⟩ := hp.form
  have HH := Lib.hid hh
  have HP := Lib.hid hp
  have HRr := Lib.hid hr
  have HK := Lib.hid hk
  have HSc := Lib.hid hsc
  have HHo := Lib.hid hho
  have HPa := Lib.hid hpa
  clear hh hp hr hk hsc hho hpa
  intro m
  induction m with
  | zero =>
    intro zs f n W hn hm hz hf hI hrow
    have HI := Lib.hid hI
    have HRow := Lib.hid hrow
    have HZ := Lib.hid hz
    have HN := Lib.hid hn
    obtain ⟨c0, c1, c2, c3⟩ := hI.cg
    have hsl := fun w => slice_place bp n (by omega) w
    have hn6 : n ≤ 6 := by omega
    have hcw : bc < W.heap.size := World.block_lt_of_cell? _ _ c0
    clear hI hrow hz hn hf
    go_enter Try.func127, Try.ntmps127
    go_wp2_with fail
    have hb1 : Below W.heap.size W (W.alloc (.cells #[.int .i64 (f 0), .int .i64 (f 1), .int .i64 (f 2), .int .i64 (f 3), .int .i64 (f 4)] 186)) := (Below.refl _ W).alloc (Nat.le_refl _) _
    have hBase1 := two HI.out.base hb1
    refine (isLastNear_any _ _ r s rs ps (some ⟨bp, 0, none⟩) n 6 zs _ (puLater HP.out hBase1) (liLater HRr.out hBase1) (row_sl (HRow.out.later hb1) HN.out hn6 (by omega) (by have := HI.out.room.lt; have := hb1.size; omega)) HN.out (by omega) (fun z hz => by have := HZ.out z hz; omega)).mono ?_
    rintro e w2 ⟨rfl, hb2⟩
    have hB2 : Below W.heap.size W w2 := two hb1 hb2
    have hBase2 := two HI.out.base hB2
    have HBx := Lib.hid (show Five w2 W.heap.size f from Five.later (w := W.alloc (.cells #[.int .i64 (f 0), .int .i64 (f 1), .int .i64 (f 2), .int .i64 (f 3), .int .i64 (f 4)] 186)) ⟨by go_cell, by go_cell, by go_cell, by go_cell, by go_cell, fun j => World.frozen?_alloc_at _ _ _ _ rfl⟩ hb2)
    clear hb1 hb2 hBase1 c0 c1 c2 c3
    obtain ⟨t, ht⟩ : ∃ t, lnB rs ps zs = t := ⟨_, rfl⟩
    rw [ht]
    have HT := Lib.hid ht
    clear ht
    cases t
    rotate_left 1
    · have HF := Lib.hid (show searchE hs ps rs sks 0 zs f = none by unfold searchE; rw [HT.out]; rfl)
      go_wp2_with fail
      go_returns
      exact ⟨Aside.of hB2 HI.out.room.lt, .inl ⟨HF.out, rfl⟩⟩
    obtain ⟨c0, c1, c2, c3⟩ := HI.out.cg.later hB2
    have hnb : ((n : Int) == (ps.length : Int)) = true := by rw [beq_iff_eq]; omega
    go_wp2_with fail
    refine (isOff_any _ _ r s hs ps sks (some ⟨bp, 0, none⟩) n 6 zs w2 (puLater HH.out hBase2) (puLater HP.out hBase2) (skLater HK.out hBase2) (row_sl (HRow.out.later hB2) HN.out hn6 (by omega) (by have := HI.out.room.lt; have := hB2.size; omega)) HN.out (by omega) (by omega) HZ.out HSc.out (puts_bound HHo.out HPa.out)).mono ?_
    rintro e w3 ⟨rfl, hb3⟩
    have hB3 := two hB2 hb3
    clear hb3
    obtain ⟨o, ho⟩ : ∃ o, offB hs ps sks zs = o := ⟨_, rfl⟩
    rw [ho]
    have HO := Lib.hid ho
    clear ho
    cases o
    · have HF := Lib.hid (show searchE hs ps rs sks 0 zs f = some zs by unfold searchE; rw [HT.out, HO.out]; rfl)
      go_wp2_with fail
      go_returns
      exact ⟨Aside.of hB3 HI.out.room.lt, .inr ⟨zs, HF.out, rfl, HRow.out.later hB3⟩⟩
    · have HF := Lib.hid (show searchE hs ps rs sks 0 zs f = none by unfold searchE; rw [HT.out, HO.out]; rfl)
      go_wp2_with fail
      go_returns
      exact ⟨Aside.of hB3 HI.out.room.lt, .inl ⟨HF.out, rfl⟩⟩
  | succ m ih =>
    intro zs f n W hn hm hz hf hI hrow
    have HIh := Lib.hid ih
    have HI := Lib.hid hI
    have HRow := Lib.hid hrow
    have HZ := Lib.hid hz
    have HN := Lib.hid hn
    have HFb := Lib.hid hf
    obtain ⟨c0, c1, c2, c3⟩ := hI.cg
    have hsl := fun w => slice_place bp n (by omega) w
    have hn6 : n ≤ 6 := by omega
    have hcw : bc < W.heap.size := World.block_lt_of_cell? _ _ c0
    clear hI hrow hz hn hf ih
    go_enter Try.func127, Try.ntmps127
    go_wp2_with fail
    have hb1 : Below W.heap.size W (W.alloc (.cells #[.int .i64 (f 0), .int .i64 (f 1), .int .i64 (f 2), .int .i64 (f 3), .int .i64 (f 4)] 186)) := (Below.refl _ W).alloc (Nat.le_refl _) _
    have hBase1 := two HI.out.base hb1
    refine (isLastNear_any _ _ r s rs ps (some ⟨bp, 0, none⟩) n 6 zs _ (puLater HP.out hBase1) (liLater HRr.out hBase1) (row_sl (HRow.out.later hb1) HN.out hn6 (by omega) (by have := HI.out.room.lt; have := hb1.size; omega)) HN.out (by omega) (fun z hz => by have := HZ.out z hz; omega)).mono ?_
    rintro e w2 ⟨rfl, hb2⟩
    have hB2 : Below W.heap.size W w2 := two hb1 hb2
    have hBase2 := two HI.out.base hB2
    have HBx := Lib.hid (show Five w2 W.heap.size f from Five.later (w := W.alloc (.cells #[.int .i64 (f 0), .int .i64 (f 1), .int .i64 (f 2), .int .i64 (f 3), .int .i64 (f 4)] 186)) ⟨by go_cell, by go_cell, by go_cell, by go_cell, by go_cell, fun j => World.frozen?_alloc_at _ _ _ _ rfl⟩ hb2)
    clear hb1 hb2 hBase1 c0 c1 c2 c3
    obtain ⟨t, ht⟩ : ∃ t, lnB rs ps zs = t := ⟨_, rfl⟩
    rw [ht]
    have HT := Lib.hid ht
    clear ht
    cases t
    rotate_left 1
    · have HF := Lib.hid (show searchE hs ps rs sks (m + 1) zs f = none by unfold searchE; rw [HT.out]; rfl)
      go_wp2_with fail
      go_returns
      exact ⟨Aside.of hB2 HI.out.room.lt, .inl ⟨HF.out, rfl⟩⟩
    obtain ⟨c0, c1, c2, c3⟩ := HI.out.cg.later hB2
    have hnb : ((n : Int) == (ps.length : Int)) = false := by rw [beq_eq_false_iff_ne]; omega
    go_wp2_with fail
    obtain ⟨x, hx⟩ : ∃ x, (ps.getD n default).p = x := ⟨_, rfl⟩
    have hsx : searchE hs ps rs sks (m + 1) zs f = (List.range hs.length).findSome? (bodyS hs ps rs sks m zs f x) := by
      unfold searchE
      rw [HT.out, HN.out, hx]
      rfl
    have HSx := Lib.hid hsx
    have hbx : W.heap.size ≠ bp := by have := HI.out.room.lt; omega
    obtain ⟨gp, op, pn, rfl, hgp, hpn, hatn⟩ := HP.out.at (show n < ps.length by omega)
    have hxp : pn.p = x := by rw [← hx, List.getD_eq_getElem?_getD, hpn]; rfl
    have hpb := List.all_eq_true.1 HPa.out pn (List.mem_of_getElem? hpn)
    have hx1 : 1 ≤ x ∧ x ≤ 1000000 := by unfold paOk at hpb; rw [Bool.and_eq_true, inB_iff, inB_iff] at hpb; omega
    have HPn := Lib.hid hatn
    have HXp := Lib.hid hxp
    clear hsx hx hpn hatn hpb hxp c0 c1 c2 c3 hnb hsl
    go_loopw [28] (fun v28 wr => SeHead hs ps rs sks m zs f x n bp W wr v28) (fun v28 _ => hs.length - (intOf v28).toNat)
    case atStart => exact ⟨0, by omega, rfl, by rw [HSx.out]; rfl, HBx.out, Aside.of hB2 HI.out.room.lt⟩
    case round =>
      obtain ⟨k, hk, rfl, he, hfive, has⟩ := hrel
      have HE := Lib.hid he
      have HF5 := Lib.hid hfive
      have HA := Lib.hid has
      clear he hfive has HBx hB2 hBase2 HSx
      have hk0 : (0 : Int) ≤ (k : Int) := by omega
      by_cases hlt : k < hs.length
      rotate_left 1
      · have hlt' : ¬ (k : Int) < (hs.length : Int) := by omega
        have HF := Lib.hid (show searchE hs ps rs sks (m + 1) zs f = none by rw [HE.out, List.drop_eq_nil_of_le (by simpa using hlt)]; rfl)
        go_wp2_with fail
        go_returns
        exact ⟨by rw [HN.out]; exact HA.out, .inl ⟨HF.out, rfl⟩⟩
      have hlt' : (k : Int) < (hs.length : Int) := by omega
      have hk5 : (k : Int) < 5 := by omega
      have hn6' : (n : Int) < 6 := by omega
      have hnp : (n : Int) < (ps.length : Int) := by omega
      have hn0 : (0 : Int) ≤ (n : Int) := by omega
      obtain ⟨b0', b1', b2', b3', b4', _⟩ := HF5.out
      have HIr := Lib.hid (HI.out.aside HA.out h0 hbc hbs)
      have hbz := HF5.out.lt
      go_wp2_with fail
      clear b0' b1' b2' b3' b4'
      obtain ⟨V, hV⟩ : ∃ V, wr.alloc (.cells #[.int .i64 (f 0), .int .i64 (f 1), .int .i64 (f 2), .int .i64 (f 3), .int .i64 (f 4)] 186) = V := ⟨_, rfl⟩
      have hbV : Below wr.heap.size wr V := by subst hV; go_grown
      have hFV : Five V wr.heap.size f := by subst hV; exact ⟨by go_cell, by go_cell, by go_cell, by go_cell, by go_cell, fun j => World.frozen?_alloc_at _ _ _ _ rfl⟩
      rw [hV]
      clear hV
      have hbp : bp < wr.heap.size := HIr.out.room.lt
      have HAV := Lib.hid (HA.out.trans (Aside.of hbV hbp))
      have HFV := Lib.hid hFV
      have HF5V := Lib.hid (HF5.out.later hbV)
      have hzV := hFV.lt
      obtain ⟨fk0, fk1⟩ := HFb.out k
      obtain ⟨f', hf'⟩ : ∃ f', lessF f k x = f' := ⟨_, rfl⟩
      have HF' := Lib.hid (show f' k = f k - x ∧ ∀ i, i ≠ k → f' i = f i from by subst hf'; exact ⟨by unfold lessF; rw [if_pos rfl], fun i hi => by unfold lessF; rw [if_neg hi]⟩)
      have HFl := Lib.hid hf'
      have hW2 := HA.out.size
      have HLt := Lib.hid (show k < 5 ∧ W.heap.size ≠ wr.heap.size ∧ wr.heap.size ≠ bp ∧ W.heap.size ≤ wr.heap.size ∧ n < 6 from ⟨by omega, by omega, by omega, hW2, by omega⟩)
      have HPn2 := Lib.hid (PuAt.later HPn.out (HAV.out.below HI.out.base h0 HI.out.base.size))
      have HIV := Lib.hid (HI.out.aside HAV.out h0 hbc hbs)
      clear hf' hFV hbz
      have hA : Below V.heap.size V V.drew := below_drewN (Below.refl _ _) 1
      refine AnyV.start (Two 11 (fun w' => Below V.heap.size V w') 11 (fun _ => True)) 12 #[false, false, false, false, false, false, false, false, false, false, false, false] (by kernel_rfl) (by kernel_rfl) (by kernel_rfl) (fun _ => ⟨fun _ => hA, fun _ => trivial⟩) (fun _ => ?_)
      generalize World.drew V = wd at hA ⊢
      refine AnyV.take 11 12 (i := 0) (oi := _) (v := ?_) rfl (by kernel_rfl) (by kernel_rfl) (by kernel_rfl) (by kernel_rfl) (by kernel_rfl) (fun _ _ _ h => h) (Two.other (by decide)) (Or.inl ⟨by kernel_rfl, ?_⟩) (Two.till (fun _ => hA) (fun _ => trivial)) (fun _ => ?_)
      rotate_left 1
      · intro wz hSw'; have hSw := hSw'.1 rfl; clear hSw'; skip; go_simp; try with_reducible rfl
      try simp only [Act.put, List.setIfInBounds_toArray, List.set_cons_zero, List.set_cons_succ]
      refine AnyV.take 11 12 (i := 1) (oi := _) (v := ?_) rfl (by kernel_rfl) (by kernel_rfl) (by kernel_rfl) (by kernel_rfl) (by kernel_rfl) (fun _ _ _ h => h) (Two.other (by decide)) (Or.inl ⟨by kernel_rfl, ?_⟩) (Two.till (fun _ => hA) (fun _ => trivial)) (fun _ => ?_)
      rotate_left 1
      · intro wz hSw'; have hSw := hSw'.1 rfl; clear hSw'; skip; go_simp; try with_reducible rfl
      try simp only [Act.put, List.setIfInBounds_toArray, List.set_cons_zero, List.set_cons_succ]
      refine AnyV.take 11 12 (i := 2) (oi := _) (v := ?_) rfl (by kernel_rfl) (by kernel_rfl) (by kernel_rfl) (by kernel_rfl) (by kernel_rfl) (fun _ _ _ h => h) (Two.other (by decide)) (Or.inl ⟨by kernel_rfl, ?_⟩) (Two.till (fun _ => hA) (fun _ => trivial)) (fun _ => ?_)
      rotate_left 1
      · intro wz hSw'; have hSw := hSw'.1 rfl; clear hSw'; have q0 := (HFV.out.later hSw).get HLt.out.1; go_simp; try with_reducible rfl
      try simp only [Act.put, List.setIfInBounds_toArray, List.set_cons_zero, List.set_cons_succ]
      refine AnyV.take 11 12 (i := 3) (oi := _) (v := ?_) rfl (by kernel_rfl) (by kernel_rfl) (by kernel_rfl) (by kernel_rfl) (by kernel_rfl) (fun _ _ _ h => h) (Two.other (by decide)) (Or.inl ⟨by kernel_rfl, ?_⟩) (Two.till (fun _ => hA) (fun _ => trivial)) (fun _ => ?_)
      rotate_left 1
      · intro wz hSw'; have hSw := hSw'.1 rfl; clear hSw'; skip; go_simp; try with_reducible rfl
      try simp only [Act.put, List.setIfInBounds_toArray, List.set_cons_zero, List.set_cons_succ]
      refine AnyV.take 11 12 (i := 4) (oi := _) (v := ?_) rfl (by kernel_rfl) (by kernel_rfl) (by kernel_rfl) (by kernel_rfl) (by kernel_rfl) (fun _ _ _ h => h) (Two.other (by decide)) (Or.inl ⟨by kernel_rfl, ?_⟩) (Two.till (fun _ => hA) (fun _ => trivial)) (fun _ => ?_)
      rotate_left 1
      · intro wz hSw'; have hSw := hSw'.1 rfl; clear hSw'; have q0 := (HIV.out.cg.later hSw).c1; go_simp; try with_reducible rfl
      try simp only [Act.put, List.setIfInBounds_toArray, List.set_cons_zero, List.set_cons_succ]
      refine AnyV.take 11 12 (i := 5) (oi := _) (v := ?_) rfl (by kernel_rfl) (by kernel_rfl) (by kernel_rfl) (by kernel_rfl) (by kernel_rfl) (fun _ _ _ h => h) (Two.other (by decide)) (Or.inl ⟨by kernel_rfl, ?_⟩) (Two.till (fun _ => hA) (fun _ => trivial)) (fun _ => ?_)
      rotate_left 1
      · intro wz hSw'; have hSw := hSw'.1 rfl; clear hSw'; skip; go_simp; try with_reducible rfl
      try simp only [Act.put, List.setIfInBounds_toArray, List.set_cons_zero, List.set_cons_succ]
      refine AnyV.take 11 12 (i := 6) (oi := _) (v := ?_) rfl (by kernel_rfl) (by kernel_rfl) (by kernel_rfl) (by kernel_rfl) (by kernel_rfl) (fun _ _ _ h => h) (Two.other (by decide)) (Or.inl ⟨by kernel_rfl, ?_⟩) (Two.till (fun _ => hA) (fun _ => trivial)) (fun _ => ?_)
      rotate_left 1
      · intro wz hSw'; have hSw := hSw'.1 rfl; clear hSw'; skip; go_simp; try with_reducible rfl
      try simp only [Act.put, List.setIfInBounds_toArray, List.set_cons_zero, List.set_cons_succ]
      refine AnyV.take 11 12 (i := 7) (oi := _) (v := ?_) rfl (by kernel_rfl) (by kernel_rfl) (by kernel_rfl) (by kernel_rfl) (by kernel_rfl) (fun _ _ _ h => h) (Two.other (by decide)) (Or.inl ⟨by kernel_rfl, ?_⟩) (Two.till (fun _ => hA) (fun _ => trivial)) (fun _ => ?_)
      rotate_left 1
      · intro wz hSw'; have hSw := hSw'.1 rfl; clear hSw'; skip; go_simp; try with_reducible rfl
      try simp only [Act.put, List.setIfInBounds_toArray, List.set_cons_zero, List.set_cons_succ]
      refine AnyV.take 11 12 (i := 8) (oi := _) (v := ?_) rfl (by kernel_rfl) (by kernel_rfl) (by kernel_rfl) (by kernel_rfl) (by kernel_rfl) (fun _ _ _ h => h) (Two.other (by decide)) (Or.inl ⟨by kernel_rfl, ?_⟩) (Two.till (fun _ => hA) (fun _ => trivial)) (fun _ => ?_)
      rotate_left 1
      · intro wz hSw'; have hSw := hSw'.1 rfl; clear hSw'; have q0 := (PuAt.later HPn2.out hSw).c0; go_simp; try with_reducible rfl
      try simp only [Act.put, List.setIfInBounds_toArray, List.set_cons_zero, List.set_cons_succ]
      refine AnyV.take 11 12 (i := 9) (oi := _) (v := ?_) rfl (by kernel_rfl) (by kernel_rfl) (by kernel_rfl) (by kernel_rfl) (by kernel_rfl) (fun _ _ _ h => h) (Two.other (by decide)) (Or.inl ⟨by kernel_rfl, ?_⟩) (Two.till (fun _ => hA) (fun _ => trivial)) (fun _ => ?_)
      rotate_left 1
      · intro wz hSw'; have hSw := hSw'.1 rfl; clear hSw'; skip; go_simp; try with_reducible rfl
      try simp only [Act.put, List.setIfInBounds_toArray, List.set_cons_zero, List.set_cons_succ]
      refine AnyV.take 11 12 (i := 10) (oi := _) (v := ?_) rfl (by kernel_rfl) (by kernel_rfl) (by kernel_rfl) (by kernel_rfl) (by kernel_rfl) (fun _ _ _ h => h) (Two.other (by decide)) (Or.inl ⟨by kernel_rfl, ?_⟩) (Two.till (fun _ => hA) (fun _ => trivial)) (fun _ => ?_)
      rotate_left 1
      · intro wz hSw'; have hSw := hSw'.1 rfl; clear hSw'; skip; go_simp; try with_reducible rfl
      try simp only [Act.put, List.setIfInBounds_toArray, List.set_cons_zero, List.set_cons_succ]
      have hFd := HFV.out.later hA
      have q0 := hFd.get HLt.out.1
      have q1 := hFd.fz k
      rw [HXp.out]
      have HAd := Lib.hid (HAV.out.trans (Aside.of hA (Nat.lt_of_lt_of_le HIr.out.room.lt hbV.size)))
      have HF4 := Lib.hid (hFd.store HLt.out.1 (f k - x) HF'.out.1 HF'.out.2)
      have HX4 := Lib.hid (five_far (b' := wr.heap.size) (k := k) (v := .int .i64 (f k - x)) (HF5V.out.later hA) HLt.out.2.1)
      have HA4 := Lib.hid (HAd.out.new (k := k) (.int .i64 (f k - x)) HLt.out.2.2.2.1 HI.out.room.lt)
      refine AnyV.one (i := 11) (o := _) rfl (by kernel_rfl) (fun K hK => ?_)
      go_simp
      rw [show IntKind.i64.wrap (f k - x) = f k - x from IntWalk.i64_in _ ⟨by omega, by omega⟩]
      refine hK.out _ _ (Two.till (fun h => absurd h (by decide)) (fun _ => trivial)) ?_
      clear hK K
      refine AnyV.done (by kernel_rfl) ?_
      try simp only [Act.put, List.setIfInBounds_toArray, List.set_cons_zero, List.set_cons_succ]
      clear q0 q1 hFd hA
      generalize wd.setCell ⟨wr.heap.size, k, none⟩ (.int .i64 (f k - x)) = W4 at *
      have HI4 := Lib.hid (HI.out.aside HA4.out h0 hbc hbs)
      obtain ⟨y0, e0⟩ := HI4.out.room.old n HLt.out.2.2.2.2
      rw [Nat.zero_add] at e0
      have e1 := HI4.out.room.fz n
      go_upto_region 12 with fail
      clear e1
      have HA5 := Lib.hid (HA4.out.trans (Aside.store (A := W4) (.int .i64 (k : Int)) (Nat.le_refl n)))
      have HF5' := Lib.hid (five_far (b' := bp) (k := n) (v := .int .i64 (k : Int)) HF4.out HLt.out.2.2.1)
      have HX5 := Lib.hid (five_far (b' := bp) (k := n) (v := .int .i64 (k : Int)) HX4.out hbx)
      have HI5 := Lib.hid (HI.out.aside HA5.out h0 hbc hbs)
      have HR5 := Lib.hid (row_snoc HRow.out HN.out HA5.out (World.cell?_setCell_same _ _ _ e0))
      clear e0 HF4 HX4 HA4 HI4
      generalize W4.setCell ⟨bp, n, none⟩ (.int .i64 (k : Int)) = W5 at *
      have q0 := HF5'.out.get HLt.out.1
      have hb5 := HF5'.out.lt
      by_cases hpos : 0 ≤ f' k
      rotate_left 1
      · have HB := Lib.hid (show bodyS hs ps rs sks m zs f x k = none by unfold bodyS; rw [if_neg (by rw [← HF'.out.1]; exact hpos)])
        go_wp2_with fail
        go_roundw
        case rel => exact ⟨k + 1, by omega, by go_num, by rw [HE.out, find_step hlt, HB.out], HX5.out, HA5.out⟩
        case measure => simp [intOf]; omega
      have HB := Lib.hid (show bodyS hs ps rs sks m zs f x k = searchE hs ps rs sks m (zs ++ [(k : Int)]) f' by unfold bodyS; rw [if_pos (by rw [← HF'.out.1]; exact hpos), HFl.out])
      have e2 := HI5.out.se
      obtain ⟨d0, d1, d2, d3, d4, _⟩ := HF5'.out
      have hlen : (zs ++ [(k : Int)]).length = n + 1 := by rw [List.length_append, HN.out]; rfl
      have hih := HIh.out (zs ++ [(k : Int)]) f' (n + 1) W5 hlen (by omega) (fun z hz => by
        rcases List.mem_append.1 hz with hz | hz
        · exact HZ.out z hz
        · rw [List.mem_singleton.1 hz]; exact ⟨hk0, hlt'⟩) (fun i => by
        by_cases e : i = k
        · subst e; have := HF'.out.1; omega
        · rw [HF'.out.2 i e]; exact HFb.out i) HI5.out HR5.out
      rw [show ((n + 1 : Nat) : Int) = (n : Int) + 1 by omega] at hih
      have HLe := Lib.hid hlen
      clear hlen
      go_wp2_with fail
      refine hih.mono ?_
      clear hih e2 d0 d1 d2 d3 d4 q0
      rintro e w6 ⟨has6, (⟨hno, rfl⟩ | ⟨ys, hys, rfl, hrow6⟩)⟩
      · rw [HLe.out] at has6
        have HA6 := Lib.hid (HA5.out.trans (has6.mono (show n ≤ n + 1 by omega)))
        have HX6 := Lib.hid (HX5.out.aside has6 hbx)
        have HBn := Lib.hid (show bodyS hs ps rs sks m zs f x k = none by rw [HB.out]; exact hno)
        clear has6 hno
        go_wp2_with fail
        go_roundw
        case rel => exact ⟨k + 1, by omega, by go_num, by rw [HE.out, find_step hlt, HBn.out], HX6.out, HA6.out⟩
        case measure => simp [intOf]; omega
      · rw [HLe.out] at has6
        have HA6 := Lib.hid (HA5.out.trans (has6.mono (show n ≤ n + 1 by omega)))
        have HS6 := Lib.hid (show searchE hs ps rs sks (m + 1) zs f = some ys by rw [HE.out, find_step hlt, HB.out, hys])
        have HR6 := Lib.hid hrow6
        clear has6 hys hrow6
        go_wp2_with fail
        go_returns
        exact ⟨by rw [HN.out]; exact HA6.out, .inr ⟨ys, HS6.out, rfl, HR6.out⟩⟩
end Go.Proofs.Ytldnpnplgfkebaa
