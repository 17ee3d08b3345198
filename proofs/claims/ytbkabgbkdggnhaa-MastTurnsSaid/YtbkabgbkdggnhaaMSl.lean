/- Package mast: lists in memory (axes and pulls are pairs; rows of whole numbers), and a law's own copies of them. -/
import Derived.Test.YtbkabgbkdggnhaaMCheck
import Derived.Deep.LoopGhost
import Derived.Laws.OwnMore
import Derived.Lib.SmallJoins
import Derived.Laws.AppendOwnNone
namespace Go.Proofs.Ytbkabgbkdggnhaa
open Go.RowKit

/-- A slice of elements of k cells each, as At says. -/
def SlAny {α : Type} (At : World → Nat → Nat → α → Prop) (k : Nat) (w : World) (v : Value) (cs : List α) : Prop :=
  (cs = [] ∧ v = .slice none 0 0) ∨ ∃ (b off cap : Nat), v = .slice (some ⟨b, off, none⟩) cs.length cap ∧ cs.length ≤ cap ∧ cs.length ≤ 1000000000000 ∧ b < w.heap.size ∧ ∀ (i : Nat) (c : α), cs[i]? = some c → At w b (off + i * k) c
/-- What stands stays, if nothing that was is written. -/
def Stays {α : Type} (At : World → Nat → Nat → α → Prop) : Prop := ∀ {w w1 : World} {b o : Nat} {c : α}, At w b o c → Below w.heap.size w w1 → At w1 b o c
theorem SlAny.later {α : Type} {At : World → Nat → Nat → α → Prop} {k : Nat} (hA : Stays At) {w w1 : World} {v : Value} {cs : List α} (h : SlAny At k w v cs) (hb : Below w.heap.size w w1) : SlAny At k w1 v cs := by
  rcases h with h | ⟨b, off, cap, h1, h2, h3, h4, h5⟩
  · exact .inl h
  · exact .inr ⟨b, off, cap, h1, h2, h3, by have := hb.size; omega, fun i c e => hA (h5 i c e) hb⟩
theorem SlAny.form {α : Type} {At : World → Nat → Nat → α → Prop} {k : Nat} {w : World} {v : Value} {cs : List α} (h : SlAny At k w v cs) : ∃ (a : Option Addr) (cap : Nat), v = .slice a cs.length cap ∧ cs.length ≤ 1000000000000 ∧ cs.length ≤ cap := by
  rcases h with ⟨rfl, rfl⟩ | ⟨b, off, cap, rfl, h2, h3, _⟩
  · exact ⟨_, _, rfl, by simp, by simp⟩
  · exact ⟨_, _, rfl, h3, h2⟩
theorem SlAny.full {α : Type} {At : World → Nat → Nat → α → Prop} {k : Nat} {w : World} {v : Value} {cs : List α} (h : SlAny At k w v cs) (h0 : 0 < cs.length) :
    ∃ (b off cap : Nat), v = .slice (some ⟨b, off, none⟩) cs.length cap ∧ cs.length ≤ cap ∧ cs.length ≤ 1000000000000 ∧ b < w.heap.size ∧ ∀ (i : Nat) (c : α), cs[i]? = some c → At w b (off + i * k) c := by
  rcases h with ⟨rfl, _⟩ | h
  · simp at h0
  · exact h
/-- Element i of such a slice, whose address is known. -/
theorem SlAny.at {α : Type} {At : World → Nat → Nat → α → Prop} {k : Nat} {w : World} {a : Option Addr} {cap i : Nat} {cs : List α} (h : SlAny At k w (.slice a cs.length cap) cs) (hi : i < cs.length) :
    ∃ (b off : Nat) (c : α), a = some ⟨b, off, none⟩ ∧ b < w.heap.size ∧ cs[i]? = some c ∧ At w b (off + i * k) c := by
  obtain ⟨b, off, cap', hv, _, _, hb, hc⟩ := h.full (by omega)
  injection hv with h1 h2 h3
  exact ⟨b, off, cs[i], h1, hb, List.getElem?_eq_getElem hi, hc i _ (List.getElem?_eq_getElem hi)⟩
theorem drop_some {α : Type} {l : List α} {k : Nat} {x : α} (h : l[k]? = some x) : l.drop k = x :: l.drop (k + 1) := by
  obtain ⟨hk, e⟩ := List.getElem?_eq_some_iff.1 h
  rw [List.drop_eq_getElem_cons hk, e]
theorem drop_none {α : Type} {l : List α} {k : Nat} (h : ¬ k < l.length) : l.drop k = [] := List.drop_eq_nil_of_le (by omega)

/-- A pair: an axis, or a pull. -/
structure Pr where
  a : Int
  b : Int
instance : Inhabited Pr := ⟨⟨0, 0⟩⟩
abbrev prV (l : Pr) : Value := .agg #[.int .i64 l.a, .int .i64 l.b]
structure PrAt (w : World) (b o : Nat) (l : Pr) : Prop where
  c0 : w.cell? ⟨b, o, none⟩ = some (.int .i64 l.a)
  c1 : w.cell? ⟨b, o + 1, none⟩ = some (.int .i64 l.b)
theorem PrAt.later : Stays PrAt := fun k hb => ⟨cell_later hb k.c0, cell_later hb k.c1⟩
abbrev SlPr := SlAny PrAt 2
theorem prLater {w w1 : World} {v : Value} {l : List Pr} (h : SlAny PrAt 2 w v l) (hb : Below w.heap.size w w1) : SlAny PrAt 2 w1 v l := SlAny.later (At := PrAt) PrAt.later h hb
/-- A loop's head over a list that is checked. -/
def AllHead {α : Type} (ok : α → Bool) (cs : List α) (w wr : World) (v : Value) : Prop := ∃ k : Nat, k ≤ cs.length ∧ v = .int .i64 k ∧ cs.all ok = (cs.drop k).all ok ∧ Below w.heap.size w wr
theorem own_below {w w' : World} {B e size n : Nat} {v : Value} {xs : List Value} (h : w.ownsRow B e size v n xs) (hb : Below w.heap.size w w') : w'.ownsRow B e size v n xs := by
  obtain ⟨hl, h⟩ := h
  refine ⟨hl, ?_⟩
  rcases h with h | ⟨g, cap, cur, h1, h2, h3, h4⟩
  · exact .inl h
  · refine .inr ⟨g, cap, cur, h1, h2, ?_, h4⟩
    have hg : g < w.heap.size := by
      rcases Nat.lt_or_ge g w.heap.size with hx | hx
      · exact hx
      · simp [Array.getElem?_eq_none hx] at h3
    rw [hb.block g hg]; exact h3
theorem own_no (w : World) (B e k : Nat) : w.ownsRow B e k (.slice none 0 0) 0 [] := ⟨by simp, .inl ⟨rfl, rfl⟩⟩
theorem grown_below {B e k : Nat} {w0 w w1 : World} {v : Value} {n : Nat} {xs : List Value} {o : Obj} (h : w.ownsRow B e k v n xs) (hB0 : Below B w0 w) (hB : B ≤ w.heap.size) (hg : (w.alloc o).grownBy w1 v.ownBlock) : Below B w0 w1 ∧ B ≤ w1.heap.size := by
  have hsz := hg.size
  simp at hsz
  refine ⟨hB0.trans ⟨hg.os, hg.tape, hg.output, by omega, fun k hk => ?_⟩, by omega⟩
  rw [hg.block k (by simp; omega) (fun e => by have := (h.lt k e.symm).1; omega)]
  exact ((Below.refl w.heap.size w).alloc (Nat.le_refl _) o).block k (by omega)
theorem add_at (b off k : Nat) : (⟨b, off, none⟩ : Addr).add k = ⟨b, off + k, none⟩ := by
  unfold Addr.add
  split
  · subst_vars; simp
  · rfl
/-- A slice of whole numbers. -/
def IntAt (w : World) (b o : Nat) (n : Int) : Prop := w.cell? ⟨b, o, none⟩ = some (.int .i64 n)
theorem IntAt.later : Stays IntAt := fun k hb => cell_later hb k
abbrev SlI := SlAny IntAt 1
theorem inLater {w w1 : World} {v : Value} {l : List Int} (h : SlAny IntAt 1 w v l) (hb : Below w.heap.size w w1) : SlAny IntAt 1 w1 v l := SlAny.later (At := IntAt) IntAt.later h hb
def spI (zs : List Int) : List Value := zs.map (Value.int .i64)
theorem spI_app (zs : List Int) (z : Int) : spI (zs ++ [z]) = spI zs ++ [.int .i64 z] := by simp [spI]
theorem spI_get {zs : List Int} {i : Nat} {z : Int} (h : zs[i]? = some z) : (spI zs)[i]? = some (.int .i64 z) := by unfold spI; rw [List.getElem?_map, h]; rfl
theorem SlI.of {w : World} {B : Nat} {e : TypeId} {v : Value} {zs : List Int} (h : w.ownsRow B e 1 v zs.length (spI zs)) (hn : zs.length ≤ 1000000000000) : SlI w v zs := by
  rcases Go.Joins.ownsRow_forms h with ⟨rfl, h0⟩ | ⟨g, cap, rfl⟩
  · obtain rfl : zs = [] := by simpa using h0
    exact .inl ⟨rfl, rfl⟩
  · have h' := h
    obtain ⟨hl, h2⟩ := h
    rcases h2 with ⟨h3, _⟩ | ⟨g', cap', cur, h3, h4, h5, h6, h7, h8, h9⟩
    · cases h3
    · simp at h3
      obtain ⟨rfl, rfl⟩ := h3
      have hg : g < w.heap.size := by
        rcases Nat.lt_or_ge g w.heap.size with hx | hx
        · exact hx
        · simp [Array.getElem?_eq_none hx] at h5
      refine .inr ⟨g, 0, cap, rfl, h6, hn, hg, fun i c e => ?_⟩
      have hi := (List.getElem?_eq_some_iff.1 e).1
      unfold IntAt
      rw [Nat.zero_add, Nat.mul_one, h'.cellAt _ (by omega)]
      exact spI_get e
theorem one_new (w : World) (x : Value) (t : TypeId) : ∀ (j : Nat) (u : Value), [x][j]? = some u → (w.alloc (.cells #[x] t)).cell? ((⟨w.heap.size, 0, none⟩ : Addr).add j) = some u := by
  intro j u hj
  rw [add_at, Nat.zero_add]
  rcases j with _ | j
  · simp at hj; subst hj; go_cell
  · simp at hj
def SiHead (n : Nat) (w wr : World) (v5 : Value) : Prop := ∃ k : Nat, k ≤ n ∧ v5 = .int .i64 k ∧ Below w.heap.size w wr
set_option maxHeartbeats 4000000 in
theorem sameInts_eq (v1 v2 : Value) (ps : List Int) (w : World) (h1 : SlI w v1 ps) (h2 : SlI w v2 ps) :
    Calls Try.prog 22 #[v1, v2] w fun e w' => e = .returned (.bool true) ∧ Below w.heap.size w w' := by
  obtain ⟨a1, cap1, rfl, hl1, _⟩ := h1.form
  obtain ⟨a2, cap2, rfl, hl2, _⟩ := h2.form
  have C1 := Lib.hid h1
  have C2 := Lib.hid h2
  clear h1 h2
  go_enter Try.func22, Try.ntmps22
  go_wp2_with fail
  go_loopw [5] (fun v5 wr => SiHead ps.length w wr v5) (fun v5 _ => ps.length - (intOf v5).toNat)
  case atStart => exact ⟨0, by omega, rfl, Below.refl _ _⟩
  case round =>
    obtain ⟨k, hk, rfl, hbr⟩ := hrel
    by_cases hlt : k < ps.length
    · obtain ⟨g1, o1, c, rfl, _, hc, e⟩ := C1.out.at hlt
      obtain ⟨g2, o2, c', rfl, _, hc', f⟩ := C2.out.at hlt
      rw [hc] at hc'
      cases hc'
      have e0 : wr.cell? ⟨g1, o1 + k, none⟩ = some (.int .i64 c) := by have := IntAt.later e hbr; unfold IntAt at this; rw [Nat.mul_one] at this; exact this
      have f0 : wr.cell? ⟨g2, o2 + k, none⟩ = some (.int .i64 c) := by have := IntAt.later f hbr; unfold IntAt at this; rw [Nat.mul_one] at this; exact this
      have hk0 : (0 : Int) ≤ (k : Int) := by omega
      have hk1 : (k : Int) < (ps.length : Int) := by omega
      clear hc e f
      go_wp2_with fail
      go_quiet (fail)
      have hbr2 := below_drewN hbr nq
      go_wp2_with fail
      go_roundw
      case rel => exact ⟨k + 1, by omega, by go_num, hbr2⟩
      case measure => simp [intOf]; omega
    · go_wp2_with fail
      go_returns
      exact ⟨rfl, hbr⟩
/-- The rows in memory. -/
def rowCells (w : World) (b off k : Nat) (rs : List (List Int)) : Prop := ∀ (i : Nat) (r : List Int), rs[i]? = some r → ∀ (j : Nat) (x : Int), r[j]? = some x → w.cell? ⟨b, off + i * k + j, none⟩ = some (.int .i64 x)
/-- A slice value that holds these rows. -/
def SlR (k : Nat) (w : World) (v : Value) (rs : List (List Int)) : Prop :=
  (∀ r, r ∈ rs → r.length = k) ∧ ((rs = [] ∧ v = .slice none 0 0) ∨ ∃ (b off cap : Nat), v = .slice (some ⟨b, off, none⟩) rs.length cap ∧ rs.length ≤ cap ∧ rs.length ≤ 1000000000000 ∧ b < w.heap.size ∧ rowCells w b off k rs)
theorem rowCells.later {W w1 : World} {b off k : Nat} {rs : List (List Int)} (h : rowCells W b off k rs) (hb : Below W.heap.size W w1) : rowCells w1 b off k rs := fun i r e j x hj => cell_later hb (h i r e j x hj)
theorem SlR.later {W w1 : World} {k : Nat} {v : Value} {rs : List (List Int)} (h : SlR k W v rs) (hb : Below W.heap.size W w1) : SlR k w1 v rs := by
  obtain ⟨hw, h⟩ := h
  refine ⟨hw, ?_⟩
  rcases h with h | ⟨b, off, cap, h1, h2, h3, h4, h5⟩
  · exact .inl h
  · exact .inr ⟨b, off, cap, h1, h2, h3, by have := hb.size; omega, h5.later hb⟩
theorem SlR.form {w : World} {k : Nat} {v : Value} {rs : List (List Int)} (h : SlR k w v rs) : ∃ (a : Option Addr) (cap : Nat), v = .slice a rs.length cap ∧ rs.length ≤ 1000000000000 := by
  rcases h.2 with ⟨rfl, rfl⟩ | ⟨b, off, cap, rfl, _, h3, _⟩
  · exact ⟨_, _, rfl, by simp⟩
  · exact ⟨_, _, rfl, h3⟩
theorem SlR.full {w : World} {k : Nat} {v : Value} {rs : List (List Int)} (h : SlR k w v rs) (h0 : 0 < rs.length) :
    ∃ (b off cap : Nat), v = .slice (some ⟨b, off, none⟩) rs.length cap ∧ rs.length ≤ cap ∧ rs.length ≤ 1000000000000 ∧ b < w.heap.size ∧ rowCells w b off k rs := by
  rcases h.2 with ⟨rfl, _⟩ | h
  · simp at h0
  · exact h
theorem SlR.row {w : World} {k : Nat} {v : Value} {rs : List (List Int)} (h : SlR k w v rs) {i : Nat} (hi : i < rs.length) : ∃ r, rs[i]? = some r ∧ r.length = k :=
  ⟨rs[i], List.getElem?_eq_getElem hi, h.1 _ (List.getElem_mem hi)⟩

/-- The rows' values, one after another. -/
def spR (rs : List (List Int)) : List Value := rs.flatMap fun r => r.map (Value.int .i64)
theorem spR_cons (r : List Int) (rs : List (List Int)) : spR (r :: rs) = r.map (Value.int .i64) ++ spR rs := rfl
theorem spR_len {k : Nat} : ∀ (rs : List (List Int)), (∀ r, r ∈ rs → r.length = k) → (spR rs).length = rs.length * k
  | [], _ => by simp [spR]
  | r :: rs, h => by
    have := spR_len rs (fun x hx => h x (List.mem_cons_of_mem _ hx))
    have h0 := h r (List.mem_cons_self ..)
    rw [spR_cons, List.length_append, List.length_map, this, h0, List.length_cons, Nat.add_mul, Nat.one_mul, Nat.add_comm]
theorem spR_get {k : Nat} : ∀ (rs : List (List Int)), (∀ r, r ∈ rs → r.length = k) → ∀ (i : Nat) (r : List Int) (j : Nat) (x : Int), rs[i]? = some r → r[j]? = some x → (spR rs)[i * k + j]? = some (.int .i64 x)
  | [], _, i, r, j, x, e, _ => by simp at e
  | r0 :: rs, h, 0, r, j, x, e, hx => by
    simp at e
    subst e
    have hj := (List.getElem?_eq_some_iff.1 hx).1
    rw [spR_cons, Nat.zero_mul, Nat.zero_add, List.getElem?_append_left (by simpa using hj), List.getElem?_map, hx]
    rfl
  | r0 :: rs, h, i + 1, r, j, x, e, hx => by
    have h0 := h r0 (List.mem_cons_self ..)
    have := spR_get rs (fun y hy => h y (List.mem_cons_of_mem _ hy)) i r j x (by simpa using e) hx
    rw [spR_cons, List.getElem?_append_right (by rw [List.length_map, h0, Nat.add_mul, Nat.one_mul]; omega), List.length_map, h0, show (i + 1) * k + j - k = i * k + j by rw [Nat.add_mul, Nat.one_mul]; omega]
    exact this
theorem spR_cell {w : World} {b off k : Nat} {rs : List (List Int)} (h : rowCells w b off k rs) (hw : ∀ r, r ∈ rs → r.length = k) (hk : 0 < k) : ∀ (j : Nat) (u : Value), (spR rs)[j]? = some u → w.cell? ((⟨b, off, none⟩ : Addr).add j) = some u := by
  intro j u hj
  have hlt : j < rs.length * k := by have := (List.getElem?_eq_some_iff.1 hj).1; rwa [spR_len rs hw] at this
  have hi : j / k < rs.length := (Nat.div_lt_iff_lt_mul hk).2 hlt
  have hr := hw _ (List.getElem_mem hi)
  have hm : j % k < (rs[j / k]).length := by rw [hr]; exact Nat.mod_lt _ hk
  have e1 := spR_get rs hw (j / k) _ (j % k) _ (List.getElem?_eq_getElem hi) (List.getElem?_eq_getElem hm)
  have e2 := h (j / k) _ (List.getElem?_eq_getElem hi) (j % k) _ (List.getElem?_eq_getElem hm)
  have e3 : j / k * k + j % k = j := by rw [Nat.mul_comm]; exact Nat.div_add_mod j k
  rw [e3, hj] at e1
  rw [Nat.add_assoc, e3] at e2
  have hadd : (⟨b, off, none⟩ : Addr).add j = ⟨b, off + j, none⟩ := add_at _ _ _
  rw [hadd, e2, e1]
theorem spR_one {rs : List (List Int)} : ∀ u ∈ spR rs, u.oneCell' = true := by
  intro u hu
  unfold spR at hu
  obtain ⟨r, _, hr⟩ := List.mem_flatMap.1 hu
  obtain ⟨x, _, rfl⟩ := List.mem_map.1 hr
  rfl
theorem SlR.of {w : World} {B k : Nat} {e : TypeId} {v : Value} {rs : List (List Int)} (h : w.ownsRow B e k v rs.length (spR rs)) (hw : ∀ r, r ∈ rs → r.length = k) (hn : rs.length ≤ 1000000000000) : SlR k w v rs := by
  refine ⟨hw, ?_⟩
  rcases Go.Joins.ownsRow_forms h with ⟨rfl, h0⟩ | ⟨g, cap, rfl⟩
  · obtain rfl : rs = [] := by simpa using h0
    exact .inl ⟨rfl, rfl⟩
  · have h' := h
    obtain ⟨hl, h2⟩ := h
    rcases h2 with ⟨h3, _⟩ | ⟨g', cap', cur, h3, h4, h5, h6, h7, h8, h9⟩
    · cases h3
    · simp at h3
      obtain ⟨rfl, rfl⟩ := h3
      have hg : g < w.heap.size := by
        rcases Nat.lt_or_ge g w.heap.size with hx | hx
        · exact hx
        · simp [Array.getElem?_eq_none hx] at h5
      refine .inr ⟨g, 0, cap, rfl, h6, hn, hg, fun i r e j x hx => ?_⟩
      have hi := (List.getElem?_eq_some_iff.1 e).1
      have hj := (List.getElem?_eq_some_iff.1 hx).1
      have hr := hw r (List.mem_of_getElem? e)
      have hlt : i * k + j < rs.length * k := by
        have h1 : (i + 1) * k ≤ rs.length * k := Nat.mul_le_mul_right _ hi
        rw [Nat.add_mul, Nat.one_mul] at h1
        omega
      rw [Nat.zero_add, h'.cellAt _ hlt]
      exact spR_get rs hw i r j x e hx

/-- The empty slice that a law appends to. -/
theorem alloc_last' (w : World) (o : Obj) : (w.alloc o).heap[w.heap.size]? = some o := by unfold World.alloc; simp
theorem own_none (W : World) (B : Nat) (e : TypeId) (k : Nat) (hB : B ≤ W.heap.size) : (W.alloc (.cells #[] e)).ownsRow B e k (.slice (some ⟨W.heap.size, 0, none⟩) 0 0) 0 [] :=
  ⟨by simp, .inr ⟨W.heap.size, 0, #[], rfl, hB, alloc_last' W _, by omega, by unfold maxLen; omega, by simp, by simp⟩⟩

/-- A pair as a row of numbers. -/
def Pr.row (l : Pr) : List Int := [l.a, l.b]
theorem pr_len (ls : List Pr) : ∀ r, r ∈ ls.map Pr.row → r.length = 2 := fun r h => by
  obtain ⟨c, _, rfl⟩ := List.mem_map.1 h
  rfl
theorem pr_rows {w : World} {b off : Nat} {ls : List Pr} (h : ∀ (i : Nat) (c : Pr), ls[i]? = some c → PrAt w b (off + i * 2) c) : rowCells w b off 2 (ls.map Pr.row) := fun i r hr j x hx => by
  rw [List.getElem?_map] at hr
  cases hc : ls[i]? with
  | none => rw [hc] at hr; simp at hr
  | some c =>
    rw [hc] at hr
    simp at hr
    subst hr
    have g := h i c hc
    match j, hx with
    | 0, hx => simp [Pr.row] at hx; subst hx; simpa using g.c0
    | 1, hx => simp [Pr.row] at hx; subst hx; exact g.c1
    | n + 2, hx => simp [Pr.row] at hx
theorem pr_of {w : World} {v : Value} {ls : List Pr} (h : SlR 2 w v (ls.map Pr.row)) : SlPr w v ls := by
  rcases h.2 with ⟨h0, rfl⟩ | ⟨b, off, cap, rfl, h1, h2, h3, h4⟩
  · exact .inl ⟨by simpa using h0, rfl⟩
  · rw [List.length_map] at h1 h2 ⊢
    refine .inr ⟨b, off, cap, rfl, h1, h2, h3, fun i c hi => ?_⟩
    have hr : (ls.map Pr.row)[i]? = some c.row := by rw [List.getElem?_map, hi]; rfl
    have g := h4 i _ hr
    exact ⟨by simpa using g 0 _ rfl, by simpa using g 1 _ rfl⟩
/-- What a law's copy of pairs leaves. -/
theorem own_copy {w1 : World} {B : Nat} {e : TypeId} {v : Value} {ls : List Pr} (h : w1.ownsRow B e 2 v ls.length (spR (ls.map Pr.row))) (hn : ls.length ≤ 1000000000000) : SlPr w1 v ls :=
  pr_of (SlR.of (by rw [List.length_map]; exact h) (pr_len ls) (by rw [List.length_map]; exact hn))
end Go.Proofs.Ytbkabgbkdggnhaa
