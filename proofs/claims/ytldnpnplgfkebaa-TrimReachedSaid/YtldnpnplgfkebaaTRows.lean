/- Loads as rows of numbers; a law's own copy of them. -/
import Derived.Test.YtldnpnplgfkebaaTInts
import Derived.Laws.AppendOwnNone
namespace Go.Proofs.Ytldnpnplgfkebaa
open Go.RowKit

/-- The rows in memory. -/
def rowCells (w : World) (b off k : Nat) (rs : List (List Int)) : Prop := ∀ (i : Nat) (r : List Int), rs[i]? = some r → ∀ (j : Nat) (x : Int), r[j]? = some x → w.cell? ⟨b, off + i * k + j, none⟩ = some (.int .i64 x)
/-- A slice value that holds these rows. -/
def SlR (k : Nat) (w : World) (v : Value) (rs : List (List Int)) : Prop :=
  (∀ r, r ∈ rs → r.length = k) ∧ ((rs = [] ∧ v = .slice none 0 0) ∨ ∃ (b off cap : Nat), v = .slice (some ⟨b, off, none⟩) rs.length cap ∧ rs.length ≤ cap ∧ rs.length ≤ 1000000000000 ∧ b < w.heap.size ∧ rowCells w b off k rs)
theorem rowCells.later {W w1 : World} {b off k : Nat} {rs : List (List Int)} (h : rowCells W b off k rs) (hb : Below W.heap.size W w1) : rowCells w1 b off k rs := fun i r e j x hj => cell_later hb (h i r e j x hj)
theorem SlR.later {W w1 : World} {k : Nat} {v : Value} {rs : List (List Int)} (h : SlR k W v rs) (hb : Below W.heap.size W w1) : SlR k w1 v rs := by
  obtain ⟨hw, h⟩ := h
  refine ⟨hw, ?_⟩
  rcases h with h | ⟨b, off, cap, h1, h2, h3, h4, h5⟩
  · exact .inl h
  · exact .inr ⟨b, off, cap, h1, h2, h3, by have := hb.size; omega, h5.later hb⟩
theorem SlR.form {w : World} {k : Nat} {v : Value} {rs : List (List Int)} (h : SlR k w v rs) : ∃ (a : Option Addr) (cap : Nat), v = .slice a rs.length cap ∧ rs.length ≤ 1000000000000 := by
  rcases h.2 with ⟨rfl, rfl⟩ | ⟨b, off, cap, rfl, _, h3, _⟩
  · exact ⟨_, _, rfl, by simp⟩
  · exact ⟨_, _, rfl, h3⟩
theorem SlR.full {w : World} {k : Nat} {v : Value} {rs : List (List Int)} (h : SlR k w v rs) (h0 : 0 < rs.length) :
    ∃ (b off cap : Nat), v = .slice (some ⟨b, off, none⟩) rs.length cap ∧ rs.length ≤ cap ∧ rs.length ≤ 1000000000000 ∧ b < w.heap.size ∧ rowCells w b off k rs := by
  rcases h.2 with ⟨rfl, _⟩ | h
  · simp at h0
  · exact h
theorem SlR.row {w : World} {k : Nat} {v : Value} {rs : List (List Int)} (h : SlR k w v rs) {i : Nat} (hi : i < rs.length) : ∃ r, rs[i]? = some r ∧ r.length = k :=
  ⟨rs[i], List.getElem?_eq_getElem hi, h.1 _ (List.getElem_mem hi)⟩

/-- The rows' values, one after another. -/
def spR (rs : List (List Int)) : List Value := rs.flatMap fun r => r.map (Value.int .i64)
theorem spR_cons (r : List Int) (rs : List (List Int)) : spR (r :: rs) = r.map (Value.int .i64) ++ spR rs := rfl
theorem spR_len {k : Nat} : ∀ (rs : List (List Int)), (∀ r, r ∈ rs → r.length = k) → (spR rs).length = rs.length * k
  | [], _ => by simp [spR]
  | r :: rs, h => by
    have := spR_len rs (fun x hx => h x (List.mem_cons_of_mem _ hx))
    have h0 := h r (List.mem_cons_self ..)
    rw [spR_cons, List.length_append, List.length_map, this, h0, List.length_cons, Nat.add_mul, Nat.one_mul, Nat.add_comm]
theorem spR_get {k : Nat} : ∀ (rs : List (List Int)), (∀ r, r ∈ rs → r.length = k) → ∀ (i : Nat) (r : List Int) (j : Nat) (x : Int), rs[i]? = some r → r[j]? = some x → (spR rs)[i * k + j]? = some (.int .i64 x)
  | [], _, i, r, j, x, e, _ => by simp at e
  | r0 :: rs, h, 0, r, j, x, e, hx => by
    simp at e
    subst e
    have hj := (List.getElem?_eq_some_iff.1 hx).1
    rw [spR_cons, Nat.zero_mul, Nat.zero_add, List.getElem?_append_left (by simpa using hj), List.getElem?_map, hx]
    rfl
  | r0 :: rs, h, i + 1, r, j, x, e, hx => by
    have h0 := h r0 (List.mem_cons_self ..)
    have := spR_get rs (fun y hy => h y (List.mem_cons_of_mem _ hy)) i r j x (by simpa using e) hx
    rw [spR_cons, List.getElem?_append_right (by rw [List.length_map, h0, Nat.add_mul, Nat.one_mul]; omega), List.length_map, h0, show (i + 1) * k + j - k = i * k + j by rw [Nat.add_mul, Nat.one_mul]; omega]
    exact this
theorem spR_cell {w : World} {b off k : Nat} {rs : List (List Int)} (h : rowCells w b off k rs) (hw : ∀ r, r ∈ rs → r.length = k) (hk : 0 < k) : ∀ (j : Nat) (u : Value), (spR rs)[j]? = some u → w.cell? ((⟨b, off, none⟩ : Addr).add j) = some u := by
  intro j u hj
  have hlt : j < rs.length * k := by have := (List.getElem?_eq_some_iff.1 hj).1; rwa [spR_len rs hw] at this
  have hi : j / k < rs.length := (Nat.div_lt_iff_lt_mul hk).2 hlt
  have hr := hw _ (List.getElem_mem hi)
  have hm : j % k < (rs[j / k]).length := by rw [hr]; exact Nat.mod_lt _ hk
  have e1 := spR_get rs hw (j / k) _ (j % k) _ (List.getElem?_eq_getElem hi) (List.getElem?_eq_getElem hm)
  have e2 := h (j / k) _ (List.getElem?_eq_getElem hi) (j % k) _ (List.getElem?_eq_getElem hm)
  have e3 : j / k * k + j % k = j := by rw [Nat.mul_comm]; exact Nat.div_add_mod j k
  rw [e3, hj] at e1
  rw [Nat.add_assoc, e3] at e2
  have hadd : (⟨b, off, none⟩ : Addr).add j = ⟨b, off + j, none⟩ := add_at _ _ _
  rw [hadd, e2, e1]
theorem spR_one {rs : List (List Int)} : ∀ u ∈ spR rs, u.oneCell' = true := by
  intro u hu
  unfold spR at hu
  obtain ⟨r, _, hr⟩ := List.mem_flatMap.1 hu
  obtain ⟨x, _, rfl⟩ := List.mem_map.1 hr
  rfl
theorem SlR.of {w : World} {B k : Nat} {e : TypeId} {v : Value} {rs : List (List Int)} (h : w.ownsRow B e k v rs.length (spR rs)) (hw : ∀ r, r ∈ rs → r.length = k) (hn : rs.length ≤ 1000000000000) : SlR k w v rs := by
  refine ⟨hw, ?_⟩
  rcases Go.Joins.ownsRow_forms h with ⟨rfl, h0⟩ | ⟨g, cap, rfl⟩
  · obtain rfl : rs = [] := by simpa using h0
    exact .inl ⟨rfl, rfl⟩
  · have h' := h
    obtain ⟨hl, h2⟩ := h
    rcases h2 with ⟨h3, _⟩ | ⟨g', cap', cur, h3, h4, h5, h6, h7, h8, h9⟩
    · cases h3
    · simp at h3
      obtain ⟨rfl, rfl⟩ := h3
      have hg : g < w.heap.size := by
        rcases Nat.lt_or_ge g w.heap.size with hx | hx
        · exact hx
        · simp [Array.getElem?_eq_none hx] at h5
      refine .inr ⟨g, 0, cap, rfl, h6, hn, hg, fun i r e j x hx => ?_⟩
      have hi := (List.getElem?_eq_some_iff.1 e).1
      have hj := (List.getElem?_eq_some_iff.1 hx).1
      have hr := hw r (List.mem_of_getElem? e)
      have hlt : i * k + j < rs.length * k := by
        have h1 : (i + 1) * k ≤ rs.length * k := Nat.mul_le_mul_right _ hi
        rw [Nat.add_mul, Nat.one_mul] at h1
        omega
      rw [Nat.zero_add, h'.cellAt _ hlt]
      exact spR_get rs hw i r j x e hx

/-- The empty slice that a law appends to. -/
theorem alloc_last' (w : World) (o : Obj) : (w.alloc o).heap[w.heap.size]? = some o := by unfold World.alloc; simp
theorem own_none (W : World) (B : Nat) (e : TypeId) (k : Nat) (hB : B ≤ W.heap.size) : (W.alloc (.cells #[] e)).ownsRow B e k (.slice (some ⟨W.heap.size, 0, none⟩) 0 0) 0 [] :=
  ⟨by simp, .inr ⟨W.heap.size, 0, #[], rfl, hB, alloc_last' W _, by omega, by unfold maxLen; omega, by simp, by simp⟩⟩

/-- A load as a row of numbers. -/
def Ld.row (l : Ld) : List Int := [l.a0, l.a1, l.w0, l.w1]
theorem ld_len (ls : List Ld) : ∀ r, r ∈ ls.map Ld.row → r.length = 4 := fun r h => by
  obtain ⟨c, _, rfl⟩ := List.mem_map.1 h
  rfl
theorem ld_rows {w : World} {b off : Nat} {ls : List Ld} (h : ∀ (i : Nat) (c : Ld), ls[i]? = some c → LdAt w b (off + i * 4) c) : rowCells w b off 4 (ls.map Ld.row) := fun i r hr j x hx => by
  rw [List.getElem?_map] at hr
  cases hc : ls[i]? with
  | none => rw [hc] at hr; simp at hr
  | some c =>
    rw [hc] at hr
    simp at hr
    subst hr
    have g := h i c hc
    match j, hx with
    | 0, hx => simp [Ld.row] at hx; subst hx; simpa using g.c0
    | 1, hx => simp [Ld.row] at hx; subst hx; exact g.c1
    | 2, hx => simp [Ld.row] at hx; subst hx; exact g.c2
    | 3, hx => simp [Ld.row] at hx; subst hx; exact g.c3
    | n + 4, hx => simp [Ld.row] at hx
theorem ld_of {w : World} {v : Value} {ls : List Ld} (h : SlR 4 w v (ls.map Ld.row)) : SlLd w v ls := by
  rcases h.2 with ⟨h0, rfl⟩ | ⟨b, off, cap, rfl, h1, h2, h3, h4⟩
  · exact .inl ⟨by simpa using h0, rfl⟩
  · rw [List.length_map] at h1 h2 ⊢
    refine .inr ⟨b, off, cap, rfl, h1, h2, h3, fun i c hi => ?_⟩
    have hr : (ls.map Ld.row)[i]? = some c.row := by rw [List.getElem?_map, hi]; rfl
    have g := h4 i _ hr
    exact ⟨by simpa using g 0 _ rfl, by simpa using g 1 _ rfl, by simpa using g 2 _ rfl, by simpa using g 3 _ rfl⟩
/-- What a law's copy of loads leaves. -/
theorem own_copy {w1 : World} {B : Nat} {e : TypeId} {v : Value} {ls : List Ld} (h : w1.ownsRow B e 4 v ls.length (spR (ls.map Ld.row))) (hn : ls.length ≤ 1000000000000) : SlLd w1 v ls :=
  ld_of (SlR.of (by rw [List.length_map]; exact h) (ld_len ls) (by rw [List.length_map]; exact hn))
end Go.Proofs.Ytldnpnplgfkebaa
