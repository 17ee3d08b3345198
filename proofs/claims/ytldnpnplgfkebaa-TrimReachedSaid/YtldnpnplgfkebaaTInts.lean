/- Rows of puts that are appended to. -/
import Derived.Test.YtldnpnplgfkebaaTBox
import Derived.Laws.OwnMore
import Derived.Lib.SmallJoins
import Derived.Laws.AppendOwnNone
namespace Go.Proofs.Ytldnpnplgfkebaa
open Go.RowKit

/-- The puts' values, one after another. -/
def spP (ps : List Pu) : List Value := ps.flatMap fun p => [.int .i64 p.p, .int .i64 p.w]
theorem spP_app (ps : List Pu) (p : Pu) : spP (ps ++ [p]) = spP ps ++ [.int .i64 p.p, .int .i64 p.w] := by simp [spP]
theorem spP_len : ∀ (ps : List Pu), (spP ps).length = ps.length * 2
  | [] => rfl
  | p :: ps => by
    have := spP_len ps
    unfold spP at *
    rw [List.flatMap_cons, List.length_append, this]
    simp; omega
theorem spP_get : ∀ (ps : List Pu) (i : Nat) (p : Pu), ps[i]? = some p → (spP ps)[i * 2]? = some (.int .i64 p.p) ∧ (spP ps)[i * 2 + 1]? = some (.int .i64 p.w)
  | [], i, p, e => by simp at e
  | p0 :: ps, 0, p, e => by
    simp at e
    subst e
    exact ⟨rfl, rfl⟩
  | p0 :: ps, i + 1, p, e => by
    have := spP_get ps i p (by simpa using e)
    have hc : spP (p0 :: ps) = .int .i64 p0.p :: .int .i64 p0.w :: spP ps := rfl
    rw [hc, show (i + 1) * 2 = i * 2 + 1 + 1 by omega]
    exact this
theorem own_below {w w' : World} {B e size n : Nat} {v : Value} {xs : List Value} (h : w.ownsRow B e size v n xs) (hb : Below w.heap.size w w') : w'.ownsRow B e size v n xs := by
  obtain ⟨hl, h⟩ := h
  refine ⟨hl, ?_⟩
  rcases h with h | ⟨g, cap, cur, h1, h2, h3, h4⟩
  · exact .inl h
  · refine .inr ⟨g, cap, cur, h1, h2, ?_, h4⟩
    have hg : g < w.heap.size := by
      rcases Nat.lt_or_ge g w.heap.size with hx | hx
      · exact hx
      · simp [Array.getElem?_eq_none hx] at h3
    rw [hb.block g hg]; exact h3
theorem SlPu.of {w : World} {B : Nat} {e : TypeId} {v : Value} {ps : List Pu} (h : w.ownsRow B e 2 v ps.length (spP ps)) (hn : ps.length ≤ 1000000000000) : SlPu w v ps := by
  rcases Go.Joins.ownsRow_forms h with ⟨rfl, h0⟩ | ⟨g, cap, rfl⟩
  · obtain rfl : ps = [] := by simpa using h0
    exact .inl ⟨rfl, rfl⟩
  · have h' := h
    obtain ⟨hl, h2⟩ := h
    rcases h2 with ⟨h3, _⟩ | ⟨g', cap', cur, h3, h4, h5, h6, h7, h8, h9⟩
    · cases h3
    · simp at h3
      obtain ⟨rfl, rfl⟩ := h3
      have hg : g < w.heap.size := by
        rcases Nat.lt_or_ge g w.heap.size with hx | hx
        · exact hx
        · simp [Array.getElem?_eq_none hx] at h5
      refine .inr ⟨g, 0, cap, rfl, h6, hn, hg, fun i c e => ?_⟩
      have hi := (List.getElem?_eq_some_iff.1 e).1
      obtain ⟨e0, e1⟩ := spP_get ps i c e
      refine ⟨?_, ?_⟩
      · rw [Nat.zero_add, h'.cellAt _ (by omega)]; exact e0
      · rw [Nat.zero_add, h'.cellAt _ (by omega)]; exact e1
theorem own_no (w : World) (B e k : Nat) : w.ownsRow B e k (.slice none 0 0) 0 [] := ⟨by simp, .inl ⟨rfl, rfl⟩⟩
theorem grown_below {B e k : Nat} {w0 w w1 : World} {v : Value} {n : Nat} {xs : List Value} {o : Obj} (h : w.ownsRow B e k v n xs) (hB0 : Below B w0 w) (hB : B ≤ w.heap.size) (hg : (w.alloc o).grownBy w1 v.ownBlock) : Below B w0 w1 ∧ B ≤ w1.heap.size := by
  have hsz := hg.size
  simp at hsz
  refine ⟨hB0.trans ⟨hg.os, hg.tape, hg.output, by omega, fun k hk => ?_⟩, by omega⟩
  rw [hg.block k (by simp; omega) (fun e => by have := (h.lt k e.symm).1; omega)]
  exact ((Below.refl w.heap.size w).alloc (Nat.le_refl _) o).block k (by omega)
theorem add_at (b off k : Nat) : (⟨b, off, none⟩ : Addr).add k = ⟨b, off + k, none⟩ := by
  unfold Addr.add
  split
  · subst_vars; simp
  · rfl
theorem two_new (w : World) (x y : Value) (t : TypeId) : ∀ (j : Nat) (u : Value), [x, y][j]? = some u → (w.alloc (.cells #[x, y] t)).cell? ((⟨w.heap.size, 0, none⟩ : Addr).add j) = some u := by
  intro j u hj
  rw [add_at, Nat.zero_add]
  rcases j with _ | _ | j
  · simp at hj; subst hj; go_cell
  · simp at hj; subst hj; go_cell
  · simp at hj
theorem one_put {w : World} {g o c : Nat} {p : Pu} (h : PuAt w g o p) (hc : 1 ≤ c) : SlPu w (.slice (some ⟨g, o, none⟩) 1 c) [p] := by
  refine .inr ⟨g, o, c, rfl, by simpa using hc, by simp, World.block_lt_of_cell? _ _ h.c0, fun i y e => ?_⟩
  rcases i with _ | i
  · simp at e; subst e; simpa using h
  · simp at e
end Go.Proofs.Ytldnpnplgfkebaa
/- Rows of whole numbers that are appended to; SameInts of two lists with the same numbers. -/
namespace Go.Proofs.Ytldnpnplgfkebaa
open Go.RowKit

/-- A slice of whole numbers. -/
def IntAt (w : World) (b o : Nat) (n : Int) : Prop := w.cell? ⟨b, o, none⟩ = some (.int .i64 n)
theorem IntAt.later : Stays IntAt := fun k hb => cell_later hb k
abbrev SlI := SlAny IntAt 1
theorem inLater {w w1 : World} {v : Value} {l : List Int} (h : SlAny IntAt 1 w v l) (hb : Below w.heap.size w w1) : SlAny IntAt 1 w1 v l := SlAny.later (At := IntAt) IntAt.later h hb
def spI (zs : List Int) : List Value := zs.map (Value.int .i64)
theorem spI_app (zs : List Int) (z : Int) : spI (zs ++ [z]) = spI zs ++ [.int .i64 z] := by simp [spI]
theorem spI_get {zs : List Int} {i : Nat} {z : Int} (h : zs[i]? = some z) : (spI zs)[i]? = some (.int .i64 z) := by unfold spI; rw [List.getElem?_map, h]; rfl
theorem SlI.of {w : World} {B : Nat} {e : TypeId} {v : Value} {zs : List Int} (h : w.ownsRow B e 1 v zs.length (spI zs)) (hn : zs.length ≤ 1000000000000) : SlI w v zs := by
  rcases Go.Joins.ownsRow_forms h with ⟨rfl, h0⟩ | ⟨g, cap, rfl⟩
  · obtain rfl : zs = [] := by simpa using h0
    exact .inl ⟨rfl, rfl⟩
  · have h' := h
    obtain ⟨hl, h2⟩ := h
    rcases h2 with ⟨h3, _⟩ | ⟨g', cap', cur, h3, h4, h5, h6, h7, h8, h9⟩
    · cases h3
    · simp at h3
      obtain ⟨rfl, rfl⟩ := h3
      have hg : g < w.heap.size := by
        rcases Nat.lt_or_ge g w.heap.size with hx | hx
        · exact hx
        · simp [Array.getElem?_eq_none hx] at h5
      refine .inr ⟨g, 0, cap, rfl, h6, hn, hg, fun i c e => ?_⟩
      have hi := (List.getElem?_eq_some_iff.1 e).1
      unfold IntAt
      rw [Nat.zero_add, Nat.mul_one, h'.cellAt _ (by omega)]
      exact spI_get e
theorem one_new (w : World) (x : Value) (t : TypeId) : ∀ (j : Nat) (u : Value), [x][j]? = some u → (w.alloc (.cells #[x] t)).cell? ((⟨w.heap.size, 0, none⟩ : Addr).add j) = some u := by
  intro j u hj
  rw [add_at, Nat.zero_add]
  rcases j with _ | j
  · simp at hj; subst hj; go_cell
  · simp at hj
def SiHead (n : Nat) (w wr : World) (v5 : Value) : Prop := ∃ k : Nat, k ≤ n ∧ v5 = .int .i64 k ∧ Below w.heap.size w wr
set_option maxHeartbeats 4000000 in
theorem sameInts_eq (v1 v2 : Value) (ps : List Int) (w : World) (h1 : SlI w v1 ps) (h2 : SlI w v2 ps) :
    Calls Try.prog 38 #[v1, v2] w fun e w' => e = .returned (.bool true) ∧ Below w.heap.size w w' := by
  obtain ⟨a1, cap1, rfl, hl1, _⟩ := h1.form
  obtain ⟨a2, cap2, rfl, hl2, _⟩ := h2.form
  have C1 := Lib.hid h1
  have C2 := Lib.hid h2
  clear h1 h2
  go_enter Try.func38, Try.ntmps38
  go_wp2_with fail
  go_loopw [5] (fun v5 wr => SiHead ps.length w wr v5) (fun v5 _ => ps.length - (intOf v5).toNat)
  case atStart => exact ⟨0, by omega, rfl, Below.refl _ _⟩
  case round =>
    obtain ⟨k, hk, rfl, hbr⟩ := hrel
    by_cases hlt : k < ps.length
    · obtain ⟨g1, o1, c, rfl, _, hc, e⟩ := C1.out.at hlt
      obtain ⟨g2, o2, c', rfl, _, hc', f⟩ := C2.out.at hlt
      rw [hc] at hc'
      cases hc'
      have e0 : wr.cell? ⟨g1, o1 + k, none⟩ = some (.int .i64 c) := by have := IntAt.later e hbr; unfold IntAt at this; rw [Nat.mul_one] at this; exact this
      have f0 : wr.cell? ⟨g2, o2 + k, none⟩ = some (.int .i64 c) := by have := IntAt.later f hbr; unfold IntAt at this; rw [Nat.mul_one] at this; exact this
      have hk0 : (0 : Int) ≤ (k : Int) := by omega
      have hk1 : (k : Int) < (ps.length : Int) := by omega
      clear hc e f
      go_wp2_with fail
      go_quiet (fail)
      have hbr2 := below_drewN hbr nq
      go_wp2_with fail
      go_roundw
      case rel => exact ⟨k + 1, by omega, by go_num, hbr2⟩
      case measure => simp [intOf]; omega
    · go_wp2_with fail
      go_returns
      exact ⟨rfl, hbr⟩
end Go.Proofs.Ytldnpnplgfkebaa
