/- Rows of whole numbers that are appended to; SameInts of two lists with the same numbers. -/
import Derived.Test.YtldnpnplgfkebaaTOwn
import Derived.Laws.AppendOwnNone
namespace Go.Proofs.Ytldnpnplgfkebaa
open Go.RowKit

/-- A slice of whole numbers. -/
def IntAt (w : World) (b o : Nat) (n : Int) : Prop := w.cell? ⟨b, o, none⟩ = some (.int .i64 n)
theorem IntAt.later : Stays IntAt := fun k hb => cell_later hb k
abbrev SlI := SlAny IntAt 1
theorem inLater {w w1 : World} {v : Value} {l : List Int} (h : SlAny IntAt 1 w v l) (hb : Below w.heap.size w w1) : SlAny IntAt 1 w1 v l := SlAny.later (At := IntAt) IntAt.later h hb
def spI (zs : List Int) : List Value := zs.map (Value.int .i64)
theorem spI_app (zs : List Int) (z : Int) : spI (zs ++ [z]) = spI zs ++ [.int .i64 z] := by simp [spI]
theorem spI_get {zs : List Int} {i : Nat} {z : Int} (h : zs[i]? = some z) : (spI zs)[i]? = some (.int .i64 z) := by unfold spI; rw [List.getElem?_map, h]; rfl
theorem SlI.of {w : World} {B : Nat} {e : TypeId} {v : Value} {zs : List Int} (h : w.ownsRow B e 1 v zs.length (spI zs)) (hn : zs.length ≤ 1000000000000) : SlI w v zs := by
  rcases Go.Joins.ownsRow_forms h with ⟨rfl, h0⟩ | ⟨g, cap, rfl⟩
  · obtain rfl : zs = [] := by simpa using h0
    exact .inl ⟨rfl, rfl⟩
  · have h' := h
    obtain ⟨hl, h2⟩ := h
    rcases h2 with ⟨h3, _⟩ | ⟨g', cap', cur, h3, h4, h5, h6, h7, h8, h9⟩
    · cases h3
    · simp at h3
      obtain ⟨rfl, rfl⟩ := h3
      have hg : g < w.heap.size := by
        rcases Nat.lt_or_ge g w.heap.size with hx | hx
        · exact hx
        · simp [Array.getElem?_eq_none hx] at h5
      refine .inr ⟨g, 0, cap, rfl, h6, hn, hg, fun i c e => ?_⟩
      have hi := (List.getElem?_eq_some_iff.1 e).1
      unfold IntAt
      rw [Nat.zero_add, Nat.mul_one, h'.cellAt _ (by omega)]
      exact spI_get e
theorem one_new (w : World) (x : Value) (t : TypeId) : ∀ (j : Nat) (u : Value), [x][j]? = some u → (w.alloc (.cells #[x] t)).cell? ((⟨w.heap.size, 0, none⟩ : Addr).add j) = some u := by
  intro j u hj
  rw [add_at, Nat.zero_add]
  rcases j with _ | j
  · simp at hj; subst hj; go_cell
  · simp at hj
def SiHead (n : Nat) (w wr : World) (v5 : Value) : Prop := ∃ k : Nat, k ≤ n ∧ v5 = .int .i64 k ∧ Below w.heap.size w wr
set_option maxHeartbeats 4000000 in
theorem sameInts_eq (v1 v2 : Value) (ps : List Int) (w : World) (h1 : SlI w v1 ps) (h2 : SlI w v2 ps) :
    Calls Try.prog 38 #[v1, v2] w fun e w' => e = .returned (.bool true) ∧ Below w.heap.size w w' := by
  obtain ⟨a1, cap1, rfl, hl1, _⟩ := h1.form
  obtain ⟨a2, cap2, rfl, hl2, _⟩ := h2.form
  have C1 := Lib.hid h1
  have C2 := Lib.hid h2
  clear h1 h2
  go_enter Try.func38, Try.ntmps38
  go_wp2_with fail
  go_loopw [5] (fun v5 wr => SiHead ps.length w wr v5) (fun v5 _ => ps.length - (intOf v5).toNat)
  case atStart => exact ⟨0, by omega, rfl, Below.refl _ _⟩
  case round =>
    obtain ⟨k, hk, rfl, hbr⟩ := hrel
    by_cases hlt : k < ps.length
    · obtain ⟨g1, o1, c, rfl, _, hc, e⟩ := C1.out.at hlt
      obtain ⟨g2, o2, c', rfl, _, hc', f⟩ := C2.out.at hlt
      rw [hc] at hc'
      cases hc'
      have e0 : wr.cell? ⟨g1, o1 + k, none⟩ = some (.int .i64 c) := by have := IntAt.later e hbr; unfold IntAt at this; rw [Nat.mul_one] at this; exact this
      have f0 : wr.cell? ⟨g2, o2 + k, none⟩ = some (.int .i64 c) := by have := IntAt.later f hbr; unfold IntAt at this; rw [Nat.mul_one] at this; exact this
      have hk0 : (0 : Int) ≤ (k : Int) := by omega
      have hk1 : (k : Int) < (ps.length : Int) := by omega
      clear hc e f
      go_wp2_with fail
      go_quiet (fail)
      have hbr2 := below_drewN hbr nq
      go_wp2_with fail
      go_roundw
      case rel => exact ⟨k + 1, by omega, by go_num, hbr2⟩
      case measure => simp [intOf]; omega
    · go_wp2_with fail
      go_returns
      exact ⟨rfl, hbr⟩
end Go.Proofs.Ytldnpnplgfkebaa
