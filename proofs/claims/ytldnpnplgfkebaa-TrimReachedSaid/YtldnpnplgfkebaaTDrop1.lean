/- Puts as rows; what Drop says, in one. -/
import Derived.Test.YtldnpnplgfkebaaTDrop
import Derived.Test.YtldnpnplgfkebaaTRows
namespace Go.Proofs.Ytldnpnplgfkebaa
open Go.RowKit

/-- A put as a row. -/
def Pu.row (p : Pu) : List Int := [p.p, p.w]
theorem spP_row (ps : List Pu) : spP ps = spR (ps.map Pu.row) := by
  unfold spP spR
  rw [List.flatMap_map]
  rfl
theorem pu_len (ps : List Pu) : ∀ r, r ∈ ps.map Pu.row → r.length = 2 := fun r h => by
  obtain ⟨p, _, rfl⟩ := List.mem_map.1 h
  rfl
theorem pu_rows {w : World} {b off : Nat} {ps : List Pu} (h : ∀ (i : Nat) (c : Pu), ps[i]? = some c → PuAt w b (off + i * 2) c) : rowCells w b off 2 (ps.map Pu.row) := fun i r hr j x hx => by
  rw [List.getElem?_map] at hr
  obtain ⟨p, hp, rfl⟩ := Option.map_eq_some_iff.1 hr
  have g := h i p hp
  match j, hx with
  | 0, hx => simp [Pu.row] at hx; subst hx; simpa using g.c0
  | 1, hx => simp [Pu.row] at hx; subst hx; exact g.c1
  | j + 2, hx => simp [Pu.row] at hx
/-- What Drop says, in one: the error, and the bags. -/
def dropN (ls : List Ld) (ps : List Pu) (ms : List Li) : Int := if bagsN ls ps ms = 0 then (match dropE ls ps ms with | none => 6 | some _ => 0) else bagsN ls ps ms
def dropL (ls : List Ld) (ps : List Pu) (ms : List Li) : List Int := if bagsN ls ps ms = 0 then (match dropE ls ps ms with | none => [] | some zs => zs) else []
theorem DropP.one {ls : List Ld} {ps : List Pu} {ms : List Li} {w w' : World} {e : Ending} (h : DropP ls ps ms w e w') : ∃ v, e = .returned (.tuple #[v, .int .i64 (dropN ls ps ms)]) ∧ SlI w' v (dropL ls ps ms) ∧ Below w.heap.size w w' := by
  unfold dropN dropL
  rcases h with ⟨h0, h1, h2⟩ | ⟨h0, h3, h1, h2⟩ | ⟨h0, zs, v, h3, h1, h4, h2⟩
  · rw [if_neg h0, if_neg h0]
    exact ⟨_, h1, .inl ⟨rfl, rfl⟩, h2⟩
  · rw [if_pos h0, if_pos h0, h3]
    exact ⟨_, h1, .inl ⟨rfl, rfl⟩, h2⟩
  · rw [if_pos h0, if_pos h0, h3]
    exact ⟨_, h1, h4, h2⟩
theorem drop_one (v q u : Value) (ls : List Ld) (ps : List Pu) (ms : List Li) (w : World) (hv : SlLd w v ls) (hq : SlPu w q ps) (hu : SlLi w u ms) :
    Calls Try.prog 39 #[v, q, u] w fun e w' => ∃ r, e = .returned (.tuple #[r, .int .i64 (dropN ls ps ms)]) ∧ SlI w' r (dropL ls ps ms) ∧ Below w.heap.size w w' :=
  (drop_any v q u ls ps ms w hv hq hu).mono fun _ _ h => h.one
end Go.Proofs.Ytldnpnplgfkebaa
