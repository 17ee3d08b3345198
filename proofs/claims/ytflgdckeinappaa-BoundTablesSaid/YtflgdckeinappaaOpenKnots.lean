/- A slice of knots that came in: opened. -/
import Derived.Test.YtflgdckeinappaaOpenWind
import Derived.Test.YtflgdckeinappaaCheckTable
import Derived.Deep.Slices
namespace Go.Proofs.Ytflgdckeinappaa
open Go.ChangeShapes Go.WideShapes Go.ChangeAt Go.RowKit Go.Joins

theorem cells_knot : Try.prog.cellsOf 94 = 3 := by kernel_rfl
set_option maxRecDepth 100000 in
theorem trod_knot {H : Type} {enc : TypeId × Value → H} {W : World} {base fuel : Nat} {spare : Nat → Bool} {held : Bool} {c0 c1 c2 : Value} {y : DataW H × List MemPlace}
    (h : DataW.trod enc Try.prog W base spare held fuel 94 [c0, c1, c2] = some y) : ∃ a l u : Int, c0 = .int .i64 a ∧ c1 = .int .i64 l ∧ c2 = .int .i64 u := by
  obtain ⟨y0, y1, n, rfl, _, h0, h1⟩ := trod_struct2 Try.underlying94 h
  simp only [cells_int, cells_span] at h0 h1
  obtain ⟨a, e0, rfl, wa⟩ := DataW.trod_int Try.underlying3 h0
  obtain ⟨l, u, e1, e2⟩ := trod_span (by simpa using h1)
  simp at e0
  exact ⟨a, l, u, e0, e1, e2⟩
theorem list3 {α : Type} {cs : List α} (h : cs.length = 3) : ∃ c0 c1 c2, cs = [c0, c1, c2] := by
  match cs, h with
  | [c0, c1, c2], _ => exact ⟨c0, c1, c2, rfl⟩
theorem add_none (b off k : Nat) : (⟨b, off, none⟩ : Addr).add k = ⟨b, off + k, none⟩ := by
  unfold Addr.add
  split
  · subst_vars; simp
  · rfl
set_option maxRecDepth 100000 in
theorem open_knots {H : Type} {enc : TypeId × Value → H} {W : World} {base : Nat} {spare : Nat → Bool} {held : Bool} {r : Reach} {b0 : Nat} {v : Value} {d : DataW H} {p : List MemPlace}
    (hv : Value.okWide Try.prog W r b0 41 v) (h : DataW.Trod enc Try.prog W base spare held 41 v d p) :
    ∃ a len cap, v = .slice a len cap ∧ len ≤ maxLen ∧ (len ≤ 40 → ∃ ks : List (Int × Int × Int), ks.length = len ∧ SlK W v ks) := by
  obtain ⟨a, len, cap, rfl⟩ := okWide_slice Try.underlying41 hv
  obtain ⟨fuel, hf⟩ := h
  have hf' : DataW.trod enc Try.prog W base spare held fuel 41 [.slice a len cap] = some (d, p) := by simpa [Value.cells] using hf
  refine ⟨a, len, cap, rfl, ?_⟩
  rcases Deep.open_slice Try.underlying41 hf' with ⟨hcs, _⟩ | ⟨ad, len', cap', m, n, D, Pl, hcs, hb, hl, hm, hmm, _, hx⟩
  · simp at hcs
    obtain ⟨rfl, rfl, rfl⟩ := hcs
    exact ⟨by unfold maxLen; omega, fun _ => ⟨[], rfl, .inl ⟨rfl, rfl⟩⟩⟩
  · simp at hcs
    obtain ⟨rfl, rfl, rfl⟩ := hcs
    refine ⟨by omega, fun h40 => ?_⟩
    have hv2 : len ≤ cap ∧ (cap : Int) ≤ IntKind.i64.max ∧ W.has Try.prog r b0 ad 94 cap := by
      unfold Value.okWide Cell.okWide Cell.ok at hv
      simpa [Try.underlying41] using hv
    obtain ⟨_, _, _, hspot, row, cells, hsh, _⟩ := hv2
    obtain ⟨b, off, spot⟩ := ad
    simp at hspot
    subst hspot
    have hblt : b < W.heap.size := by
      rcases Nat.lt_or_ge b W.heap.size with h' | h'
      · exact h'
      · simp [World.shape?, Array.getElem?_eq_none h'] at hsh
    have each : ∀ i, i < len → ∃ q : Int × Int × Int, W.cell? ⟨b, off + i * 3, none⟩ = some (.int .i64 q.1) ∧ W.cell? ⟨b, off + i * 3 + 1, none⟩ = some (.int .i64 q.2.1) ∧ W.cell? ⟨b, off + i * 3 + 2, none⟩ = some (.int .i64 q.2.2) := by
      intro i hi
      obtain ⟨cs', h1, h2⟩ := hx i (by rw [hmm]; split <;> omega)
      rw [cells_knot] at h1
      obtain ⟨_, hlen, hcell⟩ := World.cells?_some h1
      obtain ⟨c0, c1, c2, rfl⟩ := list3 hlen
      obtain ⟨x, l, u, rfl, rfl, rfl⟩ := trod_knot h2
      have e0 := hcell 0 (by omega)
      have e1 := hcell 1 (by omega)
      have e2 := hcell 2 (by omega)
      rw [add_none, add_none] at e0 e1 e2
      exact ⟨(x, l, u), by simpa using e0, by simpa using e1, by simpa using e2⟩
    obtain ⟨q, hq⟩ := Deep.choose_lt each
    refine ⟨(List.range len).map q, by simp, .inr ⟨b, off, cap, by simp, by simpa using hl, by simp; omega, hblt, ?_⟩⟩
    intro i x l u hi
    have hil : i < len := by have := (List.getElem?_eq_some_iff.1 hi).1; simpa using this
    have hqi : q i = (x, l, u) := by simpa [hil] using hi
    have := hq i hil
    rw [hqi] at this
    exact this
end Go.Proofs.Ytflgdckeinappaa
