/- Lists of axes and pulls, and a port by value: opened. -/
import Derived.Test.YtbkabgbkdggnhaaOpenM
import Derived.Test.YtbkabgbkdggnhaaMSl
import Derived.Deep.Slices
namespace Go.Proofs.Ytbkabgbkdggnhaa
open Go.ChangeShapes Go.WideShapes Go.ChangeAt Go.RowKit Go.Joins

theorem list2 {α : Type} {cs : List α} (h : cs.length = 2) : ∃ c0 c1, cs = [c0, c1] := by
  match cs, h with
  | [c0, c1], _ => exact ⟨c0, c1, rfl⟩
theorem trod_one {H : Type} {enc : TypeId × Value → H} {W : World} {base fuel : Nat} {spare : Nat → Bool} {held : Bool} {c0 : Value} {y : DataW H × List MemPlace}
    (h : DataW.trod enc Try.prog W base spare held fuel 3 [c0] = some y) : ∃ a : Int, c0 = .int .i64 a := by
  obtain ⟨a, e0, rfl, wa⟩ := DataW.trod_int Try.underlying3 h
  simp at e0
  exact ⟨a, e0⟩
section
variable {H : Type} {enc : TypeId × Value → H} {W : World} {base fuel : Nat} {spare : Nat → Bool} {held : Bool} {y : DataW H × List MemPlace}
set_option maxRecDepth 100000 in
theorem trod_prax {cs : List Value} (hl : cs.length = 2) (h : DataW.trod enc Try.prog W base spare held fuel 27 cs = some y) : ∃ l : Pr, cs = [.int .i64 l.a, .int .i64 l.b] := by
  obtain ⟨c0, c1, rfl⟩ := list2 hl
  obtain ⟨y0, y1, n, _, _, h0, h1⟩ := trod_struct2 Try.underlying27 h
  simp only [cells_int] at h0 h1
  obtain ⟨a, rfl⟩ := trod_one (by simpa using h0)
  obtain ⟨b, rfl⟩ := trod_one (by simpa using h1)
  exact ⟨⟨a, b⟩, rfl⟩
set_option maxRecDepth 100000 in
theorem trod_prsp {cs : List Value} (hl : cs.length = 2) (h : DataW.trod enc Try.prog W base spare held fuel 23 cs = some y) : ∃ l : Pr, cs = [.int .i64 l.a, .int .i64 l.b] := by
  obtain ⟨c0, c1, rfl⟩ := list2 hl
  obtain ⟨y0, y1, n, _, _, h0, h1⟩ := trod_struct2 Try.underlying23 h
  simp only [cells_int] at h0 h1
  obtain ⟨a, rfl⟩ := trod_one (by simpa using h0)
  obtain ⟨b, rfl⟩ := trod_one (by simpa using h1)
  exact ⟨⟨a, b⟩, rfl⟩
end
theorem add_off (b off k : Nat) : (⟨b, off, none⟩ : Addr).add k = ⟨b, off + k, none⟩ := by
  unfold Addr.add
  split
  · subst_vars; simp
  · rfl
set_option maxRecDepth 100000 in
/-- A slice that came in: opened. -/
theorem open_any {H : Type} {enc : TypeId × Value → H} {W : World} {base k lim : Nat} {spare : Nat → Bool} {held : Bool} {r : Reach} {b0 : Nat} {t e : TypeId} {v : Value} {d : DataW H} {p : List MemPlace} {α : Type} [Inhabited α] {At : World → Nat → Nat → α → Prop}
    (ht : Try.prog.underlying t = some (.slice e)) (hk : Try.prog.cellsOf e = k) (hlim : lim ≤ 1000000000000)
    (hel : ∀ (n : Nat) (cs : List Value) (y : DataW H × List MemPlace), cs.length = k → DataW.trod enc Try.prog W base spare held n e cs = some y → ∃ c : α, ∀ (b o : Nat), (∀ j, j < k → W.cell? ⟨b, o + j, none⟩ = cs[j]?) → At W b o c)
    (hv : Value.okWide Try.prog W r b0 t v) (h : DataW.Trod enc Try.prog W base spare held t v d p) :
    ∃ a len cap, v = .slice a len cap ∧ len ≤ maxLen ∧ (len ≤ lim → ∃ cs : List α, cs.length = len ∧ SlAny At k W v cs) := by
  obtain ⟨a, len, cap, rfl⟩ := okWide_slice ht hv
  obtain ⟨fuel, hf⟩ := h
  have hf' : DataW.trod enc Try.prog W base spare held fuel t [.slice a len cap] = some (d, p) := by simpa [Value.cells] using hf
  refine ⟨a, len, cap, rfl, ?_⟩
  rcases Deep.open_slice ht hf' with ⟨hcs, _⟩ | ⟨ad, len', cap', m, n, D, Pl, hcs, hb, hl, hm, hmm, _, hx⟩
  · simp at hcs
    obtain ⟨rfl, rfl, rfl⟩ := hcs
    exact ⟨by unfold maxLen; omega, fun _ => ⟨[], rfl, .inl ⟨rfl, rfl⟩⟩⟩
  · simp at hcs
    obtain ⟨rfl, rfl, rfl⟩ := hcs
    refine ⟨by omega, fun hlen => ?_⟩
    have hv2 : len ≤ cap ∧ (cap : Int) ≤ IntKind.i64.max ∧ W.has Try.prog r b0 ad e cap := by
      unfold Value.okWide Cell.okWide Cell.ok at hv
      simpa [ht] using hv
    obtain ⟨_, _, _, hspot, row, cells, hsh, _⟩ := hv2
    obtain ⟨b, off, spot⟩ := ad
    simp at hspot
    subst hspot
    have hblt : b < W.heap.size := by
      rcases Nat.lt_or_ge b W.heap.size with h' | h'
      · exact h'
      · simp [World.shape?, Array.getElem?_eq_none h'] at hsh
    have each : ∀ i, i < len → ∃ c : α, At W b (off + i * k) c := by
      intro i hi
      obtain ⟨cs', h1, h2⟩ := hx i (by rw [hmm]; split <;> omega)
      rw [hk] at h1
      obtain ⟨_, hlen, hcell⟩ := World.cells?_some h1
      obtain ⟨c, hc⟩ := hel _ _ _ hlen h2
      refine ⟨c, hc b (off + i * k) fun j hj => ?_⟩
      have e1 := hcell j hj
      rw [add_off, add_off] at e1
      exact e1
    obtain ⟨q, hq⟩ := Deep.choose_lt each
    refine ⟨(List.range len).map q, by simp, .inr ⟨b, off, cap, by simp, by simpa using hl, by simp; omega, hblt, ?_⟩⟩
    intro i c hi
    have hil : i < len := by have := (List.getElem?_eq_some_iff.1 hi).1; simpa using this
    have hqi : q i = c := by simpa [hil] using hi
    subst hqi
    exact hq i hil
section
variable {H : Type} {enc : TypeId × Value → H} {W : World} {base : Nat} {spare : Nat → Bool} {held : Bool} {r : Reach} {b0 : Nat} {v : Value} {d : DataW H} {p : List MemPlace}
theorem cells_ax : Try.prog.cellsOf 27 = 2 := by kernel_rfl
theorem cells_sp : Try.prog.cellsOf 23 = 2 := by kernel_rfl
theorem cells_axl : Try.prog.cellsOf 42 = 1 := by kernel_rfl
theorem cells_spl : Try.prog.cellsOf 43 = 1 := by kernel_rfl
set_option maxRecDepth 100000 in
theorem open_ax (hv : Value.okWide Try.prog W r b0 42 v) (h : DataW.Trod enc Try.prog W base spare held 42 v d p) :
    ∃ a len cap, v = .slice a len cap ∧ len ≤ maxLen ∧ (len ≤ 50 → ∃ cs : List Pr, cs.length = len ∧ SlPr W v cs) :=
  open_any Try.underlying42 cells_ax (by omega) (fun n cs y hl ht => by
    obtain ⟨l, rfl⟩ := trod_prax hl ht
    exact ⟨l, fun b o hc => ⟨hc 0 (by omega), hc 1 (by omega)⟩⟩) hv h
set_option maxRecDepth 100000 in
theorem open_sp (hv : Value.okWide Try.prog W r b0 43 v) (h : DataW.Trod enc Try.prog W base spare held 43 v d p) :
    ∃ a len cap, v = .slice a len cap ∧ len ≤ maxLen ∧ (len ≤ 50 → ∃ cs : List Pr, cs.length = len ∧ SlPr W v cs) :=
  open_any Try.underlying43 cells_sp (by omega) (fun n cs y hl ht => by
    obtain ⟨l, rfl⟩ := trod_prsp hl ht
    exact ⟨l, fun b o hc => ⟨hc 0 (by omega), hc 1 (by omega)⟩⟩) hv h
theorem cells_port : Try.prog.cellsOf 45 = 5 := by kernel_rfl
theorem types_port : Try.prog.cellTypes Try.prog.depth 45 = some [42, 3, 3, 43, 3] := by kernel_rfl
theorem array5 {α : Type} {cs : Array α} (h : cs.size = 5) : ∃ c0 c1 c2 c3 c4, cs = #[c0, c1, c2, c3, c4] := by
  obtain ⟨l⟩ := cs
  match l, h with
  | [c0, c1, c2, c3, c4], _ => exact ⟨c0, c1, c2, c3, c4, rfl⟩
set_option maxRecDepth 100000 in
theorem open_port (hv : Value.okWide Try.prog W r b0 45 v) (h : DataW.Trod enc Try.prog W base spare held 45 v d p) :
    ∃ (a0 a3 : Option Addr) (n0 n3 k0 k3 : Nat) (i1 i2 i4 : Int), v = .agg #[.slice a0 n0 k0, .int .i64 i1, .int .i64 i2, .slice a3 n3 k3, .int .i64 i4] ∧ n0 ≤ maxLen ∧ n3 ≤ maxLen ∧
      (n0 ≤ 50 → ∃ cs : List Pr, cs.length = n0 ∧ SlPr W (.slice a0 n0 k0) cs) ∧ (n3 ≤ 50 → ∃ cs : List Pr, cs.length = n3 ∧ SlPr W (.slice a3 n3 k3) cs) := by
  have hv0 := hv
  obtain ⟨cs, rfl, hsz⟩ := okWide_struct Try.underlying45 hv
  obtain ⟨c0, c1, c2, c3, c4, rfl⟩ := array5 (hsz.trans cells_port)
  obtain ⟨fuel, hf⟩ := h
  obtain ⟨xs, n, _, _, hl, hlen, hf⟩ := DataW.trod_struct Try.underlying45 hf
  have h0 := hf 0 _ rfl
  have h1 := hf 1 _ rfl
  have h2 := hf 2 _ rfl
  have h3 := hf 3 _ rfl
  have h4 := hf 4 _ rfl
  simp only [Value.okWide, Try.underlying45] at hv0
  obtain ⟨cs', e, _, ts, hts, _, hall⟩ := hv0
  injection e with e
  subst e
  rw [types_port] at hts
  cases hts
  match xs, hlen with
  | [y0, y1, y2, y3, y4], _ =>
    obtain ⟨i1, rfl⟩ := trod_one (y := y1) (by simpa [cells_int, cells_axl, cells_spl, Value.cells] using h1)
    obtain ⟨i2, rfl⟩ := trod_one (y := y2) (by simpa [cells_int, cells_axl, cells_spl, Value.cells] using h2)
    obtain ⟨i4, rfl⟩ := trod_one (y := y4) (by simpa [cells_int, cells_axl, cells_spl, Value.cells] using h4)
    have hv1 : Value.okWide Try.prog W r b0 42 c0 := by
      obtain ⟨u, hu, hc⟩ := hall 0 c0 rfl
      simp at hu
      subst hu
      unfold Value.okWide
      simpa [Try.underlying42] using hc
    have hv2 : Value.okWide Try.prog W r b0 43 c3 := by
      obtain ⟨u, hu, hc⟩ := hall 3 c3 rfl
      simp at hu
      subst hu
      unfold Value.okWide
      simpa [Try.underlying43] using hc
    obtain ⟨a0, n0, k0, rfl⟩ := okWide_slice Try.underlying42 hv1
    obtain ⟨a3, n3, k3, rfl⟩ := okWide_slice Try.underlying43 hv2
    obtain ⟨a', len', cap', e, hm, hk⟩ := open_ax hv1 (d := y0.1) (p := y0.2) ⟨n, by simpa [cells_int, cells_axl, cells_spl, Value.cells] using h0⟩
    injection e with e1 e2 e3
    subst e1 e2 e3
    obtain ⟨a', len', cap', e, hm3, hk3⟩ := open_sp hv2 (d := y3.1) (p := y3.2) ⟨n, by simpa [cells_int, cells_axl, cells_spl, Value.cells] using h3⟩
    injection e with e1 e2 e3
    subst e1 e2 e3
    exact ⟨a0, a3, n0, n3, k0, k3, i1, i2, i4, rfl, hm, hm3, hk, hk3⟩
end
end Go.Proofs.Ytbkabgbkdggnhaa
