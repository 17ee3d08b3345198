/- Lists of loads, limits, frames, puts that came in: opened. -/
import Derived.Test.YtldnpnplgfkebaaFrame
import Derived.Test.YtldnpnplgfkebaaTSl
import Derived.Deep.Slices
namespace Go.Proofs.Ytldnpnplgfkebaa
open Go.ChangeShapes Go.WideShapes Go.ChangeAt Go.RowKit Go.Joins

theorem cells_int : Try.prog.cellsOf 3 = 1 := by kernel_rfl
set_option maxRecDepth 100000 in
theorem trod_span {H : Type} {enc : TypeId × Value → H} {W : World} {base fuel : Nat} {spare : Nat → Bool} {held : Bool} {c0 c1 : Value} {y : DataW H × List MemPlace}
    (h : DataW.trod enc Try.prog W base spare held fuel 37 [c0, c1] = some y) : ∃ a b : Int, c0 = .int .i64 a ∧ c1 = .int .i64 b := by
  obtain ⟨y0, y1, n, rfl, _, h0, h1⟩ := trod_struct2 Try.underlying37 h
  simp only [cells_int] at h0 h1
  obtain ⟨a, e0, rfl, wa⟩ := DataW.trod_int Try.underlying3 h0
  obtain ⟨b, e1, rfl, wb⟩ := DataW.trod_int Try.underlying3 h1
  simp at e0 e1
  exact ⟨a, b, e0, e1⟩
theorem trod_one {H : Type} {enc : TypeId × Value → H} {W : World} {base fuel : Nat} {spare : Nat → Bool} {held : Bool} {c0 : Value} {y : DataW H × List MemPlace}
    (h : DataW.trod enc Try.prog W base spare held fuel 3 [c0] = some y) : ∃ a : Int, c0 = .int .i64 a := by
  obtain ⟨a, e0, rfl, wa⟩ := DataW.trod_int Try.underlying3 h
  simp at e0
  exact ⟨a, e0⟩
theorem cells_load : Try.prog.cellsOf 91 = 4 := by kernel_rfl
theorem cells_limit : Try.prog.cellsOf 35 = 3 := by kernel_rfl
theorem cells_frame : Try.prog.cellsOf 102 = 3 := by kernel_rfl
theorem cells_put : Try.prog.cellsOf 89 = 2 := by kernel_rfl
theorem list2 {α : Type} {cs : List α} (h : cs.length = 2) : ∃ c0 c1, cs = [c0, c1] := by
  match cs, h with
  | [c0, c1], _ => exact ⟨c0, c1, rfl⟩
theorem list3 {α : Type} {cs : List α} (h : cs.length = 3) : ∃ c0 c1 c2, cs = [c0, c1, c2] := by
  match cs, h with
  | [c0, c1, c2], _ => exact ⟨c0, c1, c2, rfl⟩
theorem list4 {α : Type} {cs : List α} (h : cs.length = 4) : ∃ c0 c1 c2 c3, cs = [c0, c1, c2, c3] := by
  match cs, h with
  | [c0, c1, c2, c3], _ => exact ⟨c0, c1, c2, c3, rfl⟩
section
variable {H : Type} {enc : TypeId × Value → H} {W : World} {base fuel : Nat} {spare : Nat → Bool} {held : Bool} {y : DataW H × List MemPlace}
set_option maxRecDepth 100000 in
theorem trod_load {cs : List Value} (hl : cs.length = 4) (h : DataW.trod enc Try.prog W base spare held fuel 91 cs = some y) : ∃ l : Ld, cs = [.int .i64 l.a0, .int .i64 l.a1, .int .i64 l.w0, .int .i64 l.w1] := by
  obtain ⟨c0, c1, c2, c3, rfl⟩ := list4 hl
  obtain ⟨y0, y1, n, _, _, h0, h1⟩ := trod_struct2 Try.underlying91 h
  simp only [cells_span] at h0 h1
  obtain ⟨a, b, rfl, rfl⟩ := trod_span (by simpa using h0)
  obtain ⟨c, d, rfl, rfl⟩ := trod_span (by simpa using h1)
  exact ⟨⟨a, b, c, d⟩, rfl⟩
set_option maxRecDepth 100000 in
theorem trod_put {cs : List Value} (hl : cs.length = 2) (h : DataW.trod enc Try.prog W base spare held fuel 89 cs = some y) : ∃ l : Pu, cs = [.int .i64 l.p, .int .i64 l.w] := by
  obtain ⟨c0, c1, rfl⟩ := list2 hl
  obtain ⟨y0, y1, n, _, _, h0, h1⟩ := trod_struct2 Try.underlying89 h
  simp only [cells_int] at h0 h1
  obtain ⟨a, rfl⟩ := trod_one (by simpa using h0)
  obtain ⟨b, rfl⟩ := trod_one (by simpa using h1)
  exact ⟨⟨a, b⟩, rfl⟩
set_option maxRecDepth 100000 in
theorem trod_limit {cs : List Value} (hl : cs.length = 3) (h : DataW.trod enc Try.prog W base spare held fuel 35 cs = some y) : ∃ a b c : Int, cs = [.int .i64 a, .int .i64 b, .int .i64 c] := by
  obtain ⟨c0, c1, c2, rfl⟩ := list3 hl
  obtain ⟨xs, n, _, _, hl, hlen, hf⟩ := DataW.trod_struct Try.underlying35 h
  have h0 := hf 0 _ rfl
  have h1 := hf 1 _ rfl
  have h2 := hf 2 _ rfl
  match xs, hlen with
  | [y0, y1, y2], _ =>
    obtain ⟨a, rfl⟩ := trod_one (y := y0) (by simpa [cells_int] using h0)
    obtain ⟨b, rfl⟩ := trod_one (y := y1) (by simpa [cells_int] using h1)
    obtain ⟨c, rfl⟩ := trod_one (y := y2) (by simpa [cells_int] using h2)
    exact ⟨a, b, c, rfl⟩
set_option maxRecDepth 100000 in
theorem trod_frame {cs : List Value} (hl : cs.length = 3) (h : DataW.trod enc Try.prog W base spare held fuel 102 cs = some y) : ∃ a b c : Int, cs = [.int .i64 a, .int .i64 b, .int .i64 c] := by
  obtain ⟨c0, c1, c2, rfl⟩ := list3 hl
  obtain ⟨xs, n, _, _, hl, hlen, hf⟩ := DataW.trod_struct Try.underlying102 h
  have h0 := hf 0 _ rfl
  have h1 := hf 1 _ rfl
  have h2 := hf 2 _ rfl
  match xs, hlen with
  | [y0, y1, y2], _ =>
    obtain ⟨a, rfl⟩ := trod_one (y := y0) (by simpa [cells_int] using h0)
    obtain ⟨b, rfl⟩ := trod_one (y := y1) (by simpa [cells_int] using h1)
    obtain ⟨c, rfl⟩ := trod_one (y := y2) (by simpa [cells_int] using h2)
    exact ⟨a, b, c, rfl⟩
end
theorem add_off (b off k : Nat) : (⟨b, off, none⟩ : Addr).add k = ⟨b, off + k, none⟩ := by
  unfold Addr.add
  split
  · subst_vars; simp
  · rfl
set_option maxRecDepth 100000 in
/-- A slice that came in: opened. -/
theorem open_any {H : Type} {enc : TypeId × Value → H} {W : World} {base k lim : Nat} {spare : Nat → Bool} {held : Bool} {r : Reach} {b0 : Nat} {t e : TypeId} {v : Value} {d : DataW H} {p : List MemPlace} {α : Type} [Inhabited α] {At : World → Nat → Nat → α → Prop}
    (ht : Try.prog.underlying t = some (.slice e)) (hk : Try.prog.cellsOf e = k) (hlim : lim ≤ 1000000000000)
    (hel : ∀ (n : Nat) (cs : List Value) (y : DataW H × List MemPlace), cs.length = k → DataW.trod enc Try.prog W base spare held n e cs = some y → ∃ c : α, ∀ (b o : Nat), (∀ j, j < k → W.cell? ⟨b, o + j, none⟩ = cs[j]?) → At W b o c)
    (hv : Value.okWide Try.prog W r b0 t v) (h : DataW.Trod enc Try.prog W base spare held t v d p) :
    ∃ a len cap, v = .slice a len cap ∧ len ≤ maxLen ∧ (len ≤ lim → ∃ cs : List α, cs.length = len ∧ SlAny At k W v cs) := by
  obtain ⟨a, len, cap, rfl⟩ := okWide_slice ht hv
  obtain ⟨fuel, hf⟩ := h
  have hf' : DataW.trod enc Try.prog W base spare held fuel t [.slice a len cap] = some (d, p) := by simpa [Value.cells] using hf
  refine ⟨a, len, cap, rfl, ?_⟩
  rcases Deep.open_slice ht hf' with ⟨hcs, _⟩ | ⟨ad, len', cap', m, n, D, Pl, hcs, hb, hl, hm, hmm, _, hx⟩
  · simp at hcs
    obtain ⟨rfl, rfl, rfl⟩ := hcs
    exact ⟨by unfold maxLen; omega, fun _ => ⟨[], rfl, .inl ⟨rfl, rfl⟩⟩⟩
  · simp at hcs
    obtain ⟨rfl, rfl, rfl⟩ := hcs
    refine ⟨by omega, fun hlen => ?_⟩
    have hv2 : len ≤ cap ∧ (cap : Int) ≤ IntKind.i64.max ∧ W.has Try.prog r b0 ad e cap := by
      unfold Value.okWide Cell.okWide Cell.ok at hv
      simpa [ht] using hv
    obtain ⟨_, _, _, hspot, row, cells, hsh, _⟩ := hv2
    obtain ⟨b, off, spot⟩ := ad
    simp at hspot
    subst hspot
    have hblt : b < W.heap.size := by
      rcases Nat.lt_or_ge b W.heap.size with h' | h'
      · exact h'
      · simp [World.shape?, Array.getElem?_eq_none h'] at hsh
    have each : ∀ i, i < len → ∃ c : α, At W b (off + i * k) c := by
      intro i hi
      obtain ⟨cs', h1, h2⟩ := hx i (by rw [hmm]; split <;> omega)
      rw [hk] at h1
      obtain ⟨_, hlen, hcell⟩ := World.cells?_some h1
      obtain ⟨c, hc⟩ := hel _ _ _ hlen h2
      refine ⟨c, hc b (off + i * k) fun j hj => ?_⟩
      have e1 := hcell j hj
      rw [add_off, add_off] at e1
      exact e1
    obtain ⟨q, hq⟩ := Deep.choose_lt each
    refine ⟨(List.range len).map q, by simp, .inr ⟨b, off, cap, by simp, by simpa using hl, by simp; omega, hblt, ?_⟩⟩
    intro i c hi
    have hil : i < len := by have := (List.getElem?_eq_some_iff.1 hi).1; simpa using this
    have hqi : q i = c := by simpa [hil] using hi
    subst hqi
    exact hq i hil
section
variable {H : Type} {enc : TypeId × Value → H} {W : World} {base : Nat} {spare : Nat → Bool} {held : Bool} {r : Reach} {b0 : Nat} {v : Value} {d : DataW H} {p : List MemPlace}
set_option maxRecDepth 100000 in
theorem open_loads (hv : Value.okWide Try.prog W r b0 22 v) (h : DataW.Trod enc Try.prog W base spare held 22 v d p) :
    ∃ a len cap, v = .slice a len cap ∧ len ≤ maxLen ∧ (len ≤ 50 → ∃ cs : List Ld, cs.length = len ∧ SlLd W v cs) :=
  open_any Try.underlying22 cells_load (by omega) (fun n cs y hl ht => by
    obtain ⟨l, rfl⟩ := trod_load hl ht
    exact ⟨l, fun b o hc => ⟨hc 0 (by omega), hc 1 (by omega), hc 2 (by omega), hc 3 (by omega)⟩⟩) hv h
set_option maxRecDepth 100000 in
theorem open_limits (hv : Value.okWide Try.prog W r b0 23 v) (h : DataW.Trod enc Try.prog W base spare held 23 v d p) :
    ∃ a len cap, v = .slice a len cap ∧ len ≤ maxLen ∧ (len ≤ 50 → ∃ cs : List Li, cs.length = len ∧ SlLi W v cs) :=
  open_any Try.underlying23 cells_limit (by omega) (fun n cs y hl ht => by
    obtain ⟨a, b, c, rfl⟩ := trod_limit hl ht
    exact ⟨⟨a, b, c⟩, fun b o hc => ⟨hc 0 (by omega), hc 1 (by omega), hc 2 (by omega)⟩⟩) hv h
set_option maxRecDepth 100000 in
theorem open_frames (hv : Value.okWide Try.prog W r b0 24 v) (h : DataW.Trod enc Try.prog W base spare held 24 v d p) :
    ∃ a len cap, v = .slice a len cap ∧ len ≤ maxLen ∧ (len ≤ 50 → ∃ cs : List Fr, cs.length = len ∧ SlFr W v cs) :=
  open_any Try.underlying24 cells_frame (by omega) (fun n cs y hl ht => by
    obtain ⟨a, b, c, rfl⟩ := trod_frame hl ht
    exact ⟨⟨a, b, c⟩, fun b o hc => ⟨hc 0 (by omega), hc 1 (by omega), hc 2 (by omega)⟩⟩) hv h
set_option maxRecDepth 100000 in
theorem open_puts (hv : Value.okWide Try.prog W r b0 42 v) (h : DataW.Trod enc Try.prog W base spare held 42 v d p) :
    ∃ a len cap, v = .slice a len cap ∧ len ≤ maxLen ∧ (len ≤ 50 → ∃ cs : List Pu, cs.length = len ∧ SlPu W v cs) :=
  open_any Try.underlying42 cells_put (by omega) (fun n cs y hl ht => by
    obtain ⟨l, rfl⟩ := trod_put hl ht
    exact ⟨l, fun b o hc => ⟨hc 0 (by omega), hc 1 (by omega)⟩⟩) hv h
set_option maxRecDepth 100000 in
theorem open_limit (hv : Value.okWide Try.prog W r b0 35 v) (h : DataW.Trod enc Try.prog W base spare held 35 v d p) : ∃ l : Li, v = liV l := by
  obtain ⟨cs, rfl, hsz⟩ := okWide_struct Try.underlying35 hv
  obtain ⟨fuel, hf⟩ := h
  obtain ⟨a, b, c, e⟩ := trod_limit (cs := cs.toList) (by simpa using hsz.trans cells_limit) hf
  obtain ⟨ll⟩ := cs
  simp at e
  exact ⟨⟨a, b, c⟩, by rw [e]⟩
end
end Go.Proofs.Ytldnpnplgfkebaa
