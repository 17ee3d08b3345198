/- A row of puts that is made and then filled, one after another. -/
import Derived.Test.YtldnpnplgfkebaaTBox
import Derived.Laws.MakeOwn
import Derived.Test.YtldnpnplgfkebaaTEnds
namespace Go.Proofs.Ytldnpnplgfkebaa
open Go.RowKit

/-- So many zeros. -/
def zeros (m : Nat) : Array Value := madeCells #[.int .i64 0, .int .i64 0] m
theorem zeros_get {m j : Nat} (h : j < m) : (zeros m)[j]? = some (.int .i64 0) := by
  unfold zeros madeCells
  have : j % 2 = 0 ∨ j % 2 = 1 := by omega
  rcases this with e | e <;> simp [h, e]
theorem make_puts (n : Nat) (hn : n ≤ 1000) (W : World) : (Instr.makeSlice 42 (.int .i64 n) (.int .i64 n)).run Try.prog W = .ok (.slice (some ⟨W.heap.size, 0, none⟩) n n) (W.alloc (.cells (zeros (n * 2)) 89)) := by
  have hi2 : (Try.prog.info? 89).map (fun i => (i.zero, i.size, i.bytes)) = some (some (.agg #[.int .i64 0, .int .i64 0]), 2, 16) := by kernel_rfl
  obtain ⟨i, hi, e⟩ := Option.map_eq_some_iff.1 hi2
  simp only [Prod.mk.injEq] at e
  obtain ⟨e1, e2, e3⟩ := e
  have hr := run_make (P := Try.prog) W 42 89 i _ (by kernel_rfl) hi e1 .i64 .i64 n n (by omega) (by omega) (by rw [e3]; omega) (by omega)
  rw [e2] at hr
  simpa [zeros, Value.cells] using hr
/-- A row of n puts, the first k of which are done. -/
structure MadeTo (w : World) (g n k : Nat) (f : Nat → Pu) : Prop where
  put : ∀ i, i < k → PuAt w g (i * 2) (f i)
  old : ∀ j, j < n * 2 → ∃ x, w.cell? ⟨g, j, none⟩ = some x
  fz : ∀ j, w.frozen? ⟨g, j, none⟩ = false
  lt : g < w.heap.size
theorem MadeTo.later {w w1 : World} {g n k : Nat} {f : Nat → Pu} (h : MadeTo w g n k f) (hb : Below w.heap.size w w1) : MadeTo w1 g n k f :=
  ⟨fun i hi => PuAt.later (h.put i hi) hb, fun j hj => (h.old j hj).imp fun _ e => cell_later hb e, fun j => by rw [(bcell hb).2 _ _ h.lt]; exact h.fz j, by have := h.lt; have := hb.size; omega⟩
theorem MadeTo.start (w : World) (n : Nat) (f : Nat → Pu) : MadeTo (w.alloc (.cells (zeros (n * 2)) 89)) w.heap.size n 0 f :=
  ⟨fun i hi => by omega, fun j hj => ⟨_, by rw [World.cell?_alloc_at _ _ _ _ rfl]; exact zeros_get hj⟩, fun j => World.frozen?_alloc_at _ _ _ _ rfl, by simp⟩
theorem MadeTo.store {w : World} {g n k : Nat} {f : Nat → Pu} (h : MadeTo w g n k f) (hk : k < n) : MadeTo ((w.setCell ⟨g, k * 2, none⟩ (.int .i64 (f k).p)).setCell ⟨g, k * 2 + 1, none⟩ (.int .i64 (f k).w)) g n (k + 1) f := by
  obtain ⟨x0, e0⟩ := h.old (k * 2) (by omega)
  obtain ⟨x1, e1⟩ := h.old (k * 2 + 1) (by omega)
  have hne : (⟨g, k * 2, none⟩ : Addr) ≠ ⟨g, k * 2 + 1, none⟩ := by simp
  have hfar : ∀ j, j ≠ k * 2 → j ≠ k * 2 + 1 → ((w.setCell ⟨g, k * 2, none⟩ (.int .i64 (f k).p)).setCell ⟨g, k * 2 + 1, none⟩ (.int .i64 (f k).w)).cell? ⟨g, j, none⟩ = w.cell? ⟨g, j, none⟩ := fun j h1 h2 => by
    rw [World.cell?_setCell_other _ _ _ _ (fun e => by simp at e), World.cell?_setCell_other _ _ _ _ (fun e => by simp at e)]
  have h0 : ((w.setCell ⟨g, k * 2, none⟩ (.int .i64 (f k).p)).setCell ⟨g, k * 2 + 1, none⟩ (.int .i64 (f k).w)).cell? ⟨g, k * 2, none⟩ = some (.int .i64 (f k).p) := by
    rw [World.cell?_setCell_other _ _ _ _ (Ne.symm hne)]; exact World.cell?_setCell_same _ _ _ e0
  have h1 : ((w.setCell ⟨g, k * 2, none⟩ (.int .i64 (f k).p)).setCell ⟨g, k * 2 + 1, none⟩ (.int .i64 (f k).w)).cell? ⟨g, k * 2 + 1, none⟩ = some (.int .i64 (f k).w) :=
    World.cell?_setCell_same _ _ _ (u := x1) (by rw [World.cell?_setCell_other _ _ _ _ hne]; exact e1)
  refine ⟨fun i hi => ?_, fun j hj => ?_, fun j => by simp [h.fz], by simpa using h.lt⟩
  · by_cases e : i = k
    · subst e; exact ⟨h0, h1⟩
    · have k0 := h.put i (by omega)
      exact ⟨by rw [hfar _ (by omega) (by omega)]; exact k0.c0, by rw [hfar _ (by omega) (by omega)]; exact k0.c1⟩
  · by_cases e : j = k * 2
    · subst e; exact ⟨_, h0⟩
    · by_cases e' : j = k * 2 + 1
      · subst e'; exact ⟨_, h1⟩
      · rw [hfar j e e']; exact h.old j hj
theorem MadeTo.done {w : World} {g : Nat} {α : Type} [Inhabited α] {F : α → Pu} {ls : List α} (h : MadeTo w g ls.length ls.length (fun i => F (ls.getD i default))) (hl : ls.length ≤ 1000) : SlPu w (.slice (some ⟨g, 0, none⟩) ls.length ls.length) (ls.map F) := by
  refine .inr ⟨g, 0, ls.length, by rw [List.length_map], by rw [List.length_map]; omega, by rw [List.length_map]; omega, h.lt, fun i c e => ?_⟩
  have hi : i < ls.length := by have := (List.getElem?_eq_some_iff.1 e).1; simpa using this
  have hc : c = F (ls.getD i default) := by
    rw [List.getElem?_map, List.getElem?_eq_getElem hi] at e
    rw [List.getD_eq_getElem?_getD, List.getElem?_eq_getElem hi]
    simpa using e.symm
  subst hc
  rw [Nat.zero_add]
  exact h.put i hi
end Go.Proofs.Ytldnpnplgfkebaa
/- Package trim: astern. -/
namespace Go.Proofs.Ytldnpnplgfkebaa
open Go.RowKit

theorem zeros4_get {m j : Nat} (h : j < m) : (madeCells #[.int .i64 0, .int .i64 0, .int .i64 0, .int .i64 0] m)[j]? = some (.int .i64 0) := by
  unfold madeCells
  have : j % 4 = 0 ∨ j % 4 = 1 ∨ j % 4 = 2 ∨ j % 4 = 3 := by omega
  rcases this with e | e | e | e <;> simp [h, e]
/-- So many zeros, four by four. -/
def zeros4 (m : Nat) : Array Value := madeCells #[.int .i64 0, .int .i64 0, .int .i64 0, .int .i64 0] m
theorem make_loads (n : Nat) (hn : n ≤ 1000) (W : World) : (Instr.makeSlice 22 (.int .i64 n) (.int .i64 n)).run Try.prog W = .ok (.slice (some ⟨W.heap.size, 0, none⟩) n n) (W.alloc (.cells (zeros4 (n * 4)) 91)) := by
  have hi2 : (Try.prog.info? 91).map (fun i => (i.zero, i.size, i.bytes)) = some (some (.agg #[.int .i64 0, .int .i64 0, .int .i64 0, .int .i64 0]), 4, 32) := by kernel_rfl
  obtain ⟨i, hi, e⟩ := Option.map_eq_some_iff.1 hi2
  simp only [Prod.mk.injEq] at e
  obtain ⟨e1, e2, e3⟩ := e
  have hr := run_make (P := Try.prog) W 22 91 i _ (by kernel_rfl) hi e1 .i64 .i64 n n (by omega) (by omega) (by rw [e3]; omega) (by omega)
  rw [e2] at hr
  simpa [zeros4, Value.cells] using hr
/-- A row of n loads, the first k of which are done. -/
structure MadeL (w : World) (g n k : Nat) (f : Nat → Ld) : Prop where
  put : ∀ i, i < k → LdAt w g (i * 4) (f i)
  old : ∀ j, j < n * 4 → ∃ x, w.cell? ⟨g, j, none⟩ = some x
  fz : ∀ j, w.frozen? ⟨g, j, none⟩ = false
  lt : g < w.heap.size
theorem MadeL.later {w w1 : World} {g n k : Nat} {f : Nat → Ld} (h : MadeL w g n k f) (hb : Below w.heap.size w w1) : MadeL w1 g n k f :=
  ⟨fun i hi => LdAt.later (h.put i hi) hb, fun j hj => (h.old j hj).imp fun _ e => cell_later hb e, fun j => by rw [(bcell hb).2 _ _ h.lt]; exact h.fz j, by have := h.lt; have := hb.size; omega⟩
theorem MadeL.start (w : World) (n : Nat) (f : Nat → Ld) : MadeL (w.alloc (.cells (zeros4 (n * 4)) 91)) w.heap.size n 0 f :=
  ⟨fun i hi => by omega, fun j hj => ⟨_, by rw [World.cell?_alloc_at _ _ _ _ rfl]; exact zeros4_get hj⟩, fun j => World.frozen?_alloc_at _ _ _ _ rfl, by simp⟩
/-- Four cells stored. -/
def set4 (w : World) (g o : Nat) (l : Ld) : World := (((w.setCell ⟨g, o, none⟩ (.int .i64 l.a0)).setCell ⟨g, o + 1, none⟩ (.int .i64 l.a1)).setCell ⟨g, o + 2, none⟩ (.int .i64 l.w0)).setCell ⟨g, o + 3, none⟩ (.int .i64 l.w1)
theorem ne_off {g a b : Nat} (h : a ≠ b) : (⟨g, a, none⟩ : Addr) ≠ ⟨g, b, none⟩ := fun e => by injection e with _ e; exact h e
theorem set4_far (w : World) (g o : Nat) (l : Ld) {j : Nat} (h0 : j ≠ o) (h1 : j ≠ o + 1) (h2 : j ≠ o + 2) (h3 : j ≠ o + 3) : (set4 w g o l).cell? ⟨g, j, none⟩ = w.cell? ⟨g, j, none⟩ := by
  unfold set4
  rw [World.cell?_setCell_other _ _ _ _ (ne_off (Ne.symm h3)), World.cell?_setCell_other _ _ _ _ (ne_off (Ne.symm h2)), World.cell?_setCell_other _ _ _ _ (ne_off (Ne.symm h1)), World.cell?_setCell_other _ _ _ _ (ne_off (Ne.symm h0))]
theorem set4_at {w : World} {g o : Nat} {x0 x1 x2 x3 : Value} (l : Ld) (h0 : w.cell? ⟨g, o, none⟩ = some x0) (h1 : w.cell? ⟨g, o + 1, none⟩ = some x1) (h2 : w.cell? ⟨g, o + 2, none⟩ = some x2) (h3 : w.cell? ⟨g, o + 3, none⟩ = some x3) : LdAt (set4 w g o l) g o l := by
  unfold set4
  refine ⟨?_, ?_, ?_, ?_⟩
  · rw [World.cell?_setCell_other _ _ _ _ (ne_off (by omega)), World.cell?_setCell_other _ _ _ _ (ne_off (by omega)), World.cell?_setCell_other _ _ _ _ (ne_off (by omega))]
    exact World.cell?_setCell_same _ _ _ h0
  · rw [World.cell?_setCell_other _ _ _ _ (ne_off (by omega)), World.cell?_setCell_other _ _ _ _ (ne_off (by omega))]
    exact World.cell?_setCell_same _ _ _ (by rw [World.cell?_setCell_other _ _ _ _ (ne_off (by omega))]; exact h1)
  · rw [World.cell?_setCell_other _ _ _ _ (ne_off (by omega))]
    exact World.cell?_setCell_same _ _ _ (by rw [World.cell?_setCell_other _ _ _ _ (ne_off (by omega)), World.cell?_setCell_other _ _ _ _ (ne_off (by omega))]; exact h2)
  · exact World.cell?_setCell_same _ _ _ (by rw [World.cell?_setCell_other _ _ _ _ (ne_off (by omega)), World.cell?_setCell_other _ _ _ _ (ne_off (by omega)), World.cell?_setCell_other _ _ _ _ (ne_off (by omega))]; exact h3)
theorem MadeL.store {w : World} {g n k : Nat} {f : Nat → Ld} (h : MadeL w g n k f) (hk : k < n) : MadeL (set4 w g (k * 4) (f k)) g n (k + 1) f := by
  obtain ⟨x0, e0⟩ := h.old (k * 4) (by omega)
  obtain ⟨x1, e1⟩ := h.old (k * 4 + 1) (by omega)
  obtain ⟨x2, e2⟩ := h.old (k * 4 + 2) (by omega)
  obtain ⟨x3, e3⟩ := h.old (k * 4 + 3) (by omega)
  have hat := set4_at (f k) e0 e1 e2 e3
  refine ⟨fun i hi => ?_, fun j hj => ?_, fun j => by unfold set4; simp [h.fz], by unfold set4; simpa using h.lt⟩
  · by_cases e : i = k
    · subst e; exact hat
    · have k0 := h.put i (by omega)
      exact ⟨by rw [set4_far _ _ _ _ (by omega) (by omega) (by omega) (by omega)]; exact k0.c0, by rw [set4_far _ _ _ _ (by omega) (by omega) (by omega) (by omega)]; exact k0.c1,
        by rw [set4_far _ _ _ _ (by omega) (by omega) (by omega) (by omega)]; exact k0.c2, by rw [set4_far _ _ _ _ (by omega) (by omega) (by omega) (by omega)]; exact k0.c3⟩
  · by_cases e : j = k * 4 ∨ j = k * 4 + 1 ∨ j = k * 4 + 2 ∨ j = k * 4 + 3
    · rcases e with rfl | rfl | rfl | rfl
      · exact ⟨_, hat.c0⟩
      · exact ⟨_, hat.c1⟩
      · exact ⟨_, hat.c2⟩
      · exact ⟨_, hat.c3⟩
    · rw [set4_far _ _ _ _ (by omega) (by omega) (by omega) (by omega)]
      exact h.old j hj
theorem MadeL.store4 {w : World} {g n k : Nat} {f : Nat → Ld} (a0 a1 w0 w1 : Int) (h : MadeL w g n k f) (hk : k < n) (hl : f k = ⟨a0, a1, w0, w1⟩) :
    MadeL ((((w.setCell ⟨g, k * 4, none⟩ (.int .i64 a0)).setCell ⟨g, k * 4 + 1, none⟩ (.int .i64 a1)).setCell ⟨g, k * 4 + 2, none⟩ (.int .i64 w0)).setCell ⟨g, k * 4 + 3, none⟩ (.int .i64 w1)) g n (k + 1) f := by
  have := h.store hk
  rw [hl] at this
  exact this
theorem MadeL.done {w : World} {g : Nat} {F : Ld → Ld} {ls : List Ld} (h : MadeL w g ls.length ls.length (fun i => F (ls.getD i default))) (hl : ls.length ≤ 1000) : SlLd w (.slice (some ⟨g, 0, none⟩) ls.length ls.length) (ls.map F) := by
  refine .inr ⟨g, 0, ls.length, by rw [List.length_map], by rw [List.length_map]; omega, by rw [List.length_map]; omega, h.lt, fun i c e => ?_⟩
  have hi : i < ls.length := by have := (List.getElem?_eq_some_iff.1 e).1; simpa using this
  have hc : c = F (ls.getD i default) := by
    rw [List.getElem?_map, List.getElem?_eq_getElem hi] at e
    rw [List.getD_eq_getElem?_getD, List.getElem?_eq_getElem hi]
    simpa using e.symm
  subst hc
  rw [Nat.zero_add]
  exact h.put i hi

/-- What a load is to a frame at a place. -/
def arm (at' x : Int) : Int := max (at' - x) 0
def asternL (at' : Int) (l : Ld) : Ld :=
  if arm at' l.a0 = 0 then ⟨arm at' l.a1, arm at' l.a0, 0, 0⟩ else if arm at' l.a1 = 0 then ⟨arm at' l.a1, arm at' l.a0, min l.w0 0, max l.w1 0⟩ else ⟨arm at' l.a1, arm at' l.a0, l.w0, l.w1⟩
def AsHead (at' : Int) (ls : List Ld) (w wr : World) (v : Value) : Prop := ∃ k : Nat, k ≤ ls.length ∧ v = .int .i64 k ∧ MadeL wr w.heap.size ls.length k (fun i => asternL at' (ls.getD i default)) ∧ Below w.heap.size w wr
set_option maxRecDepth 100000 in
set_option maxHeartbeats 8000000 in
theorem astern_any (at' : Int) (v : Value) (ls : List Ld) (w : World) (hv : SlLd w v ls) (h50 : ls.length ≤ 50) (hl : ∀ l, l ∈ ls → l.ok = true) (h0 : -20000 ≤ at') (h1 : at' ≤ 20000) :
    Calls Try.prog 80 #[v, .int .i64 at'] w fun e w' => ∃ u, e = .returned u ∧ SlLd w' u (ls.map (asternL at')) ∧ Below w.heap.size w w' := by
  obtain ⟨ad, cap, rfl, hlen, hcap⟩ := hv.form
  have HV := Lib.hid hv
  have HL := Lib.hid hl
  clear hv hl
  have hmk := make_loads ls.length (by omega)
  go_enter Try.func80, Try.ntmps80
  go_wp2_with fail
  go_loopw [15] (fun v15 wr => AsHead at' ls w wr v15) (fun v15 _ => ls.length - (intOf v15).toNat)
  case atStart => exact ⟨0, by omega, rfl, MadeL.start _ _ _, by go_grown⟩
  case round =>
    obtain ⟨k, hk, rfl, hm, hbr⟩ := hrel
    have HM := Lib.hid hm
    clear hm hmk
    by_cases hlt : k < ls.length
    rotate_left 1
    · have hkk : k = ls.length := by omega
      have HK := Lib.hid hkk
      clear hkk
      go_wp2_with fail
      go_returns
      exact ⟨_, rfl, MadeL.done (by have := HM.out; rw [HK.out] at this; exact this) (by omega), hbr⟩
    obtain ⟨bk, off, c, rfl, hb, hc, hat⟩ := HV.out.at hlt
    obtain ⟨c0, c1, c2, c3⟩ := LdAt.later hat (show Below w.heap.size w wr from hbr)
    have hok := HL.out c (List.mem_of_getElem? hc)
    obtain ⟨⟨x0, x1⟩, ⟨y0, y1⟩, ⟨z0, z1⟩, t0, t1⟩ := Ld.bound hok
    have hlt' : (k : Int) < (ls.length : Int) := by omega
    have hk0 : (0 : Int) ≤ (k : Int) := by omega
    have HC := Lib.hid (show ls.getD k default = c by rw [List.getD_eq_getElem?_getD, hc]; rfl)
    have hz := HM.out.lt
    have hsz := hbr.size
    clear hc hat
    obtain ⟨A, hA⟩ : ∃ A, arm at' c.a1 = A := ⟨_, rfl⟩
    obtain ⟨B, hB⟩ : ∃ B, arm at' c.a0 = B := ⟨_, rfl⟩
    have hA' : max (at' - c.a1) 0 = A := hA
    have hB' : max (at' - c.a0) 0 = B := hB
    have n1 : w.heap.size ≠ wr.heap.size + 1 + 1 := by omega
    have n2 : wr.heap.size + 1 + 1 ≠ w.heap.size := by omega
    have n3 : w.heap.size < wr.heap.size + 1 := by omega
    have n4 : w.heap.size < wr.heap.size + 1 + 1 := by omega
    have f0 := HM.out.fz (k * 4)
    have f1 := HM.out.fz (k * 4 + 1)
    have f2 := HM.out.fz (k * 4 + 2)
    have f3 := HM.out.fz (k * 4 + 3)
    obtain ⟨q0, e0⟩ := HM.out.old (k * 4) (by omega)
    obtain ⟨q1, e1⟩ := HM.out.old (k * 4 + 1) (by omega)
    obtain ⟨q2, e2⟩ := HM.out.old (k * 4 + 2) (by omega)
    obtain ⟨q3, e3⟩ := HM.out.old (k * 4 + 3) (by omega)
    by_cases hb0 : B = 0
    · have HAs := Lib.hid (show asternL at' c = ⟨A, B, 0, 0⟩ by unfold asternL; rw [hA, hB, if_pos hb0])
      have hb1 : (B == 0) = true := by simpa using hb0
      clear hA hB hb0
      go_wp2_with fail
      go_roundw
      case rel => exact ⟨k + 1, by omega, by go_num, (MadeL.store4 A B 0 0 HM.out hlt (by simp only [HC.out]; exact HAs.out)).later (by go_grown), by go_grown⟩
      case measure => simp [intOf]; omega
    by_cases ha0 : A = 0
    · have HAs := Lib.hid (show asternL at' c = ⟨A, B, min c.w0 0, max c.w1 0⟩ by unfold asternL; rw [hA, hB, if_neg hb0, if_pos ha0])
      have hb1 : (B == 0) = false := by simpa using hb0
      have ha1 : (A == 0) = true := by simpa using ha0
      obtain ⟨P, hP⟩ : ∃ P, min c.w0 0 = P := ⟨_, rfl⟩
      obtain ⟨Q, hQ⟩ : ∃ P, max c.w1 0 = P := ⟨_, rfl⟩
      rw [hP, hQ] at HAs
      clear hA hB hb0 ha0
      go_wp2_with fail
      go_roundw
      case rel => exact ⟨k + 1, by omega, by go_num, (MadeL.store4 A B P Q HM.out hlt (by simp only [HC.out]; exact HAs.out)).later (by go_grown), by go_grown⟩
      case measure => simp [intOf]; omega
    have HAs := Lib.hid (show asternL at' c = ⟨A, B, c.w0, c.w1⟩ by unfold asternL; rw [hA, hB, if_neg hb0, if_neg ha0])
    have hb1 : (B == 0) = false := by simpa using hb0
    have ha1 : (A == 0) = false := by simpa using ha0
    clear hA hB hb0 ha0
    go_wp2_with fail
    go_roundw
    case rel => exact ⟨k + 1, by omega, by go_num, (MadeL.store4 A B c.w0 c.w1 HM.out hlt (by simp only [HC.out]; exact HAs.out)).later (by go_grown), by go_grown⟩
    case measure => simp [intOf]; omega
end Go.Proofs.Ytldnpnplgfkebaa
