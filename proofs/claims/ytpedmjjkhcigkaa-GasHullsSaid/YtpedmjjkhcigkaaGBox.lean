/- Package gas: boxes of two numbers, rows of moments, the head of extremes' loop. -/
import Derived.Test.YtpedmjjkhcigkaaGExt
namespace Go.Proofs.Ytpedmjjkhcigkaa
open Go.RowKit

/-- A box of two numbers that may be written. -/
structure Box2 (w : World) (B : Nat) (x y : Int) : Prop where
  c0 : w.cell? ⟨B, 0, none⟩ = some (.int .i64 x)
  c1 : w.cell? ⟨B, 1, none⟩ = some (.int .i64 y)
  f0 : w.frozen? ⟨B, 0, none⟩ = false
  f1 : w.frozen? ⟨B, 1, none⟩ = false
theorem Box2.lt {w : World} {B : Nat} {x y : Int} (k : Box2 w B x y) : B < w.heap.size := World.block_lt_of_cell? _ _ k.c0
theorem Box2.later {w w1 : World} {B : Nat} {x y : Int} (k : Box2 w B x y) (hb : Below w.heap.size w w1) : Box2 w1 B x y :=
  have hz := World.block_lt_of_cell? _ _ k.c0
  ⟨cell_later hb k.c0, cell_later hb k.c1, by rw [(bcell hb).2 _ _ hz]; exact k.f0, by rw [(bcell hb).2 _ _ hz]; exact k.f1⟩

/-- A row of moments. -/
def moCells (w : World) (b off : Nat) (ms : List Mo) : Prop := ∀ (i : Nat) (p t u : Int), ms[i]? = some (p, t, u) → w.cell? ⟨b, off + i * 3, none⟩ = some (.int .i64 p) ∧ w.cell? ⟨b, off + i * 3 + 1, none⟩ = some (.int .i64 t) ∧ w.cell? ⟨b, off + i * 3 + 2, none⟩ = some (.int .i64 u)
theorem moCells_nil (w : World) (b off : Nat) : moCells w b off [] := fun i p t u h => by simp at h
theorem moCells_cons {w : World} {b off : Nat} {p t u : Int} {ms : List Mo} (h0 : w.cell? ⟨b, off, none⟩ = some (.int .i64 p)) (h1 : w.cell? ⟨b, off + 1, none⟩ = some (.int .i64 t)) (h2 : w.cell? ⟨b, off + 2, none⟩ = some (.int .i64 u))
    (h : moCells w b (off + 3) ms) : moCells w b off ((p, t, u) :: ms) := by
  intro i x y z hi
  cases i with
  | zero =>
    simp at hi
    obtain ⟨rfl, rfl, rfl⟩ := hi
    exact ⟨by simpa using h0, by simpa using h1, by simpa using h2⟩
  | succ i =>
    have := h i x y z (by simpa using hi)
    rw [show off + (i + 1) * 3 = off + 3 + i * 3 by omega]
    exact this

/-- The extremes of so many moments. -/
def accOf (R : Mo → Int × Int) (m : Mo) (ms : List Mo) (k : Nat) : (Int × Int) × (Int × Int) := (ms.take k).foldl (exStep R) (R m, R m)
theorem acc_full {R : Mo → Int × Int} {m : Mo} {ms : List Mo} {k : Nat} (h : k = ms.length) : accOf R m ms k = exOf R m ms := by
  unfold accOf exOf; rw [h, List.take_length]
theorem acc_step {R : Mo → Int × Int} {m x : Mo} {ms : List Mo} {k : Nat} {l l' g g' a b : Int} (h : accOf R m ms k = ((l, l'), (g, g'))) (hx : ms[k]? = some x) (hR : R x = (a, b)) :
    accOf R m ms (k + 1) = (if a * l' < l * b then (a, b) else (l, l'), if g * b < a * g' then (a, b) else (g, g')) := by
  unfold accOf at h ⊢
  rw [List.take_add_one, hx, Option.toList_some, List.foldl_append, h]
  show exStep R _ x = _
  unfold exStep
  rw [hR]
theorem fold_mem {R : Mo → Int × Int} {S : List Mo} : ∀ (l : List Mo) (acc : (Int × Int) × (Int × Int)), (∀ x, x ∈ l → x ∈ S) → (∃ a, a ∈ S ∧ acc.1 = R a) ∧ (∃ a, a ∈ S ∧ acc.2 = R a) →
    (∃ a, a ∈ S ∧ (l.foldl (exStep R) acc).1 = R a) ∧ (∃ a, a ∈ S ∧ (l.foldl (exStep R) acc).2 = R a)
  | [], acc, _, h => h
  | m :: l, acc, hl, h => by
    refine fold_mem l (exStep R acc m) (fun x hx => hl x (List.mem_cons_of_mem _ hx)) ?_
    have hm := hl m (List.mem_cons_self ..)
    constructor
    · unfold exStep; simp only; split
      · exact ⟨m, hm, rfl⟩
      · exact h.1
    · unfold exStep; simp only; split
      · exact ⟨m, hm, rfl⟩
      · exact h.2
theorem acc_mem {R : Mo → Int × Int} {m : Mo} {ms : List Mo} {k : Nat} {l l' g g' : Int} (h : accOf R m ms k = ((l, l'), (g, g'))) : (∃ a, a ∈ m :: ms ∧ R a = (l, l')) ∧ (∃ a, a ∈ m :: ms ∧ R a = (g, g')) := by
  have := fold_mem (R := R) (S := m :: ms) (ms.take k) (R m, R m) (fun x hx => List.mem_cons_of_mem _ (List.mem_of_mem_take hx)) ⟨⟨m, List.mem_cons_self .., rfl⟩, ⟨m, List.mem_cons_self .., rfl⟩⟩
  unfold accOf at h
  rw [h] at this
  obtain ⟨⟨a, h1, h2⟩, b, h3, h4⟩ := this
  exact ⟨⟨a, h1, h2.symm⟩, b, h3, h4.symm⟩
/-- All products are fair. -/
def Fairs (R : Mo → Int × Int) (ms : List Mo) : Prop := ∀ x y, x ∈ ms → y ∈ ms → Fair ((R x).1 * (R y).2)
theorem Fairs.acc {R : Mo → Int × Int} {m x : Mo} {ms : List Mo} {k : Nat} {l l' g g' a b : Int} (hF : Fairs R (m :: ms)) (h : accOf R m ms k = ((l, l'), (g, g'))) (hx : x ∈ m :: ms) (hR : R x = (a, b)) :
    Fair (a * l') ∧ Fair (l * b) ∧ Fair (g * b) ∧ Fair (a * g') := by
  obtain ⟨⟨y, hy, ey⟩, z, hz, ez⟩ := acc_mem h
  have h1 := hF x y hx hy
  have h2 := hF y x hy hx
  have h3 := hF z x hz hx
  have h4 := hF x z hx hz
  rw [hR, ey] at h1 h2
  rw [hR, ez] at h3 h4
  exact ⟨h1, h2, h3, h4⟩

/-- The loop's head. -/
def ExHead (R : Mo → Int × Int) (m : Mo) (ms : List Mo) (w wr : World) (v : Value) : Prop := ∃ (k : Nat) (l l' g g' : Int), k ≤ ms.length ∧ v = .int .i64 k ∧ accOf R m ms k = ((l, l'), (g, g')) ∧ Below w.heap.size w wr ∧
  Box2 wr (w.heap.size + 1) l l' ∧ Box2 wr (w.heap.size + 1 + 1) g g'

/-- reach's three spans, in boxes of their own. -/
def Spans3 (w wy : World) (v8 v9 v10 : Value) (p0 p1 t0 t1 u0 u1 : Int) : Prop := ∃ n8 n9 n10 : Nat, v8 = .pointer (some ⟨n8, 0, none⟩) ∧ v9 = .pointer (some ⟨n9, 0, none⟩) ∧ v10 = .pointer (some ⟨n10, 0, none⟩) ∧ Below w.heap.size w wy ∧
  wy.cell? ⟨n8, 0, none⟩ = some (.int .i64 p0) ∧ wy.cell? ⟨n8, 1, none⟩ = some (.int .i64 p1) ∧ wy.cell? ⟨n9, 0, none⟩ = some (.int .i64 t0) ∧ wy.cell? ⟨n9, 1, none⟩ = some (.int .i64 t1) ∧ wy.cell? ⟨n10, 0, none⟩ = some (.int .i64 u0) ∧ wy.cell? ⟨n10, 1, none⟩ = some (.int .i64 u1) ∧
  Box2 wy (w.heap.size + 1 + 1) 0 0 ∧ Box2 wy (w.heap.size + 1 + 1 + 1) 0 0
end Go.Proofs.Ytpedmjjkhcigkaa
