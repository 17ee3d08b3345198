/- Package trim: lists in memory (loads, limits, frames, puts), and what all its walks use. -/
import Derived.Test.YtldnpnplgfkebaaGBase
import Derived.Deep.LoopGhost
namespace Go.Proofs.Ytldnpnplgfkebaa
open Go.RowKit

/-- A number is in a range. -/
def inB (n lo hi : Int) : Bool := decide (lo ≤ n ∧ n ≤ hi)
/-- A span is in a range, its ends in order. -/
def spB (a b lo hi : Int) : Bool := decide (lo ≤ a ∧ a ≤ b ∧ b ≤ hi)
theorem inB_iff {n lo hi : Int} : inB n lo hi = true ↔ lo ≤ n ∧ n ≤ hi := by unfold inB; simp
theorem spB_iff {a b lo hi : Int} : spB a b lo hi = true ↔ lo ≤ a ∧ a ≤ b ∧ b ≤ hi := by unfold spB; simp

/-- A slice of elements of k cells each, as At says. -/
def SlAny {α : Type} (At : World → Nat → Nat → α → Prop) (k : Nat) (w : World) (v : Value) (cs : List α) : Prop :=
  (cs = [] ∧ v = .slice none 0 0) ∨ ∃ (b off cap : Nat), v = .slice (some ⟨b, off, none⟩) cs.length cap ∧ cs.length ≤ cap ∧ cs.length ≤ 1000000000000 ∧ b < w.heap.size ∧ ∀ (i : Nat) (c : α), cs[i]? = some c → At w b (off + i * k) c
/-- What stands stays, if nothing that was is written. -/
def Stays {α : Type} (At : World → Nat → Nat → α → Prop) : Prop := ∀ {w w1 : World} {b o : Nat} {c : α}, At w b o c → Below w.heap.size w w1 → At w1 b o c
theorem SlAny.later {α : Type} {At : World → Nat → Nat → α → Prop} {k : Nat} (hA : Stays At) {w w1 : World} {v : Value} {cs : List α} (h : SlAny At k w v cs) (hb : Below w.heap.size w w1) : SlAny At k w1 v cs := by
  rcases h with h | ⟨b, off, cap, h1, h2, h3, h4, h5⟩
  · exact .inl h
  · exact .inr ⟨b, off, cap, h1, h2, h3, by have := hb.size; omega, fun i c e => hA (h5 i c e) hb⟩
theorem SlAny.form {α : Type} {At : World → Nat → Nat → α → Prop} {k : Nat} {w : World} {v : Value} {cs : List α} (h : SlAny At k w v cs) : ∃ (a : Option Addr) (cap : Nat), v = .slice a cs.length cap ∧ cs.length ≤ 1000000000000 ∧ cs.length ≤ cap := by
  rcases h with ⟨rfl, rfl⟩ | ⟨b, off, cap, rfl, h2, h3, _⟩
  · exact ⟨_, _, rfl, by simp, by simp⟩
  · exact ⟨_, _, rfl, h3, h2⟩
theorem SlAny.full {α : Type} {At : World → Nat → Nat → α → Prop} {k : Nat} {w : World} {v : Value} {cs : List α} (h : SlAny At k w v cs) (h0 : 0 < cs.length) :
    ∃ (b off cap : Nat), v = .slice (some ⟨b, off, none⟩) cs.length cap ∧ cs.length ≤ cap ∧ cs.length ≤ 1000000000000 ∧ b < w.heap.size ∧ ∀ (i : Nat) (c : α), cs[i]? = some c → At w b (off + i * k) c := by
  rcases h with ⟨rfl, _⟩ | h
  · simp at h0
  · exact h
/-- Element i of such a slice, whose address is known. -/
theorem SlAny.at {α : Type} {At : World → Nat → Nat → α → Prop} {k : Nat} {w : World} {a : Option Addr} {cap i : Nat} {cs : List α} (h : SlAny At k w (.slice a cs.length cap) cs) (hi : i < cs.length) :
    ∃ (b off : Nat) (c : α), a = some ⟨b, off, none⟩ ∧ b < w.heap.size ∧ cs[i]? = some c ∧ At w b (off + i * k) c := by
  obtain ⟨b, off, cap', hv, _, _, hb, hc⟩ := h.full (by omega)
  injection hv with h1 h2 h3
  exact ⟨b, off, cs[i], h1, hb, List.getElem?_eq_getElem hi, hc i _ (List.getElem?_eq_getElem hi)⟩
theorem drop_some {α : Type} {l : List α} {k : Nat} {x : α} (h : l[k]? = some x) : l.drop k = x :: l.drop (k + 1) := by
  obtain ⟨hk, e⟩ := List.getElem?_eq_some_iff.1 h
  rw [List.drop_eq_getElem_cons hk, e]
theorem drop_none {α : Type} {l : List α} {k : Nat} (h : ¬ k < l.length) : l.drop k = [] := List.drop_eq_nil_of_le (by omega)

/-- A load: its places and its weights. -/
structure Ld where
  a0 : Int
  a1 : Int
  w0 : Int
  w1 : Int
/-- A limit. -/
structure Li where
  a : Int
  b : Int
  c : Int
/-- A frame. -/
structure Fr where
  p : Int
  s : Int
  b : Int
/-- A weight at a place. -/
structure Pu where
  p : Int
  w : Int
instance : Inhabited Ld := ⟨⟨0, 0, 0, 0⟩⟩
instance : Inhabited Li := ⟨⟨0, 0, 0⟩⟩
instance : Inhabited Fr := ⟨⟨0, 0, 0⟩⟩
instance : Inhabited Pu := ⟨⟨0, 0⟩⟩
abbrev ldV (l : Ld) : Value := .agg #[.int .i64 l.a0, .int .i64 l.a1, .int .i64 l.w0, .int .i64 l.w1]
abbrev liV (l : Li) : Value := .agg #[.int .i64 l.a, .int .i64 l.b, .int .i64 l.c]
abbrev frV (l : Fr) : Value := .agg #[.int .i64 l.p, .int .i64 l.s, .int .i64 l.b]
abbrev puV (l : Pu) : Value := .agg #[.int .i64 l.p, .int .i64 l.w]
structure LdAt (w : World) (b o : Nat) (l : Ld) : Prop where
  c0 : w.cell? ⟨b, o, none⟩ = some (.int .i64 l.a0)
  c1 : w.cell? ⟨b, o + 1, none⟩ = some (.int .i64 l.a1)
  c2 : w.cell? ⟨b, o + 2, none⟩ = some (.int .i64 l.w0)
  c3 : w.cell? ⟨b, o + 3, none⟩ = some (.int .i64 l.w1)
structure LiAt (w : World) (b o : Nat) (l : Li) : Prop where
  c0 : w.cell? ⟨b, o, none⟩ = some (.int .i64 l.a)
  c1 : w.cell? ⟨b, o + 1, none⟩ = some (.int .i64 l.b)
  c2 : w.cell? ⟨b, o + 2, none⟩ = some (.int .i64 l.c)
structure FrAt (w : World) (b o : Nat) (l : Fr) : Prop where
  c0 : w.cell? ⟨b, o, none⟩ = some (.int .i64 l.p)
  c1 : w.cell? ⟨b, o + 1, none⟩ = some (.int .i64 l.s)
  c2 : w.cell? ⟨b, o + 2, none⟩ = some (.int .i64 l.b)
structure PuAt (w : World) (b o : Nat) (l : Pu) : Prop where
  c0 : w.cell? ⟨b, o, none⟩ = some (.int .i64 l.p)
  c1 : w.cell? ⟨b, o + 1, none⟩ = some (.int .i64 l.w)
theorem LdAt.later : Stays LdAt := fun k hb => ⟨cell_later hb k.c0, cell_later hb k.c1, cell_later hb k.c2, cell_later hb k.c3⟩
theorem LiAt.later : Stays LiAt := fun k hb => ⟨cell_later hb k.c0, cell_later hb k.c1, cell_later hb k.c2⟩
theorem FrAt.later : Stays FrAt := fun k hb => ⟨cell_later hb k.c0, cell_later hb k.c1, cell_later hb k.c2⟩
theorem PuAt.later : Stays PuAt := fun k hb => ⟨cell_later hb k.c0, cell_later hb k.c1⟩
abbrev SlLd := SlAny LdAt 4
abbrev SlLi := SlAny LiAt 3
abbrev SlFr := SlAny FrAt 3
abbrev SlPu := SlAny PuAt 2
theorem ldLater {w w1 : World} {v : Value} {l : List Ld} (h : SlAny LdAt 4 w v l) (hb : Below w.heap.size w w1) : SlAny LdAt 4 w1 v l := SlAny.later (At := LdAt) LdAt.later h hb
theorem liLater {w w1 : World} {v : Value} {l : List Li} (h : SlAny LiAt 3 w v l) (hb : Below w.heap.size w w1) : SlAny LiAt 3 w1 v l := SlAny.later (At := LiAt) LiAt.later h hb
theorem frLater {w w1 : World} {v : Value} {l : List Fr} (h : SlAny FrAt 3 w v l) (hb : Below w.heap.size w w1) : SlAny FrAt 3 w1 v l := SlAny.later (At := FrAt) FrAt.later h hb
theorem puLater {w w1 : World} {v : Value} {l : List Pu} (h : SlAny PuAt 2 w v l) (hb : Below w.heap.size w w1) : SlAny PuAt 2 w1 v l := SlAny.later (At := PuAt) PuAt.later h hb
def Ld.ok (l : Ld) : Bool := spB l.a0 l.a1 (-20000) 20000 && spB l.w0 l.w1 (-1073741824) 1073741824
def Li.ok (l : Li) : Bool := inB l.a (-1000) 1000 && inB l.b (-1000) 1000 && inB l.c (-1000000000000000000) 1000000000000000000
def Fr.ok (l : Fr) : Bool := inB l.p (-20000) 20000 && inB l.s 0 1000000000000 && inB l.b 0 10000000000000000
/-- The error of a list: too many, or not all valid. -/
def listN {α : Type} (most : Nat) (ok : α → Bool) (bad : Int) (l : List α) : Int := if most < l.length then 4 else if l.all ok then 0 else bad
def loadsN (l : List Ld) : Int := listN 40 Ld.ok 40 l
def limitsN (l : List Li) : Int := listN 12 Li.ok 41 l
def framesN (l : List Fr) : Int := listN 12 Fr.ok 42 l
/-- A loop's head over a list that is checked. -/
def AllHead {α : Type} (ok : α → Bool) (cs : List α) (w wr : World) (v : Value) : Prop := ∃ k : Nat, k ≤ cs.length ∧ v = .int .i64 k ∧ cs.all ok = (cs.drop k).all ok ∧ Below w.heap.size w wr
end Go.Proofs.Ytldnpnplgfkebaa
