/- Package trim: the iterator over all sets of bags. -/
import Derived.LoopIn
import Derived.Test.YtldnpnplgfkebaaTRange
import Derived.Test.YtldnpnplgfkebaaTKeep
namespace Go.Proofs.Ytldnpnplgfkebaa
open Go.RowKit

/-- The sets of k bags and more. -/
def laterS (B k : Nat) : List (List Int) := ((List.range (B + 1)).drop k).flatMap fun n => chainS B 253 (firstS n)
theorem laterS_zero (B : Nat) : laterS B 0 = setsN B := rfl
theorem laterS_next {B k : Nat} (h : k < B + 1) : laterS B k = chainS B 253 (firstS k) ++ laterS B (k + 1) := by
  unfold laterS
  rw [List.drop_eq_getElem_cons (by simpa using h), List.flatMap_cons, List.getElem_range]
theorem laterS_end {B k : Nat} (h : B + 1 ≤ k) : laterS B k = [] := by
  unfold laterS
  rw [List.drop_eq_nil_of_le (by simpa using h)]
  rfl
theorem chain_more {B : Int} : ∀ (k : Nat) (zs : List Int), endsS B k zs = true → ∀ j, chainS B (k + j) zs = chainS B k zs
  | 0, zs, h, _ => by simp [endsS] at h
  | k + 1, zs, h, j => by
    rw [show k + 1 + j = (k + j) + 1 by omega]
    unfold endsS at h
    rw [chainS, chainS]
    cases hn : nextS B zs with
    | none => rfl
    | some ys =>
      rw [hn] at h
      simp only []
      rw [chain_more k ys h j]
/-- The numbers that stand in block g. -/
def rowW (w : World) (g n : Nat) : List Int := (List.range n).map fun i => match w.cell? ⟨g, i, none⟩ with | some v => intOf v | none => 0
theorem rowW_eq {w : World} {g : Nat} {zs : List Int} (h : RowI w g 0 zs) : rowW w g zs.length = zs := by
  apply List.ext_getElem?
  intro i
  unfold rowW
  rw [List.getElem?_map]
  by_cases hi : i < zs.length
  · rw [List.getElem?_range hi, List.getElem?_eq_getElem hi]
    have := h i zs[i] (List.getElem?_eq_getElem hi)
    rw [Nat.zero_add] at this
    simp [this, intOf]
  · rw [List.getElem?_eq_none (by simpa using hi), List.getElem?_eq_none (by omega)]
    rfl
/-- How many sets of this size are left to come. -/
def fuelW (B : Int) (g n : Nat) (v : Value) (w : World) : Nat := match v with
  | .bool true => 1 + (chainS B 253 (rowW w g n)).length
  | _ => 0
theorem fuelW_of {B : Int} {g j : Nat} {w : World} {zs : List Int} (h : RowI w g 0 zs) (he : endsS B j zs = true) (hj : j ≤ 253) : fuelW B g zs.length (.bool true) w = 1 + (chainS B j zs).length := by
  unfold fuelW
  rw [rowW_eq h]
  have := chain_more j zs he (253 - j)
  rw [show j + (253 - j) = 253 by omega] at this
  rw [this]
theorem SetTo.room {w w1 : World} {g o k n : Nat} {f : Nat → Int} (h : SetTo w w1 g o k f) (hr : Room w g 0 n) : Room w1 g 0 n :=
  ⟨fun j hj => by
    rw [Nat.zero_add]
    by_cases e : o ≤ j ∧ j < o + k
    · have := h.put (j - o) (by omega)
      rw [show o + (j - o) = j by omega] at this
      exact ⟨_, this⟩
    · rw [h.rest j (by omega)]
      have := hr.old j hj
      rwa [Nat.zero_add] at this, fun j => by rw [h.fz]; exact hr.fz j, by have := h.le; have := hr.lt; omega⟩
theorem Room.later {w w1 : World} {g o n : Nat} (h : Room w g o n) (hb : Below w.heap.size w w1) : Room w1 g o n :=
  ⟨fun j hj => (h.old j hj).imp fun _ e => cell_later hb e, fun j => by rw [(bcell hb).2 _ _ h.lt]; exact h.fz j, by have := h.lt; have := hb.size; omega⟩
theorem Room.less {w : World} {g n m : Nat} (h : Room w g 0 n) (hm : m ≤ n) : Room w g 0 m := ⟨fun j hj => h.old j (by omega), h.fz, h.lt⟩
theorem RowI.later {w w1 : World} {g o : Nat} {zs : List Int} (h : RowI w g o zs) (hb : Below w.heap.size w w1) : RowI w1 g o zs := fun i z e => cell_later hb (h i z e)
/-- Ten cells, new. -/
theorem room_new (w : World) : Room (w.alloc (.cells #[.int .i64 0, .int .i64 0, .int .i64 0, .int .i64 0, .int .i64 0, .int .i64 0, .int .i64 0, .int .i64 0, .int .i64 0, .int .i64 0] 170)) w.heap.size 0 10 :=
  ⟨fun j hj => ⟨.int .i64 0, by
    rw [World.cell?_alloc_at _ _ _ _ rfl, Nat.zero_add]
    have : j = 0 ∨ j = 1 ∨ j = 2 ∨ j = 3 ∨ j = 4 ∨ j = 5 ∨ j = 6 ∨ j = 7 ∨ j = 8 ∨ j = 9 := by omega
    rcases this with h | h | h | h | h | h | h | h | h | h <;> subst h <;> rfl⟩, fun j => World.frozen?_alloc_at _ _ _ _ rfl, by simp⟩
theorem room_first {w w1 : World} {g n : Nat} (h : SetTo w w1 g 0 n (fun i => (0 : Int) + i)) : RowI w1 g 0 (firstS n) := fun i z e => by
  unfold firstS at e
  rw [List.getElem?_map] at e
  obtain ⟨j, hj, rfl⟩ := Option.map_eq_some_iff.1 e
  obtain ⟨h1, h2⟩ := List.getElem?_eq_some_iff.1 hj
  have hi : i < n := by simpa using h1
  have : j = i := by simpa using h2.symm
  subst this
  have := h.put j hi
  rw [this]
  simp
/-- What is handed: the room's block, and the numbers of a set. -/
abbrev HandV (x : Nat × List Int) : Array Value := #[.slice (some ⟨x.1, 0, none⟩) x.2.length x.2.length]
def HandH (x : Nat × List Int) (w : World) : Prop := RowI w x.1 0 x.2 ∧ x.1 < w.heap.size ∧ x.2.length ≤ 10
def HandS (B : Nat) (xs : List (Nat × List Int)) : Prop := xs.map Prod.snd = setsN B
def HandSp (B : Nat) (xs : List (Nat × List Int)) : Prop := ∃ rest, xs.map Prod.snd ++ rest = setsN B
def HandPre (bx B : Nat) (w : World) : Prop := w.cell? ⟨bx, 0, none⟩ = some (.int .i64 B)
structure OutI (J : List (Nat × List Int) → World → Prop) (B k : Nat) (W w : World) : Prop where
  jj : ∃ pre, J pre w ∧ pre.map Prod.snd ++ laterS B k = setsN B
  room : Room w W.heap.size 0 10
  b : Below W.heap.size W w
def OutHead (J : List (Nat × List Int) → World → Prop) (B : Nat) (W w : World) (v : Value) : Prop := ∃ k : Nat, k ≤ B + 1 ∧ v = .int .i64 k ∧ OutI J B k W w
/-- A set that stands in the room, and those that come behind it. -/
structure SetI (J : List (Nat × List Int) → World → Prop) (B k j : Nat) (zs : List Int) (pre : List (Nat × List Int)) (W w : World) : Prop where
  jj : J pre w
  eq : pre.map Prod.snd ++ (chainS B j zs ++ laterS B (k + 1)) = setsN B
  room : Room w W.heap.size 0 10
  b : Below W.heap.size W w
  row : RowI w W.heap.size 0 zs
  le : j ≤ 253
  ends : endsS B j zs = true
  all : ∀ ys, ys ∈ chainS B j zs → ys.length = k ∧ ∀ z, z ∈ ys → 0 ≤ z ∧ z ≤ 9
def InHead (J : List (Nat × List Int) → World → Prop) (B k : Nat) (W w : World) (v : Value) : Prop :=
  (v = .bool false ∧ OutI J B (k + 1) W w) ∨ (v = .bool true ∧ ∃ (j : Nat) (zs : List Int) (pre : List (Nat × List Int)), SetI J B k j zs pre W w)
theorem chain_self {B : Int} {j : Nat} {zs : List Int} (h : endsS B j zs = true) : zs ∈ chainS B j zs := by
  cases j with
  | zero => simp [endsS] at h
  | succ j => rw [chainS]; exact List.mem_cons_self ..
theorem sets_all {B n : Nat} (hB : B ≤ 10) (hn : n ≤ B) : endsS B 253 (firstS n) = true ∧ ∀ ys, ys ∈ chainS B 253 (firstS n) → ys.length = n ∧ ∀ z, z ∈ ys → 0 ≤ z ∧ z ≤ 9 := by
  have h := sets_end B (by omega) n (by omega)
  rw [Bool.and_eq_true, List.all_eq_true] at h
  refine ⟨h.1, fun ys hy => ?_⟩
  have := h.2 ys hy
  rw [Bool.and_eq_true, beq_iff_eq, List.all_eq_true] at this
  refine ⟨this.1, fun z hz => ?_⟩
  have := this.2 z hz
  rw [Bool.and_eq_true, decide_eq_true_eq, decide_eq_true_eq] at this
  exact this
end Go.Proofs.Ytldnpnplgfkebaa
