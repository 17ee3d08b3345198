/- Package trim: the sets of bags in their order. -/
import Derived.Test.YtldnpnplgfkebaaTSub
namespace Go.Proofs.Ytldnpnplgfkebaa

/-- The first set of n. -/
def firstS (n : Nat) : List Int := (List.range n).map fun (i : Nat) => (i : Int)
/-- A set and all that come behind it, of its size; k bounds how many. -/
def chainS (B : Int) : Nat → List Int → List (List Int)
  | 0, _ => []
  | k + 1, zs => zs :: match nextS B zs with
    | none => []
    | some ys => chainS B k ys
/-- No more than k come. -/
def endsS (B : Int) : Nat → List Int → Bool
  | 0, _ => false
  | k + 1, zs => match nextS B zs with
    | none => true
    | some ys => endsS B k ys
/-- All sets of B bags. -/
def setsN (B : Nat) : List (List Int) := (List.range (B + 1)).flatMap fun n => chainS B 253 (firstS n)
theorem chain_last {B : Int} {zs : List Int} {k : Nat} (hn : nextS B zs = none) : chainS B (k + 1) zs = [zs] := by
  unfold chainS; rw [hn]
theorem chain_next {B : Int} {zs ys : List Int} {k : Nat} (h : endsS B (k + 1) zs = true) (hn : nextS B zs = some ys) : chainS B (k + 1) zs = zs :: chainS B k ys ∧ endsS B k ys = true := by
  unfold endsS at h
  rw [hn] at h
  refine ⟨?_, h⟩
  rw [chainS, hn]
theorem ends_pos {B : Int} {zs : List Int} {k : Nat} (h : endsS B k zs = true) : 0 < k := by
  cases k with
  | zero => simp [endsS] at h
  | succ k => omega
set_option maxRecDepth 100000 in
theorem sets_end : ∀ B, B < 11 → ∀ n, n < B + 1 → (endsS (B : Nat) 253 (firstS n) && (chainS (B : Nat) 253 (firstS n)).all fun zs => zs.length == n && zs.all fun z => decide (0 ≤ z) && decide (z ≤ 9)) = true := by decide +kernel
end Go.Proofs.Ytldnpnplgfkebaa
/- Package trim: the sets of bags in their order, and the least of all masks. -/
namespace Go.Proofs.Ytldnpnplgfkebaa

/-- The bits of a number that are 1, as the reference lists them. -/
def listM (m : Nat) : List Int := ((List.range 10).filter m.testBit).map fun (i : Nat) => (i : Int)
/-- Of two lists of one length the first one comes first. -/
def lexB : List Int → List Int → Bool
  | a :: xs, b :: ys => if a = b then lexB xs ys else decide (a < b)
  | _, _ => false
/-- Fewer first; of as many, the first one in lexicographic order. -/
def befS (a b : List Int) : Bool := decide (a.length < b.length) || (decide (a.length = b.length) && lexB a b)
theorem lexB_trans : ∀ (a b c : List Int), lexB a b = true → lexB b c = true → lexB a c = true
  | [], _, _, h, _ => by simp [lexB] at h
  | _ :: _, [], _, h, _ => by simp [lexB] at h
  | _ :: _, _ :: _, [], _, h => by simp [lexB] at h
  | a :: xs, b :: ys, c :: zs, h, k => by
    unfold lexB at h k ⊢
    by_cases e : a = b
    · subst e
      rw [if_pos rfl] at h
      by_cases e2 : a = c
      · subst e2
        rw [if_pos rfl] at k ⊢
        exact lexB_trans xs ys zs h k
      · rw [if_neg e2] at k ⊢
        exact k
    · rw [if_neg e, decide_eq_true_eq] at h
      by_cases e2 : b = c
      · subst e2
        rw [if_neg e]
        exact decide_eq_true h
      · rw [if_neg e2, decide_eq_true_eq] at k
        rw [if_neg (by omega)]
        exact decide_eq_true (by omega)
theorem lexB_self : ∀ (a : List Int), lexB a a = false
  | [] => rfl
  | a :: xs => by unfold lexB; rw [if_pos rfl]; exact lexB_self xs
theorem befS_trans {a b c : List Int} (h : befS a b = true) (k : befS b c = true) : befS a c = true := by
  unfold befS at h k ⊢
  simp only [Bool.or_eq_true, Bool.and_eq_true, decide_eq_true_eq] at h k ⊢
  rcases h with h | ⟨h1, h2⟩
  · rcases k with k | ⟨k1, _⟩
    · exact .inl (by omega)
    · exact .inl (by omega)
  · rcases k with k | ⟨k1, k2⟩
    · exact .inl (by omega)
    · exact .inr ⟨by omega, lexB_trans a b c h2 k2⟩
theorem befS_self (a : List Int) : befS a a = false := by
  unfold befS
  rw [lexB_self]
  simp
/-- Each comes before the next one. -/
def rowB : List (List Int) → Bool
  | a :: b :: l => befS a b && rowB (b :: l)
  | _ => true
theorem rowB_head : ∀ (l : List (List Int)) (a : List Int), rowB (a :: l) = true → (∀ z, z ∈ l → befS a z = true) ∧ rowB l = true
  | [], _, _ => ⟨fun _ h => by simp at h, rfl⟩
  | b :: l, a, h => by
    unfold rowB at h
    rw [Bool.and_eq_true] at h
    refine ⟨fun z hz => ?_, h.2⟩
    rcases List.mem_cons.1 hz with rfl | hz
    · exact h.1
    · exact befS_trans h.1 ((rowB_head l b h.2).1 z hz)
theorem rowB_split : ∀ (pre post : List (List Int)) (a : List Int), rowB (pre ++ a :: post) = true → ∀ z, z ∈ pre → befS z a = true
  | [], _, _, _, _, h => by simp at h
  | p :: pre, post, a, h, z, hz => by
    have hh := rowB_head _ _ (show rowB (p :: (pre ++ a :: post)) = true from h)
    rcases List.mem_cons.1 hz with rfl | hz
    · exact hh.1 a (by simp)
    · exact rowB_split pre post a hh.2 z hz
/-- The number whose bits a list names. -/
def maskM (zs : List Int) : Nat := zs.foldr (fun z n => n ||| 1 <<< z.toNat) 0
/-- The masks that have come, as bits. -/
def bitsM (S : List (List Int)) : Nat := S.foldr (fun zs n => n ||| 1 <<< maskM zs) 0
theorem bitsM_mem : ∀ (S : List (List Int)) (m : Nat), (bitsM S).testBit m = true → ∃ zs, zs ∈ S ∧ maskM zs = m
  | [], m, h => by simp [bitsM] at h
  | a :: S, m, h => by
    unfold bitsM at h
    rw [List.foldr_cons, Nat.testBit_or, Bool.or_eq_true] at h
    rcases h with h | h
    · obtain ⟨zs, h1, h2⟩ := bitsM_mem S m h
      exact ⟨zs, List.mem_cons_of_mem _ h1, h2⟩
    · rw [Nat.one_shiftLeft, Nat.testBit_two_pow, decide_eq_true_eq] at h
      exact ⟨a, List.mem_cons_self .., h⟩
set_option maxRecDepth 100000 in
theorem sets_row : ∀ B, B < 11 → (rowB (setsN B) && (setsN B).all (fun zs => decide (listM (maskM zs) = zs) && decide (maskM zs < 2 ^ B)) && bitsM (setsN B) == 2 ^ (2 ^ B) - 1) = true := by decide +kernel
structure SetsOk (B : Nat) : Prop where
  row : rowB (setsN B) = true
  mask : ∀ zs, zs ∈ setsN B → listM (maskM zs) = zs ∧ maskM zs < 2 ^ B
  all : ∀ m, m < 2 ^ B → listM m ∈ setsN B
theorem setsOk {B : Nat} (hB : B ≤ 10) : SetsOk B := by
  have h := sets_row B (by omega)
  rw [Bool.and_eq_true, Bool.and_eq_true, beq_iff_eq, List.all_eq_true] at h
  obtain ⟨⟨h1, h2⟩, h3⟩ := h
  have hm : ∀ zs, zs ∈ setsN B → listM (maskM zs) = zs ∧ maskM zs < 2 ^ B := fun zs hz => by
    have := h2 zs hz
    rwa [Bool.and_eq_true, decide_eq_true_eq, decide_eq_true_eq] at this
  refine ⟨h1, hm, fun m hlt => ?_⟩
  obtain ⟨zs, k1, k2⟩ := bitsM_mem (setsN B) m (by rw [h3, Nat.testBit_two_pow_sub_one]; exact decide_eq_true hlt)
  rw [← k2, (hm zs k1).1]
  exact k1
/-- What a mask makes of the best one so far. -/
def stepM (ok : List Int → Bool) (o : Option Nat) (k : Nat) : Option Nat :=
  match o with
  | some b => if befS (listM k) (listM b) = true then (if ok (listM k) = true then some k else some b) else some b
  | none => if ok (listM k) = true then some k else none
/-- The best of the first n masks. -/
def bestM (ok : List Int → Bool) : Nat → Option Nat
  | 0 => none
  | n + 1 => stepM ok (bestM ok n) n
def BestOk (ok : List Int → Bool) (n : Nat) : Option Nat → Prop
  | none => ∀ k, k < n → ok (listM k) = false
  | some b => b < n ∧ ok (listM b) = true ∧ ∀ k, k < n → ok (listM k) = true → befS (listM k) (listM b) = false
theorem bestM_ok (ok : List Int → Bool) : ∀ n, BestOk ok n (bestM ok n)
  | 0 => fun k h => by omega
  | n + 1 => by
    have ih := bestM_ok ok n
    unfold bestM
    generalize bestM ok n = o at ih ⊢
    cases o with
    | none =>
      by_cases hk : ok (listM n) = true
      · rw [show stepM ok none n = some n by simp [stepM, hk]]
        refine ⟨by omega, hk, fun k hlt hok => ?_⟩
        by_cases e : k = n
        · subst e; exact befS_self _
        · have := ih k (by omega)
          rw [hok] at this
          cases this
      · rw [show stepM ok none n = none by simp [stepM, hk]]
        intro k hlt
        by_cases e : k = n
        · subst e; simpa using hk
        · exact ih k (by omega)
    | some b =>
      obtain ⟨i1, i2, i3⟩ := ih
      by_cases hb : befS (listM n) (listM b) = true
      · by_cases hk : ok (listM n) = true
        · rw [show stepM ok (some b) n = some n by simp [stepM, hk, hb]]
          refine ⟨by omega, hk, fun k hlt hok => ?_⟩
          by_cases e : k = n
          · subst e; exact befS_self _
          · have h1 := i3 k (by omega) hok
            cases hc : befS (listM k) (listM n) with
            | false => rfl
            | true => rw [befS_trans hc hb] at h1; cases h1
        · rw [show stepM ok (some b) n = some b by simp [stepM, hk, hb]]
          refine ⟨by omega, i2, fun k hlt hok => ?_⟩
          by_cases e : k = n
          · subst e; exact absurd hok hk
          · exact i3 k (by omega) hok
      · rw [show stepM ok (some b) n = some b by simp [stepM, hb]]
        refine ⟨by omega, i2, fun k hlt hok => ?_⟩
        by_cases e : k = n
        · subst e; simpa using hb
        · exact i3 k (by omega) hok
/-- The best of all masks is the first set in order. -/
theorem best_find (ok : List Int → Bool) {B : Nat} (hB : B ≤ 10) : (bestM ok (2 ^ B)).map listM = (setsN B).find? ok := by
  have hs := setsOk hB
  have hb := bestM_ok ok (2 ^ B)
  generalize bestM ok (2 ^ B) = o at hb ⊢
  cases o with
  | none =>
    refine (List.find?_eq_none.2 fun zs hz => ?_).symm
    obtain ⟨h1, h2⟩ := hs.mask zs hz
    have := hb _ h2
    rw [h1] at this
    rw [this]
    decide
  | some b =>
    obtain ⟨h1, h2, h3⟩ := hb
    obtain ⟨pre, post, hsp⟩ := List.append_of_mem (hs.all b h1)
    refine (List.find?_eq_some_iff_append.2 ⟨h2, pre, post, hsp, fun zs hz => ?_⟩).symm
    have hz1 := hs.mask zs (by rw [hsp]; exact List.mem_append_left _ hz)
    have hr := hs.row
    rw [hsp] at hr
    have hbf := rowB_split pre post _ hr zs hz
    have := h3 _ hz1.2
    rw [hz1.1] at this
    cases hk : ok zs with
    | false => rfl
    | true => rw [this hk] at hbf; cases hbf
#print axioms best_find
end Go.Proofs.Ytldnpnplgfkebaa
/- Package trim: what Drop looks for, in numbers. -/
namespace Go.Proofs.Ytldnpnplgfkebaa
open Go.RowKit

/-- A bag as a load. -/
def bagL (p : Pu) : Ld := ⟨p.p, p.p, p.w, p.w⟩
theorem most_bag (a b : Int) (p : Pu) : mostE a b (bagL p) = valE a b p := by
  have h : worstP a b (bagL p) = p := by
    unfold worstP betterP bagL
    simp
  unfold mostE
  rw [h]
theorem sum_app {α : Type} (f : α → Int) (l m : List α) : sumE f (l ++ m) = sumE f l + sumE f m := by
  unfold sumE
  rw [List.map_append, List.sum_append]
theorem mostL_bags (a b : Int) (ls : List Ld) (ps : List Pu) : mostL a b (ls ++ ps.map bagL) = mostL a b ls + sumE (valE a b) ps := by
  unfold mostL
  rw [sum_app]
  congr 1
  unfold sumE
  rw [List.map_map]
  congr 1
  exact List.map_congr_left fun p _ => most_bag a b p
theorem brk_all (ls : List Ld) : ∀ (ms : List Li) (i : Nat), decide (brk ls i ms < 0) = ms.all fun x => decide (mostL x.a x.b ls ≤ x.c)
  | [], i => rfl
  | m :: ms, i => by
    unfold brk
    rw [List.all_cons]
    split
    · rename_i h
      rw [decide_eq_false (by omega), decide_eq_false (show ¬ mostL m.a m.b ls ≤ m.c by omega)]
      rfl
    · rename_i h
      rw [brk_all ls ms (i + 1), decide_eq_true (show mostL m.a m.b ls ≤ m.c by omega)]
      rfl
/-- The loads and the bags that are not dropped keep every limit. -/
def okS (ls : List Ld) (ps : List Pu) (ms : List Li) (zs : List Int) : Bool := ms.all fun x => decide (sumE (valE x.a x.b) (keptP zs 0 ps) ≤ x.c - mostL x.a x.b ls)
theorem brk_ok (ls : List Ld) (ps : List Pu) (ms : List Li) (zs : List Int) : decide (brk (ls ++ (keptP zs 0 ps).map bagL) 0 ms < 0) = okS ls ps ms zs := by
  rw [brk_all]
  unfold okS
  congr 1
  funext x
  rw [mostL_bags]
  exact decide_eq_decide.2 (by omega)
theorem has_listM {m i : Nat} (hi : i < 10) : (listM m).contains (i : Int) = m.testBit i := by
  rw [Bool.eq_iff_iff, List.contains_iff_mem]
  unfold listM
  rw [List.mem_map]
  constructor
  · rintro ⟨j, h1, h2⟩
    obtain rfl : j = i := by omega
    exact (List.mem_filter.1 h1).2
  · intro h
    exact ⟨i, List.mem_filter.2 ⟨List.mem_range.2 hi, h⟩, rfl⟩
/-- The bags that have to be dropped. -/
def dropE (ls : List Ld) (ps : List Pu) (ms : List Li) : Option (List Int) := (setsN ps.length).find? (okS ls ps ms)
/-- What Drop returns. -/
def DropP (ls : List Ld) (ps : List Pu) (ms : List Li) (w : World) (e : Ending) (w' : World) : Prop :=
  (bagsN ls ps ms ≠ 0 ∧ e = .returned (.tuple #[.slice none 0 0, .int .i64 (bagsN ls ps ms)]) ∧ Below w.heap.size w w') ∨
  (bagsN ls ps ms = 0 ∧ dropE ls ps ms = none ∧ e = .returned (.tuple #[.slice none 0 0, .int .i64 6]) ∧ Below w.heap.size w w') ∨
  (bagsN ls ps ms = 0 ∧ ∃ (zs : List Int) (v : Value), dropE ls ps ms = some zs ∧ e = .returned (.tuple #[v, .int .i64 0]) ∧ SlI w' v zs ∧ Below w.heap.size w w')
theorem bagsN_ok {ls : List Ld} {ps : List Pu} {ms : List Li} (h : bagsN ls ps ms = 0) : bothN ls ms = 0 ∧ ls.length + ps.length ≤ 40 ∧ ps.length ≤ 10 ∧ ps.all Pu.ok = true := by
  unfold bagsN at h
  split at h
  · rename_i h0
    split at h
    · cases h
    · unfold listN at h
      split at h
      · cases h
      · split at h
        · exact ⟨h0, by omega, by omega, by assumption⟩
        · cases h
  · rename_i h0
    exact absurd h h0
theorem Pu.bound {p : Pu} (h : p.ok = true) : PuB p := by
  unfold Pu.ok at h
  rw [Bool.and_eq_true, inB_iff, inB_iff] at h
  exact ⟨by omega, by omega, by omega, by omega⟩
end Go.Proofs.Ytldnpnplgfkebaa
