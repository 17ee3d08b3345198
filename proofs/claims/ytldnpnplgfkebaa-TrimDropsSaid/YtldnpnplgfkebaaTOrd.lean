/- Package trim: the sets of bags in their order, and the least of all masks. -/
import Derived.Test.YtldnpnplgfkebaaTSets
namespace Go.Proofs.Ytldnpnplgfkebaa

/-- The bits of a number that are 1, as the reference lists them. -/
def listM (m : Nat) : List Int := ((List.range 10).filter m.testBit).map fun (i : Nat) => (i : Int)
/-- Of two lists of one length the first one comes first. -/
def lexB : List Int → List Int → Bool
  | a :: xs, b :: ys => if a = b then lexB xs ys else decide (a < b)
  | _, _ => false
/-- Fewer first; of as many, the first one in lexicographic order. -/
def befS (a b : List Int) : Bool := decide (a.length < b.length) || (decide (a.length = b.length) && lexB a b)
theorem lexB_trans : ∀ (a b c : List Int), lexB a b = true → lexB b c = true → lexB a c = true
  | [], _, _, h, _ => by simp [lexB] at h
  | _ :: _, [], _, h, _ => by simp [lexB] at h
  | _ :: _, _ :: _, [], _, h => by simp [lexB] at h
  | a :: xs, b :: ys, c :: zs, h, k => by
    unfold lexB at h k ⊢
    by_cases e : a = b
    · subst e
      rw [if_pos rfl] at h
      by_cases e2 : a = c
      · subst e2
        rw [if_pos rfl] at k ⊢
        exact lexB_trans xs ys zs h k
      · rw [if_neg e2] at k ⊢
        exact k
    · rw [if_neg e, decide_eq_true_eq] at h
      by_cases e2 : b = c
      · subst e2
        rw [if_neg e]
        exact decide_eq_true h
      · rw [if_neg e2, decide_eq_true_eq] at k
        rw [if_neg (by omega)]
        exact decide_eq_true (by omega)
theorem lexB_self : ∀ (a : List Int), lexB a a = false
  | [] => rfl
  | a :: xs => by unfold lexB; rw [if_pos rfl]; exact lexB_self xs
theorem befS_trans {a b c : List Int} (h : befS a b = true) (k : befS b c = true) : befS a c = true := by
  unfold befS at h k ⊢
  simp only [Bool.or_eq_true, Bool.and_eq_true, decide_eq_true_eq] at h k ⊢
  rcases h with h | ⟨h1, h2⟩
  · rcases k with k | ⟨k1, _⟩
    · exact .inl (by omega)
    · exact .inl (by omega)
  · rcases k with k | ⟨k1, k2⟩
    · exact .inl (by omega)
    · exact .inr ⟨by omega, lexB_trans a b c h2 k2⟩
theorem befS_self (a : List Int) : befS a a = false := by
  unfold befS
  rw [lexB_self]
  simp
/-- Each comes before the next one. -/
def rowB : List (List Int) → Bool
  | a :: b :: l => befS a b && rowB (b :: l)
  | _ => true
theorem rowB_head : ∀ (l : List (List Int)) (a : List Int), rowB (a :: l) = true → (∀ z, z ∈ l → befS a z = true) ∧ rowB l = true
  | [], _, _ => ⟨fun _ h => by simp at h, rfl⟩
  | b :: l, a, h => by
    unfold rowB at h
    rw [Bool.and_eq_true] at h
    refine ⟨fun z hz => ?_, h.2⟩
    rcases List.mem_cons.1 hz with rfl | hz
    · exact h.1
    · exact befS_trans h.1 ((rowB_head l b h.2).1 z hz)
theorem rowB_split : ∀ (pre post : List (List Int)) (a : List Int), rowB (pre ++ a :: post) = true → ∀ z, z ∈ pre → befS z a = true
  | [], _, _, _, _, h => by simp at h
  | p :: pre, post, a, h, z, hz => by
    have hh := rowB_head _ _ (show rowB (p :: (pre ++ a :: post)) = true from h)
    rcases List.mem_cons.1 hz with rfl | hz
    · exact hh.1 a (by simp)
    · exact rowB_split pre post a hh.2 z hz
/-- The number whose bits a list names. -/
def maskM (zs : List Int) : Nat := zs.foldr (fun z n => n ||| 1 <<< z.toNat) 0
/-- The masks that have come, as bits. -/
def bitsM (S : List (List Int)) : Nat := S.foldr (fun zs n => n ||| 1 <<< maskM zs) 0
theorem bitsM_mem : ∀ (S : List (List Int)) (m : Nat), (bitsM S).testBit m = true → ∃ zs, zs ∈ S ∧ maskM zs = m
  | [], m, h => by simp [bitsM] at h
  | a :: S, m, h => by
    unfold bitsM at h
    rw [List.foldr_cons, Nat.testBit_or, Bool.or_eq_true] at h
    rcases h with h | h
    · obtain ⟨zs, h1, h2⟩ := bitsM_mem S m h
      exact ⟨zs, List.mem_cons_of_mem _ h1, h2⟩
    · rw [Nat.one_shiftLeft, Nat.testBit_two_pow, decide_eq_true_eq] at h
      exact ⟨a, List.mem_cons_self .., h⟩
set_option maxRecDepth 100000 in
theorem sets_row : ∀ B, B < 11 → (rowB (setsN B) && (setsN B).all (fun zs => decide (listM (maskM zs) = zs) && decide (maskM zs < 2 ^ B)) && bitsM (setsN B) == 2 ^ (2 ^ B) - 1) = true := by decide +kernel
structure SetsOk (B : Nat) : Prop where
  row : rowB (setsN B) = true
  mask : ∀ zs, zs ∈ setsN B → listM (maskM zs) = zs ∧ maskM zs < 2 ^ B
  all : ∀ m, m < 2 ^ B → listM m ∈ setsN B
theorem setsOk {B : Nat} (hB : B ≤ 10) : SetsOk B := by
  have h := sets_row B (by omega)
  rw [Bool.and_eq_true, Bool.and_eq_true, beq_iff_eq, List.all_eq_true] at h
  obtain ⟨⟨h1, h2⟩, h3⟩ := h
  have hm : ∀ zs, zs ∈ setsN B → listM (maskM zs) = zs ∧ maskM zs < 2 ^ B := fun zs hz => by
    have := h2 zs hz
    rwa [Bool.and_eq_true, decide_eq_true_eq, decide_eq_true_eq] at this
  refine ⟨h1, hm, fun m hlt => ?_⟩
  obtain ⟨zs, k1, k2⟩ := bitsM_mem (setsN B) m (by rw [h3, Nat.testBit_two_pow_sub_one]; exact decide_eq_true hlt)
  rw [← k2, (hm zs k1).1]
  exact k1
/-- What a mask makes of the best one so far. -/
def stepM (ok : List Int → Bool) (o : Option Nat) (k : Nat) : Option Nat :=
  match o with
  | some b => if befS (listM k) (listM b) = true then (if ok (listM k) = true then some k else some b) else some b
  | none => if ok (listM k) = true then some k else none
/-- The best of the first n masks. -/
def bestM (ok : List Int → Bool) : Nat → Option Nat
  | 0 => none
  | n + 1 => stepM ok (bestM ok n) n
def BestOk (ok : List Int → Bool) (n : Nat) : Option Nat → Prop
  | none => ∀ k, k < n → ok (listM k) = false
  | some b => b < n ∧ ok (listM b) = true ∧ ∀ k, k < n → ok (listM k) = true → befS (listM k) (listM b) = false
theorem bestM_ok (ok : List Int → Bool) : ∀ n, BestOk ok n (bestM ok n)
  | 0 => fun k h => by omega
  | n + 1 => by
    have ih := bestM_ok ok n
    unfold bestM
    generalize bestM ok n = o at ih ⊢
    cases o with
    | none =>
      by_cases hk : ok (listM n) = true
      · rw [show stepM ok none n = some n by simp [stepM, hk]]
        refine ⟨by omega, hk, fun k hlt hok => ?_⟩
        by_cases e : k = n
        · subst e; exact befS_self _
        · have := ih k (by omega)
          rw [hok] at this
          cases this
      · rw [show stepM ok none n = none by simp [stepM, hk]]
        intro k hlt
        by_cases e : k = n
        · subst e; simpa using hk
        · exact ih k (by omega)
    | some b =>
      obtain ⟨i1, i2, i3⟩ := ih
      by_cases hb : befS (listM n) (listM b) = true
      · by_cases hk : ok (listM n) = true
        · rw [show stepM ok (some b) n = some n by simp [stepM, hk, hb]]
          refine ⟨by omega, hk, fun k hlt hok => ?_⟩
          by_cases e : k = n
          · subst e; exact befS_self _
          · have h1 := i3 k (by omega) hok
            cases hc : befS (listM k) (listM n) with
            | false => rfl
            | true => rw [befS_trans hc hb] at h1; cases h1
        · rw [show stepM ok (some b) n = some b by simp [stepM, hk, hb]]
          refine ⟨by omega, i2, fun k hlt hok => ?_⟩
          by_cases e : k = n
          · subst e; exact absurd hok hk
          · exact i3 k (by omega) hok
      · rw [show stepM ok (some b) n = some b by simp [stepM, hb]]
        refine ⟨by omega, i2, fun k hlt hok => ?_⟩
        by_cases e : k = n
        · subst e; simpa using hb
        · exact i3 k (by omega) hok
/-- The best of all masks is the first set in order. -/
theorem best_find (ok : List Int → Bool) {B : Nat} (hB : B ≤ 10) : (bestM ok (2 ^ B)).map listM = (setsN B).find? ok := by
  have hs := setsOk hB
  have hb := bestM_ok ok (2 ^ B)
  generalize bestM ok (2 ^ B) = o at hb ⊢
  cases o with
  | none =>
    refine (List.find?_eq_none.2 fun zs hz => ?_).symm
    obtain ⟨h1, h2⟩ := hs.mask zs hz
    have := hb _ h2
    rw [h1] at this
    rw [this]
    decide
  | some b =>
    obtain ⟨h1, h2, h3⟩ := hb
    obtain ⟨pre, post, hsp⟩ := List.append_of_mem (hs.all b h1)
    refine (List.find?_eq_some_iff_append.2 ⟨h2, pre, post, hsp, fun zs hz => ?_⟩).symm
    have hz1 := hs.mask zs (by rw [hsp]; exact List.mem_append_left _ hz)
    have hr := hs.row
    rw [hsp] at hr
    have hbf := rowB_split pre post _ hr zs hz
    have := h3 _ hz1.2
    rw [hz1.1] at this
    cases hk : ok zs with
    | false => rfl
    | true => rw [this hk] at hbf; cases hbf
#print axioms best_find
end Go.Proofs.Ytldnpnplgfkebaa
