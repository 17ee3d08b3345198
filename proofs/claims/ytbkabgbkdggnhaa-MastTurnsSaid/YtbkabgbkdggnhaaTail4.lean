/- A region that draws its order, holds calls that make memory, and ends in one store that waits for all else: what a load reads may be the very cell that this store writes. S is asked behind every operation but that one. -/
import Derived.OrdersHeld
import Derived.StillTail
import Derived.Deep.RegionHeld3
namespace Go.Proofs.Ytbkabgbkdggnhaa
open Go

section
variable {P : Program} {ops : Array Oper} {Q : Exit → Act → World → Prop} {md : Region.Mode} {S : World → Prop} {t : Nat}

/-- Whatever order comes: S behind each operation but number t. -/
def AnyT (P : Program) (md : Region.Mode) (ops : Array Oper) (Q : Exit → Act → World → Prop) (S : World → Prop) (t : Nat) : Nat → Array Bool → Act → World → Prop
  | 0, done, a, w => Region.ready md ops done = [] ∧ Q .normal a w
  | n + 1, done, a, w => (Region.ready md ops done = [] → Q .normal a w) ∧
    ∀ i, i ∈ Region.ready md ops done → wpOp P ops Q i (fun a' w' => (i ≠ t → S w') ∧ AnyT P md ops Q S t n (done.setIfInBounds i true) a' w') a w

theorem AnyT.any : ∀ (n : Nat) (done : Array Bool) (a : Act) (w : World), AnyT P md ops Q S t n done a w → wpAny P md ops Q n done a w
  | 0, _, _, _, h => h
  | n + 1, _, _, _, h => ⟨h.1, fun i hi => wpOp_mono (fun a' w' k => AnyT.any n _ a' w' k.2) (h.2 i hi)⟩

theorem AnyT.first {i : Nat} {oi : Oper} {v : Value} (hi : ops[i]? = some oi) (hsel : ∀ (j : Nat) (o : Oper) cs b, ops[j]? = some o → o.op ≠ .select cs b)
    (hQ : ∀ c a w, Q (.panic c) (a.put oi.dst v) w → Q (.panic c) a w) (hit : i ≠ t) (hw : Region.waitsFor md ops t i = true) :
    ∀ (n : Nat) (done : Array Bool) (a : Act) (w : World),
      (∀ j oj, ops[j]? = some oj → j ≠ i → done.getD j true = false → (∀ e ∈ oj.after, Region.binds md e = true → e.on ≠ i) → oi.apart ops oj = true) →
      i ∈ Region.ready md ops done → YieldsIf P ops S oi v a → S w →
      AnyT P md ops Q S t n (done.setIfInBounds i true) (a.put oi.dst v) w → AnyT P md ops Q S t (n + 1) done a w := by
  intro n
  induction n with
  | zero =>
    intro done a w _ hr hy hS H
    refine ⟨fun h => absurd hr (by rw [h]; simp), fun j hj => ?_⟩
    by_cases hji : j = i
    · rw [hji]; exact hy.wpOp hi hS ⟨fun _ => hS, H⟩
    · exact absurd (ready_mono hj hji) (by rw [H.1]; simp)
  | succ n ih =>
    intro done a w hfree hr hy hS H
    refine ⟨fun h => absurd hr (by rw [h]; simp), fun j hj => ?_⟩
    by_cases hji : j = i
    · rw [hji]; exact hy.wpOp hi hS ⟨fun _ => hS, H⟩
    obtain ⟨hjun, oj, hoj, hall⟩ := mem_ready.1 hj
    have hdone : done.getD i false = false := by
      have h0 := (mem_ready.1 hr).1
      rcases Nat.lt_or_ge i done.size with h' | h'
      · simp [h'] at h0 ⊢; exact h0
      · simp [Array.getElem?_eq_none h']
    have hnot : ∀ e ∈ oj.after, Region.binds md e = true → e.on ≠ i := fun e he hb heq => by
      have := hall e he hb
      rw [heq, hdone] at this
      cases this
    have hjt : j ≠ t := fun e => by
      subst e
      obtain ⟨o', ho', e', he', hb', hon⟩ := Region.waitsFor_spec hw
      rw [hoj] at ho'
      cases ho'
      exact hnot e' he' hb' hon
    have h2 := wpOp_putIf hoj (hfree j oj hoj hji hjun hnot) (fun cs b => hsel i oi cs b hi) (fun cs b => hsel j oj cs b hoj) hQ hy (H.2 j (ready_mono hj hji))
    refine wpOp_mono (fun a' w' h3 => ⟨fun _ => h3.2.1 hjt, ih (done.setIfInBounds j true) a' w' (fun k ok hk hki hun hno => hfree k ok hk hki ?_ hno) (ready_mono hr (Ne.symm hji)) h3.1 (h3.2.1 hjt) ?_⟩) h2
    · by_cases hjk : j = k
      · rw [← hjk]; exact hjun
      · rwa [getD_set_ne true hjk] at hun
    · rw [Array.setIfInBounds_comm _ _ hji]
      exact h3.2.2

/-- Number i is taken first. -/
theorem AnyT.take {i : Nat} {oi : Oper} {v : Value} {n : Nat} {done : Array Bool} {a : Act} {w : World} (hi : ops[i]? = some oi)
    (hs : Region.noSelect ops = true) (hf : Region.free md ops done i = true) (hr : (Region.ready md ops done).contains i = true) (hw : (i != t && Region.waitsFor md ops t i) = true)
    (hQ : ∀ c a w, Q (.panic c) (a.put oi.dst v) w → Q (.panic c) a w) (hy : YieldsIf P ops S oi v a) (hS : S w)
    (h : AnyT P md ops Q S t n (done.setIfInBounds i true) (a.put oi.dst v) w) : AnyT P md ops Q S t (n + 1) done a w := by
  rw [Bool.and_eq_true] at hw
  exact AnyT.first hi (Region.noSelect_spec hs) hQ (by simpa using hw.1) hw.2 n done a w (Region.free_spec hi hf) (by simpa using hr) hy hS h

/-- Number i is the only one that may come. -/
theorem AnyT.one {i : Nat} {o : Oper} {n : Nat} {done : Array Bool} {a : Act} {w : World} (ho : ops[i]? = some o) (hr : Region.ready md ops done = [i])
    (h : ∀ K : Act → World → Prop, Shut (∀ a' w', (i ≠ t → S w') → AnyT P md ops Q S t n (done.setIfInBounds i true) a' w' → K a' w') → if Region.wanted o (yielded ops a.tmps) = true then Oper.wp P o a w K Q else K (a.put o.dst undef) w) :
    AnyT P md ops Q S t (n + 1) done a w :=
  ⟨fun h0 => absurd h0 (by rw [hr]; simp), fun j hj => by
    rw [hr, List.mem_singleton] at hj
    subst hj
    exact wpOp_step ho (fun K hK => h K (fun a' w' hS hA => hK a' w' ⟨hS, hA⟩))⟩

theorem AnyT.done {done : Array Bool} {a : Act} {w : World} {n : Nat} (hr : Region.ready md ops done = []) (h : Q .normal a w) : AnyT P md ops Q S t n done a w := by
  cases n with
  | zero => exact ⟨hr, h⟩
  | succ n => exact ⟨fun _ => h, fun i hi => absurd hi (by rw [hr]; simp)⟩

theorem AnyT.begin {id : Nat} {a : Act} {w : World} (S : World → Prop) (t : Nat) (hm : P.follows .mixedOrders = true) (hS : S w.drew)
    (h : S w.drew → AnyT P .any ops Q S t ops.size (Array.replicate ops.size false) a w.drew) : (Code.region id ops true).wp P Q a w :=
  wp_region_any hm (AnyT.any _ _ _ _ (h hS))
end
end Go.Proofs.Ytbkabgbkdggnhaa
/- As Tail, where S is asked only until number t is through: what comes behind t (a second store, what takes a call's result) may break S. -/
namespace Go.Proofs.Ytbkabgbkdggnhaa
open Go

section
variable {P : Program} {ops : Array Oper} {Q : Exit → Act → World → Prop} {md : Region.Mode} {S : World → Prop} {t : Nat}

def AnyU (P : Program) (md : Region.Mode) (ops : Array Oper) (Q : Exit → Act → World → Prop) (S : World → Prop) (t : Nat) : Nat → Array Bool → Act → World → Prop
  | 0, done, a, w => Region.ready md ops done = [] ∧ Q .normal a w
  | n + 1, done, a, w => (Region.ready md ops done = [] → Q .normal a w) ∧
    ∀ i, i ∈ Region.ready md ops done → wpOp P ops Q i (fun a' w' => (i ≠ t → done.getD t false = false → S w') ∧ AnyU P md ops Q S t n (done.setIfInBounds i true) a' w') a w

theorem AnyU.any : ∀ (n : Nat) (done : Array Bool) (a : Act) (w : World), AnyU P md ops Q S t n done a w → wpAny P md ops Q n done a w
  | 0, _, _, _, h => h
  | n + 1, _, _, _, h => ⟨h.1, fun i hi => wpOp_mono (fun a' w' k => AnyU.any n _ a' w' k.2) (h.2 i hi)⟩

theorem getD_keep {done : Array Bool} {t i : Nat} (ht : done.getD t false = false) (h : i ≠ t) : (done.setIfInBounds i true).getD t false = false := by
  simp only [Array.getD_eq_getD_getElem?, Array.getElem?_setIfInBounds_ne h] at ht ⊢
  exact ht
theorem AnyU.first {i : Nat} {oi : Oper} {v : Value} (hi : ops[i]? = some oi) (hsel : ∀ (j : Nat) (o : Oper) cs b, ops[j]? = some o → o.op ≠ .select cs b)
    (hQ : ∀ c a w, Q (.panic c) (a.put oi.dst v) w → Q (.panic c) a w) (hit : i ≠ t) (hw : Region.waitsFor md ops t i = true) :
    ∀ (n : Nat) (done : Array Bool) (a : Act) (w : World), done.getD t false = false →
      (∀ j oj, ops[j]? = some oj → j ≠ i → done.getD j true = false → (∀ e ∈ oj.after, Region.binds md e = true → e.on ≠ i) → oi.apart ops oj = true) →
      i ∈ Region.ready md ops done → YieldsIf P ops S oi v a → S w →
      AnyU P md ops Q S t n (done.setIfInBounds i true) (a.put oi.dst v) w → AnyU P md ops Q S t (n + 1) done a w := by
  intro n
  induction n with
  | zero =>
    intro done a w _ _ hr hy hS H
    refine ⟨fun h => absurd hr (by rw [h]; simp), fun j hj => ?_⟩
    by_cases hji : j = i
    · rw [hji]; exact hy.wpOp hi hS ⟨fun _ _ => hS, H⟩
    · exact absurd (ready_mono hj hji) (by rw [H.1]; simp)
  | succ n ih =>
    intro done a w hdt hfree hr hy hS H
    refine ⟨fun h => absurd hr (by rw [h]; simp), fun j hj => ?_⟩
    by_cases hji : j = i
    · rw [hji]; exact hy.wpOp hi hS ⟨fun _ _ => hS, H⟩
    obtain ⟨hjun, oj, hoj, hall⟩ := mem_ready.1 hj
    have hdone : done.getD i false = false := by
      have h0 := (mem_ready.1 hr).1
      rcases Nat.lt_or_ge i done.size with h' | h'
      · simp [h'] at h0 ⊢; exact h0
      · simp [Array.getElem?_eq_none h']
    have hnot : ∀ e ∈ oj.after, Region.binds md e = true → e.on ≠ i := fun e he hb heq => by
      have := hall e he hb
      rw [heq, hdone] at this
      cases this
    have hjt : j ≠ t := fun e => by
      subst e
      obtain ⟨o', ho', e', he', hb', hon⟩ := Region.waitsFor_spec hw
      rw [hoj] at ho'
      cases ho'
      exact hnot e' he' hb' hon
    have h2 := wpOp_putIf hoj (hfree j oj hoj hji hjun hnot) (fun cs b => hsel i oi cs b hi) (fun cs b => hsel j oj cs b hoj) hQ hy (H.2 j (ready_mono hj hji))
    refine wpOp_mono (fun a' w' h3 => ⟨fun _ _ => h3.2.1 hjt (getD_keep hdt hit), ih (done.setIfInBounds j true) a' w' (getD_keep hdt hjt) (fun k ok hk hki hun hno => hfree k ok hk hki ?_ hno) (ready_mono hr (Ne.symm hji)) h3.1 (h3.2.1 hjt (getD_keep hdt hit)) ?_⟩) h2
    · by_cases hjk : j = k
      · rw [← hjk]; exact hjun
      · rwa [getD_set_ne true hjk] at hun
    · rw [Array.setIfInBounds_comm _ _ hji]
      exact h3.2.2

theorem AnyU.take {i : Nat} {oi : Oper} {v : Value} {n : Nat} {done : Array Bool} {a : Act} {w : World} (hi : ops[i]? = some oi)
    (hs : Region.noSelect ops = true) (hf : Region.free md ops done i = true) (hr : (Region.ready md ops done).contains i = true) (hw : (i != t && Region.waitsFor md ops t i) = true) (hdt : done.getD t false = false)
    (hQ : ∀ c a w, Q (.panic c) (a.put oi.dst v) w → Q (.panic c) a w) (hy : YieldsIf P ops S oi v a) (hS : S w)
    (h : AnyU P md ops Q S t n (done.setIfInBounds i true) (a.put oi.dst v) w) : AnyU P md ops Q S t (n + 1) done a w := by
  rw [Bool.and_eq_true] at hw
  exact AnyU.first hi (Region.noSelect_spec hs) hQ (by simpa using hw.1) hw.2 n done a w hdt (Region.free_spec hi hf) (by simpa using hr) hy hS h

theorem AnyU.one {i : Nat} {o : Oper} {n : Nat} {done : Array Bool} {a : Act} {w : World} (ho : ops[i]? = some o) (hr : Region.ready md ops done = [i])
    (h : ∀ K : Act → World → Prop, Shut (∀ a' w', (i ≠ t → done.getD t false = false → S w') → AnyU P md ops Q S t n (done.setIfInBounds i true) a' w' → K a' w') → if Region.wanted o (yielded ops a.tmps) = true then Oper.wp P o a w K Q else K (a.put o.dst undef) w) :
    AnyU P md ops Q S t (n + 1) done a w :=
  ⟨fun h0 => absurd h0 (by rw [hr]; simp), fun j hj => by
    rw [hr, List.mem_singleton] at hj
    subst hj
    exact wpOp_step ho (fun K hK => h K (fun a' w' hS hA => hK a' w' ⟨hS, hA⟩))⟩

theorem AnyU.some {n : Nat} {done : Array Bool} {a : Act} {w : World} (rs : List Nat) (hr : Region.ready md ops done = rs) (hne : rs ≠ [])
    (h : ∀ i, i ∈ rs → wpOp P ops Q i (fun a' w' => (i ≠ t → done.getD t false = false → S w') ∧ AnyU P md ops Q S t n (done.setIfInBounds i true) a' w') a w) : AnyU P md ops Q S t (n + 1) done a w :=
  ⟨fun h0 => absurd h0 (by rw [hr]; exact hne), fun j hj => h j (by rw [← hr]; exact hj)⟩
theorem AnyU.step {i : Nat} {o : Oper} {n : Nat} {done : Array Bool} {a : Act} {w : World} (ho : ops[i]? = Option.some o)
    (h : ∀ K : Act → World → Prop, Shut (∀ a' w', (i ≠ t → done.getD t false = false → S w') → AnyU P md ops Q S t n (done.setIfInBounds i true) a' w' → K a' w') → if Region.wanted o (yielded ops a.tmps) = true then Oper.wp P o a w K Q else K (a.put o.dst undef) w) :
    wpOp P ops Q i (fun a' w' => (i ≠ t → done.getD t false = false → S w') ∧ AnyU P md ops Q S t n (done.setIfInBounds i true) a' w') a w :=
  wpOp_step ho (fun K hK => h K (fun a' w' hS hA => hK a' w' ⟨hS, hA⟩))
theorem AnyU.done {done : Array Bool} {a : Act} {w : World} {n : Nat} (hr : Region.ready md ops done = []) (h : Q .normal a w) : AnyU P md ops Q S t n done a w := by
  cases n with
  | zero => exact ⟨hr, h⟩
  | succ n => exact ⟨fun _ => h, fun i hi => absurd hi (by rw [hr]; simp)⟩

theorem AnyU.begin {id : Nat} {a : Act} {w : World} (S : World → Prop) (t : Nat) (hm : P.follows .mixedOrders = true) (hS : S w.drew)
    (h : S w.drew → AnyU P .any ops Q S t ops.size (Array.replicate ops.size false) a w.drew) : (Code.region id ops true).wp P Q a w :=
  wp_region_any hm (AnyU.any _ _ _ _ (h hS))
/-- The same, with its number of operations and what is through written out: each step is then a small one. -/
theorem AnyU.start {id : Nat} {a : Act} {w : World} (S : World → Prop) (t n : Nat) (done : Array Bool) (hm : P.follows .mixedOrders = true) (hn : ops.size = n) (hd : Array.replicate n false = done) (hS : S w.drew)
    (h : S w.drew → AnyU P .any ops Q S t n done a w.drew) : (Code.region id ops true).wp P Q a w :=
  AnyU.begin S t hm hS (by rw [hn, hd]; exact h)
end
end Go.Proofs.Ytbkabgbkdggnhaa
/- As Tail: T t is asked until number t is through, for each t; what is taken ahead is taken for the sake of a t that cannot come before it. -/
namespace Go.Proofs.Ytbkabgbkdggnhaa
open Go

/-- t cannot come before i. -/
def needs (md : Region.Mode) (ops : Array Oper) : Nat → Nat → Nat → Bool
  | 0, _, _ => false
  | f + 1, t, i => match ops[t]? with
    | some o => o.after.toList.any fun e => Region.binds md e && (e.on == i || needs md ops f e.on i)
    | none => false
/-- What is through had all that it waits for. -/
def Closed (md : Region.Mode) (ops : Array Oper) (done : Array Bool) : Prop := ∀ x o, ops[x]? = some o → done.getD x false = true → ∀ e ∈ o.after, Region.binds md e = true → done.getD e.on false = true
def closedB (md : Region.Mode) (ops : Array Oper) (done : Array Bool) : Bool := (List.range ops.size).all fun x => match ops[x]? with
  | some o => !(done.getD x false) || o.after.toList.all fun e => !(Region.binds md e) || done.getD e.on false
  | none => true
theorem closedB_spec {md : Region.Mode} {ops : Array Oper} {done : Array Bool} (h : closedB md ops done = true) : Closed md ops done := by
  intro x o hx hd e he hb
  have hlt : x < ops.size := (Array.getElem?_eq_some_iff.1 hx).1
  have h1 := List.all_eq_true.1 h x (List.mem_range.2 hlt)
  simp only [hx, hd, Bool.not_true, Bool.false_or] at h1
  have h2 := List.all_eq_true.1 h1 e (by simpa using he)
  simpa [hb] using h2
theorem needs_done {md : Region.Mode} {ops : Array Oper} {done : Array Bool} {i : Nat} (hc : Closed md ops done) : ∀ (f t : Nat), needs md ops f t i = true →
    (∀ o, ops[t]? = some o → ∀ e ∈ o.after, Region.binds md e = true → done.getD e.on false = true) → done.getD i false = true
  | 0, _, h, _ => by simp [needs] at h
  | f + 1, t, h, hd => by
    unfold needs at h
    cases ho : ops[t]? with
    | none => rw [ho] at h; simp at h
    | some o =>
      rw [ho] at h
      simp only at h
      obtain ⟨e, he, h2⟩ := List.any_eq_true.1 h
      rw [Bool.and_eq_true, Bool.or_eq_true] at h2
      have hde := hd o ho e (by simpa using he) h2.1
      rcases h2.2 with h3 | h3
      · rw [← (by simpa using h3 : e.on = i)]; exact hde
      · exact needs_done hc f e.on h3 (fun o' ho' e' he' hb' => hc _ o' ho' hde e' he' hb')
theorem getD_put {done : Array Bool} {t j : Nat} (h : done.getD t false = true) : (done.setIfInBounds j true).getD t false = true := by
  by_cases e : j = t
  · subst e
    have hlt : j < done.size := by
      rcases Nat.lt_or_ge j done.size with h' | h'
      · exact h'
      · simp [Array.getElem?_eq_none h'] at h
    simp [hlt]
  · simp only [Array.getD_eq_getD_getElem?, Array.getElem?_setIfInBounds_ne e] at h ⊢
    exact h

section
variable {P : Program} {ops : Array Oper} {Q : Exit → Act → World → Prop} {md : Region.Mode} {T : Nat → World → Prop}

def Till (T : Nat → World → Prop) (done : Array Bool) (w : World) : Prop := ∀ t, done.getD t false = false → T t w
theorem Closed.put {done : Array Bool} {j : Nat} (hc : Closed md ops done) (hj : j ∈ Region.ready md ops done) : Closed md ops (done.setIfInBounds j true) := by
  obtain ⟨_, oj, hoj, hall⟩ := mem_ready.1 hj
  intro x o hx hd e he hb
  by_cases e1 : x = j
  · subst e1
    rw [hoj] at hx
    cases hx
    exact getD_put (hall e he hb)
  · refine getD_put (hc x o hx ?_ e he hb)
    simp only [Array.getD_eq_getD_getElem?, Array.getElem?_setIfInBounds_ne (Ne.symm e1)] at hd ⊢
    exact hd
theorem Till.put {done : Array Bool} {i j : Nat} {w : World} (h : Till T ((done.setIfInBounds i true).setIfInBounds j true) w) (hi : ∀ w, T i w) : Till T (done.setIfInBounds j true) w := by
  intro t ht
  by_cases e : t = i
  · subst e; exact hi w
  · refine h t ?_
    by_cases e2 : j = t
    · subst e2
      rcases Nat.lt_or_ge j done.size with h' | h'
      · simp [h'] at ht
      · simp [h']
    · simp only [Array.getD_eq_getD_getElem?, Array.getElem?_setIfInBounds_ne e2, Array.getElem?_setIfInBounds_ne (Ne.symm e)] at ht ⊢
      exact ht
theorem Till.start {done : Array Bool} {i : Nat} {w : World} (h : Till T done w) : Till T (done.setIfInBounds i true) w := by
  intro t ht
  refine h t ?_
  cases hd : done.getD t false with
  | false => rfl
  | true => rw [getD_put hd] at ht; cases ht

def AnyV (P : Program) (md : Region.Mode) (ops : Array Oper) (Q : Exit → Act → World → Prop) (T : Nat → World → Prop) : Nat → Array Bool → Act → World → Prop
  | 0, done, a, w => Region.ready md ops done = [] ∧ Q .normal a w
  | n + 1, done, a, w => (Region.ready md ops done = [] → Q .normal a w) ∧
    ∀ i, i ∈ Region.ready md ops done → wpOp P ops Q i (fun a' w' => Till T (done.setIfInBounds i true) w' ∧ AnyV P md ops Q T n (done.setIfInBounds i true) a' w') a w

theorem AnyV.any : ∀ (n : Nat) (done : Array Bool) (a : Act) (w : World), AnyV P md ops Q T n done a w → wpAny P md ops Q n done a w
  | 0, _, _, _, h => h
  | n + 1, _, _, _, h => ⟨h.1, fun i hi => wpOp_mono (fun a' w' k => AnyV.any n _ a' w' k.2) (h.2 i hi)⟩

theorem AnyV.first {i t f : Nat} {oi : Oper} {v : Value} (hi : ops[i]? = some oi) (hsel : ∀ (j : Nat) (o : Oper) cs b, ops[j]? = some o → o.op ≠ .select cs b)
    (hQ : ∀ c a w, Q (.panic c) (a.put oi.dst v) w → Q (.panic c) a w) (hTi : ∀ w, T i w) (hw : needs md ops f t i = true) :
    ∀ (n : Nat) (done : Array Bool) (a : Act) (w : World), Closed md ops done →
      (∀ j oj, ops[j]? = some oj → j ≠ i → done.getD j true = false → (∀ e ∈ oj.after, Region.binds md e = true → e.on ≠ i) → oi.apart ops oj = true) →
      i ∈ Region.ready md ops done → YieldsIf P ops (T t) oi v a → Till T done w →
      AnyV P md ops Q T n (done.setIfInBounds i true) (a.put oi.dst v) w → AnyV P md ops Q T (n + 1) done a w := by
  intro n
  have D : ∀ (done : Array Bool), Closed md ops done → i ∈ Region.ready md ops done → done.getD i false = false ∧ done.getD t false = false := by
    intro done hc hr
    have hdone : done.getD i false = false := by
      have h0 := (mem_ready.1 hr).1
      rcases Nat.lt_or_ge i done.size with h' | h'
      · simp [h'] at h0 ⊢; exact h0
      · simp [Array.getElem?_eq_none h']
    refine ⟨hdone, ?_⟩
    cases hd : done.getD t false with
    | false => rfl
    | true =>
      have := needs_done hc f t hw (fun o ho e he hb => hc t o ho hd e he hb)
      rw [hdone] at this
      cases this
  induction n with
  | zero =>
    intro done a w hc _ hr hy hS H
    refine ⟨fun h => absurd hr (by rw [h]; simp), fun j hj => ?_⟩
    by_cases hji : j = i
    · rw [hji]; exact hy.wpOp hi (hS t (D done hc hr).2) ⟨hS.start, H⟩
    · exact absurd (ready_mono hj hji) (by rw [H.1]; simp)
  | succ n ih =>
    intro done a w hc hfree hr hy hS H
    refine ⟨fun h => absurd hr (by rw [h]; simp), fun j hj => ?_⟩
    by_cases hji : j = i
    · rw [hji]; exact hy.wpOp hi (hS t (D done hc hr).2) ⟨hS.start, H⟩
    obtain ⟨hjun, oj, hoj, hall⟩ := mem_ready.1 hj
    have hdone := (D done hc hr).1
    have hnot : ∀ e ∈ oj.after, Region.binds md e = true → e.on ≠ i := fun e he hb heq => by
      have := hall e he hb
      rw [heq, hdone] at this
      cases this
    have h2 := wpOp_putIf hoj (hfree j oj hoj hji hjun hnot) (fun cs b => hsel i oi cs b hi) (fun cs b => hsel j oj cs b hoj) hQ hy (H.2 j (ready_mono hj hji))
    have hri := ready_mono hr (Ne.symm hji)
    refine wpOp_mono (fun a' w' h3 => ⟨h3.2.1.put hTi, ih (done.setIfInBounds j true) a' w' (hc.put hj) (fun k ok hk hki hun hno => hfree k ok hk hki ?_ hno) hri h3.1 (h3.2.1.put hTi) ?_⟩) h2
    · by_cases hjk : j = k
      · rw [← hjk]; exact hjun
      · rwa [getD_set_ne true hjk] at hun
    · rw [Array.setIfInBounds_comm _ _ hji]
      exact h3.2.2

/-- Number i is taken first, for t's sake. -/
theorem AnyV.take {i : Nat} (t f : Nat) {oi : Oper} {v : Value} {n : Nat} {done : Array Bool} {a : Act} {w : World} (hi : ops[i]? = some oi)
    (hs : Region.noSelect ops = true) (hf : Region.free md ops done i = true) (hr : (Region.ready md ops done).contains i = true) (hw : needs md ops f t i = true) (hc : closedB md ops done = true)
    (hQ : ∀ c a w, Q (.panic c) (a.put oi.dst v) w → Q (.panic c) a w) (hTi : ∀ w, T i w) (hy : YieldsIf P ops (T t) oi v a) (hS : Till T done w)
    (h : Till T (done.setIfInBounds i true) w → AnyV P md ops Q T n (done.setIfInBounds i true) (a.put oi.dst v) w) : AnyV P md ops Q T (n + 1) done a w :=
  AnyV.first hi (Region.noSelect_spec hs) hQ hTi hw n done a w (closedB_spec hc) (Region.free_spec hi hf) (by simpa using hr) hy hS (h hS.start)

theorem AnyV.one {i : Nat} {o : Oper} {n : Nat} {done : Array Bool} {a : Act} {w : World} (ho : ops[i]? = some o) (hr : Region.ready md ops done = [i])
    (h : ∀ K : Act → World → Prop, Shut (∀ a' w', Till T (done.setIfInBounds i true) w' → AnyV P md ops Q T n (done.setIfInBounds i true) a' w' → K a' w') → if Region.wanted o (yielded ops a.tmps) = true then Oper.wp P o a w K Q else K (a.put o.dst undef) w) :
    AnyV P md ops Q T (n + 1) done a w :=
  ⟨fun h0 => absurd h0 (by rw [hr]; simp), fun j hj => by
    rw [hr, List.mem_singleton] at hj
    subst hj
    exact wpOp_step ho (fun K hK => h K (fun a' w' hS hA => hK a' w' ⟨hS, hA⟩))⟩
theorem AnyV.some {n : Nat} {done : Array Bool} {a : Act} {w : World} (rs : List Nat) (hr : Region.ready md ops done = rs) (hne : rs ≠ [])
    (h : ∀ i, i ∈ rs → wpOp P ops Q i (fun a' w' => Till T (done.setIfInBounds i true) w' ∧ AnyV P md ops Q T n (done.setIfInBounds i true) a' w') a w) : AnyV P md ops Q T (n + 1) done a w :=
  ⟨fun h0 => absurd h0 (by rw [hr]; exact hne), fun j hj => h j (by rw [← hr]; exact hj)⟩
theorem AnyV.step {i : Nat} {o : Oper} {n : Nat} {done : Array Bool} {a : Act} {w : World} (ho : ops[i]? = Option.some o)
    (h : ∀ K : Act → World → Prop, Shut (∀ a' w', Till T (done.setIfInBounds i true) w' → AnyV P md ops Q T n (done.setIfInBounds i true) a' w' → K a' w') → if Region.wanted o (yielded ops a.tmps) = true then Oper.wp P o a w K Q else K (a.put o.dst undef) w) :
    wpOp P ops Q i (fun a' w' => Till T (done.setIfInBounds i true) w' ∧ AnyV P md ops Q T n (done.setIfInBounds i true) a' w') a w :=
  wpOp_step ho (fun K hK => h K (fun a' w' hS hA => hK a' w' ⟨hS, hA⟩))
theorem AnyV.done {done : Array Bool} {a : Act} {w : World} {n : Nat} (hr : Region.ready md ops done = []) (h : Q .normal a w) : AnyV P md ops Q T n done a w := by
  cases n with
  | zero => exact ⟨hr, h⟩
  | succ n => exact ⟨fun _ => h, fun i hi => absurd hi (by rw [hr]; simp)⟩
theorem AnyV.start {id : Nat} {a : Act} {w : World} (T : Nat → World → Prop) (n : Nat) (done : Array Bool) (hm : P.follows .mixedOrders = true) (hn : ops.size = n) (hd : Array.replicate n false = done) (hS : ∀ t, T t w.drew)
    (h : Till T done w.drew → AnyV P .any ops Q T n done a w.drew) : (Code.region id ops true).wp P Q a w := by
  refine wp_region_any hm (AnyV.any (T := T) _ _ _ _ ?_)
  rw [hn, hd]
  exact h (fun t _ => hS t)
/-- Two numbers, each with what holds until it is through. -/
def Two (t1 : Nat) (S1 : World → Prop) (t2 : Nat) (S2 : World → Prop) (t : Nat) (w : World) : Prop := (t = t1 → S1 w) ∧ (t = t2 → S2 w)
theorem Two.till {t1 t2 : Nat} {S1 S2 : World → Prop} {done : Array Bool} {w : World} (h1 : done.getD t1 false = false → S1 w) (h2 : done.getD t2 false = false → S2 w) : Till (Two t1 S1 t2 S2) done w :=
  fun t ht => ⟨fun e => h1 (by rw [← e]; exact ht), fun e => h2 (by rw [← e]; exact ht)⟩
theorem Two.other {t1 t2 i : Nat} {S1 S2 : World → Prop} (h : (i != t1 && i != t2) = true) : ∀ w, Two t1 S1 t2 S2 i w := fun w => by
  simp at h
  exact ⟨fun e => absurd e h.1, fun e => absurd e h.2⟩
end
end Go.Proofs.Ytbkabgbkdggnhaa
