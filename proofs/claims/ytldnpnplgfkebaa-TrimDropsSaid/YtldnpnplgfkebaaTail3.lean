/- As Tail, where S is asked only until number t is through: what comes behind t (a second store, what takes a call's result) may break S. -/
import Derived.Test.YtldnpnplgfkebaaTail
namespace Go.Proofs.Ytldnpnplgfkebaa
open Go

section
variable {P : Program} {ops : Array Oper} {Q : Exit → Act → World → Prop} {md : Region.Mode} {S : World → Prop} {t : Nat}

def AnyU (P : Program) (md : Region.Mode) (ops : Array Oper) (Q : Exit → Act → World → Prop) (S : World → Prop) (t : Nat) : Nat → Array Bool → Act → World → Prop
  | 0, done, a, w => Region.ready md ops done = [] ∧ Q .normal a w
  | n + 1, done, a, w => (Region.ready md ops done = [] → Q .normal a w) ∧
    ∀ i, i ∈ Region.ready md ops done → wpOp P ops Q i (fun a' w' => (i ≠ t → done.getD t false = false → S w') ∧ AnyU P md ops Q S t n (done.setIfInBounds i true) a' w') a w

theorem AnyU.any : ∀ (n : Nat) (done : Array Bool) (a : Act) (w : World), AnyU P md ops Q S t n done a w → wpAny P md ops Q n done a w
  | 0, _, _, _, h => h
  | n + 1, _, _, _, h => ⟨h.1, fun i hi => wpOp_mono (fun a' w' k => AnyU.any n _ a' w' k.2) (h.2 i hi)⟩

theorem getD_keep {done : Array Bool} {t i : Nat} (ht : done.getD t false = false) (h : i ≠ t) : (done.setIfInBounds i true).getD t false = false := by
  simp only [Array.getD_eq_getD_getElem?, Array.getElem?_setIfInBounds_ne h] at ht ⊢
  exact ht
theorem AnyU.first {i : Nat} {oi : Oper} {v : Value} (hi : ops[i]? = some oi) (hsel : ∀ (j : Nat) (o : Oper) cs b, ops[j]? = some o → o.op ≠ .select cs b)
    (hQ : ∀ c a w, Q (.panic c) (a.put oi.dst v) w → Q (.panic c) a w) (hit : i ≠ t) (hw : Region.waitsFor md ops t i = true) :
    ∀ (n : Nat) (done : Array Bool) (a : Act) (w : World), done.getD t false = false →
      (∀ j oj, ops[j]? = some oj → j ≠ i → done.getD j true = false → (∀ e ∈ oj.after, Region.binds md e = true → e.on ≠ i) → oi.apart ops oj = true) →
      i ∈ Region.ready md ops done → YieldsIf P ops S oi v a → S w →
      AnyU P md ops Q S t n (done.setIfInBounds i true) (a.put oi.dst v) w → AnyU P md ops Q S t (n + 1) done a w := by
  intro n
  induction n with
  | zero =>
    intro done a w _ _ hr hy hS H
    refine ⟨fun h => absurd hr (by rw [h]; simp), fun j hj => ?_⟩
    by_cases hji : j = i
    · rw [hji]; exact hy.wpOp hi hS ⟨fun _ _ => hS, H⟩
    · exact absurd (ready_mono hj hji) (by rw [H.1]; simp)
  | succ n ih =>
    intro done a w hdt hfree hr hy hS H
    refine ⟨fun h => absurd hr (by rw [h]; simp), fun j hj => ?_⟩
    by_cases hji : j = i
    · rw [hji]; exact hy.wpOp hi hS ⟨fun _ _ => hS, H⟩
    obtain ⟨hjun, oj, hoj, hall⟩ := mem_ready.1 hj
    have hdone : done.getD i false = false := by
      have h0 := (mem_ready.1 hr).1
      rcases Nat.lt_or_ge i done.size with h' | h'
      · simp [h'] at h0 ⊢; exact h0
      · simp [Array.getElem?_eq_none h']
    have hnot : ∀ e ∈ oj.after, Region.binds md e = true → e.on ≠ i := fun e he hb heq => by
      have := hall e he hb
      rw [heq, hdone] at this
      cases this
    have hjt : j ≠ t := fun e => by
      subst e
      obtain ⟨o', ho', e', he', hb', hon⟩ := Region.waitsFor_spec hw
      rw [hoj] at ho'
      cases ho'
      exact hnot e' he' hb' hon
    have h2 := wpOp_putIf hoj (hfree j oj hoj hji hjun hnot) (fun cs b => hsel i oi cs b hi) (fun cs b => hsel j oj cs b hoj) hQ hy (H.2 j (ready_mono hj hji))
    refine wpOp_mono (fun a' w' h3 => ⟨fun _ _ => h3.2.1 hjt (getD_keep hdt hit), ih (done.setIfInBounds j true) a' w' (getD_keep hdt hjt) (fun k ok hk hki hun hno => hfree k ok hk hki ?_ hno) (ready_mono hr (Ne.symm hji)) h3.1 (h3.2.1 hjt (getD_keep hdt hit)) ?_⟩) h2
    · by_cases hjk : j = k
      · rw [← hjk]; exact hjun
      · rwa [getD_set_ne true hjk] at hun
    · rw [Array.setIfInBounds_comm _ _ hji]
      exact h3.2.2

theorem AnyU.take {i : Nat} {oi : Oper} {v : Value} {n : Nat} {done : Array Bool} {a : Act} {w : World} (hi : ops[i]? = some oi)
    (hs : Region.noSelect ops = true) (hf : Region.free md ops done i = true) (hr : (Region.ready md ops done).contains i = true) (hw : (i != t && Region.waitsFor md ops t i) = true) (hdt : done.getD t false = false)
    (hQ : ∀ c a w, Q (.panic c) (a.put oi.dst v) w → Q (.panic c) a w) (hy : YieldsIf P ops S oi v a) (hS : S w)
    (h : AnyU P md ops Q S t n (done.setIfInBounds i true) (a.put oi.dst v) w) : AnyU P md ops Q S t (n + 1) done a w := by
  rw [Bool.and_eq_true] at hw
  exact AnyU.first hi (Region.noSelect_spec hs) hQ (by simpa using hw.1) hw.2 n done a w hdt (Region.free_spec hi hf) (by simpa using hr) hy hS h

theorem AnyU.one {i : Nat} {o : Oper} {n : Nat} {done : Array Bool} {a : Act} {w : World} (ho : ops[i]? = some o) (hr : Region.ready md ops done = [i])
    (h : ∀ K : Act → World → Prop, Shut (∀ a' w', (i ≠ t → done.getD t false = false → S w') → AnyU P md ops Q S t n (done.setIfInBounds i true) a' w' → K a' w') → if Region.wanted o (yielded ops a.tmps) = true then Oper.wp P o a w K Q else K (a.put o.dst undef) w) :
    AnyU P md ops Q S t (n + 1) done a w :=
  ⟨fun h0 => absurd h0 (by rw [hr]; simp), fun j hj => by
    rw [hr, List.mem_singleton] at hj
    subst hj
    exact wpOp_step ho (fun K hK => h K (fun a' w' hS hA => hK a' w' ⟨hS, hA⟩))⟩

theorem AnyU.some {n : Nat} {done : Array Bool} {a : Act} {w : World} (rs : List Nat) (hr : Region.ready md ops done = rs) (hne : rs ≠ [])
    (h : ∀ i, i ∈ rs → wpOp P ops Q i (fun a' w' => (i ≠ t → done.getD t false = false → S w') ∧ AnyU P md ops Q S t n (done.setIfInBounds i true) a' w') a w) : AnyU P md ops Q S t (n + 1) done a w :=
  ⟨fun h0 => absurd h0 (by rw [hr]; exact hne), fun j hj => h j (by rw [← hr]; exact hj)⟩
theorem AnyU.step {i : Nat} {o : Oper} {n : Nat} {done : Array Bool} {a : Act} {w : World} (ho : ops[i]? = Option.some o)
    (h : ∀ K : Act → World → Prop, Shut (∀ a' w', (i ≠ t → done.getD t false = false → S w') → AnyU P md ops Q S t n (done.setIfInBounds i true) a' w' → K a' w') → if Region.wanted o (yielded ops a.tmps) = true then Oper.wp P o a w K Q else K (a.put o.dst undef) w) :
    wpOp P ops Q i (fun a' w' => (i ≠ t → done.getD t false = false → S w') ∧ AnyU P md ops Q S t n (done.setIfInBounds i true) a' w') a w :=
  wpOp_step ho (fun K hK => h K (fun a' w' hS hA => hK a' w' ⟨hS, hA⟩))
theorem AnyU.done {done : Array Bool} {a : Act} {w : World} {n : Nat} (hr : Region.ready md ops done = []) (h : Q .normal a w) : AnyU P md ops Q S t n done a w := by
  cases n with
  | zero => exact ⟨hr, h⟩
  | succ n => exact ⟨fun _ => h, fun i hi => absurd hi (by rw [hr]; simp)⟩

theorem AnyU.begin {id : Nat} {a : Act} {w : World} (S : World → Prop) (t : Nat) (hm : P.follows .mixedOrders = true) (hS : S w.drew)
    (h : S w.drew → AnyU P .any ops Q S t ops.size (Array.replicate ops.size false) a w.drew) : (Code.region id ops true).wp P Q a w :=
  wp_region_any hm (AnyU.any _ _ _ _ (h hS))
/-- The same, with its number of operations and what is through written out: each step is then a small one. -/
theorem AnyU.start {id : Nat} {a : Act} {w : World} (S : World → Prop) (t n : Nat) (done : Array Bool) (hm : P.follows .mixedOrders = true) (hn : ops.size = n) (hd : Array.replicate n false = done) (hS : S w.drew)
    (h : S w.drew → AnyU P .any ops Q S t n done a w.drew) : (Code.region id ops true).wp P Q a w :=
  AnyU.begin S t hm hS (by rw [hn, hd]; exact h)
end
end Go.Proofs.Ytldnpnplgfkebaa
