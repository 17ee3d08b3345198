/- Choices of loads: what they come to lies between the ends. Numbers only. -/
import Derived.Test.YtldnpnplgfkebaaTShE
import Derived.Test.YtldnpnplgfkebaaTStr
namespace Go.Proofs.Ytldnpnplgfkebaa
open Go.RowKit

/-- A put is a choice of a load. -/
def InP (p : Pu) (l : Ld) : Prop := l.a0 ≤ p.p ∧ p.p ≤ l.a1 ∧ l.w0 ≤ p.w ∧ p.w ≤ l.w1
def ChoP : List Pu → List Ld → Prop
  | [], [] => True
  | p :: ps, l :: ls => InP p l ∧ ChoP ps ls
  | _, _ => False
theorem ChoP.len : ∀ {ps : List Pu} {ls : List Ld}, ChoP ps ls → ps.length = ls.length
  | [], [], _ => rfl
  | p :: ps, l :: ls, h => by rw [List.length_cons, List.length_cons, ChoP.len h.2]
  | [], _ :: _, h => h.elim
  | _ :: _, [], h => h.elim
theorem ChoP.snoc : ∀ {ps : List Pu} {ls : List Ld} {p : Pu} {l : Ld}, ChoP ps ls → InP p l → ChoP (ps ++ [p]) (ls ++ [l])
  | [], [], _, _, _, h => ⟨h, trivial⟩
  | _ :: _, _ :: _, _, _, h, k => ⟨h.1, ChoP.snoc h.2 k⟩
  | [], _ :: _, _, _, h, _ => h.elim
  | _ :: _, [], _, _, h, _ => h.elim
theorem ChoP.map {f : Pu → Pu} {g : Ld → Ld} : ∀ {ps : List Pu} {ls : List Ld}, (∀ p l, l ∈ ls → InP p l → InP (f p) (g l)) → ChoP ps ls → ChoP (ps.map f) (ls.map g)
  | [], [], _, _ => trivial
  | p :: _, l :: _, h, k => ⟨h p l (List.mem_cons_self ..) k.1, ChoP.map (fun p l hl => h p l (List.mem_cons_of_mem _ hl)) k.2⟩
  | [], _ :: _, _, h => h.elim
  | _ :: _, [], _, h => h.elim
theorem ChoP.bound : ∀ {ps : List Pu} {ls : List Ld}, (∀ l, l ∈ ls → LdB l) → ChoP ps ls → ∀ p, p ∈ ps → PuB p
  | [], [], _, _, p, hp => by simp at hp
  | q :: ps, l :: ls, h, k, p, hp => by
    rcases List.mem_cons.1 hp with rfl | hp
    · obtain ⟨h0, h1, h2, h3⟩ := h l (List.mem_cons_self ..)
      obtain ⟨k0, k1, k2, k3⟩ := k.1
      unfold PuB
      omega
    · exact ChoP.bound (fun l hl => h l (List.mem_cons_of_mem _ hl)) k.2 p hp
  | [], _ :: _, _, h, _, _ => h.elim
  | _ :: _, [], _, h, _, _ => h.elim
theorem lin_le {x y z d : Int} (h0 : x ≤ y) (h1 : y ≤ z) : d * y ≤ max (d * x) (d * z) := by
  rcases Int.le_total 0 d with hd | hd
  · have := pos_mono hd h1
    omega
  · have := pos_mono (x := -d) (by omega) h0
    rw [Int.neg_mul, Int.neg_mul] at this
    omega
theorem in_le {a b : Int} {p : Pu} {l : Ld} (h : InP p l) : valE a b p ≤ mostE a b l := by
  obtain ⟨h0, h1, h2, h3⟩ := h
  rw [most_max]
  unfold valE
  simp only
  have s1 := lin_le (d := a + b * p.p) h2 h3
  rw [Int.mul_comm _ p.w, Int.mul_comm _ l.w0, Int.mul_comm _ l.w1] at s1
  have s2 := lin_le (d := l.w0 * b) h0 h1
  have s3 := lin_le (d := l.w1 * b) h0 h1
  rw [Int.mul_assoc, Int.mul_assoc, Int.mul_assoc] at s2 s3
  simp only [Int.mul_add] at s1 ⊢
  omega
theorem cho_le {a b : Int} : ∀ {ps : List Pu} {ls : List Ld}, ChoP ps ls → sumE (valE a b) ps ≤ sumE (mostE a b) ls
  | [], [], _ => Int.le_refl _
  | p :: ps, l :: ls, h => by
    have h1 := cho_le (a := a) (b := b) h.2
    have h2 := in_le (a := a) (b := b) h.1
    unfold sumE at h1 ⊢
    rw [List.map_cons, List.sum_cons, List.map_cons, List.sum_cons]
    omega
  | [], _ :: _, h => h.elim
  | _ :: _, [], h => h.elim
theorem worst_in (a b : Int) {l : Ld} (h : l.ok = true) : InP (worstP a b l) l := by
  have ho := ld_order h
  have hm := worst_mem a b l
  simp only [cornersP, List.mem_cons, List.not_mem_nil, or_false] at hm
  unfold InP
  rcases hm with e | e | e | e <;> rw [e] <;> simp only <;> omega
theorem worsts_in (a b : Int) : ∀ {ls : List Ld}, (∀ l, l ∈ ls → l.ok = true) → ChoP (ls.map (worstP a b)) ls
  | [], _ => trivial
  | l :: _, h => ⟨worst_in a b (h l (List.mem_cons_self ..)), worsts_in a b (fun l hl => h l (List.mem_cons_of_mem _ hl))⟩
/-- The heaviness and the moment of puts. -/
def heavE (ps : List Pu) : Int := sumE Pu.w ps
def momE (p : Pu) : Int := p.w * p.p
def momsE (ps : List Pu) : Int := sumE momE ps
theorem lin_sum (a b : Int) : ∀ (ps : List Pu), sumE (valE a b) ps = a * heavE ps + b * momsE ps
  | [] => by simp [sumE, heavE, momsE]
  | p :: ps => by
    have h := lin_sum a b ps
    unfold heavE momsE sumE at *
    rw [List.map_cons, List.sum_cons, List.map_cons, List.sum_cons, List.map_cons, List.sum_cons, h]
    unfold valE momE
    rw [Int.mul_add, Int.mul_add, Int.mul_add, Int.mul_comm a p.w, ← Int.mul_assoc, Int.mul_comm p.w b, ← Int.mul_assoc]
    omega
theorem heavy_in {ps : List Pu} {ls : List Ld} (h0 : loadsN ls = 0) (h : ChoP ps ls) : (heavyS ls).1 ≤ heavE ps ∧ heavE ps ≤ (heavyS ls).2 := by
  have h1 := cho_le (a := 1) (b := 0) h
  have h2 := cho_le (a := -1) (b := -0) h
  rw [lin_sum] at h1 h2
  unfold heavyS
  rw [if_pos h0]
  unfold mostL
  simp only
  omega
theorem moment_in {ps : List Pu} {ls : List Ld} (h0 : loadsN ls = 0) (h : ChoP ps ls) : (momentS ls).1 ≤ momsE ps ∧ momsE ps ≤ (momentS ls).2 := by
  have h1 := cho_le (a := 0) (b := 1) h
  have h2 := cho_le (a := -0) (b := -1) h
  rw [lin_sum] at h1 h2
  unfold momentS
  rw [if_pos h0]
  unfold mostL
  simp only
  omega
/-- A put as it is to a frame. -/
def sternP (at' : Int) (p : Pu) : Pu := if p.p < at' then ⟨at' - p.p, p.w⟩ else ⟨0, 0⟩
theorem stern_in {at' : Int} {p : Pu} {l : Ld} (h : InP p l) : InP (sternP at' p) (asternL at' l) := by
  obtain ⟨h0, h1, h2, h3⟩ := h
  unfold InP sternP asternL arm
  split <;> split <;> (try split) <;> simp only <;> omega
theorem sterns_in (at' : Int) {ps : List Pu} {ls : List Ld} (h : ChoP ps ls) : ChoP (ps.map (sternP at')) (ls.map (asternL at')) :=
  h.map fun _ _ _ k => stern_in k
theorem shear_in {at' : Int} {ps : List Pu} {ls : List Ld} (hok : ∀ l, l ∈ ls → l.ok = true) (h0 : -20000 ≤ at') (h1 : at' ≤ 20000) (hp : placeN ls at' = 0) (h : ChoP ps ls) :
    (shearE ls at').1 ≤ heavE (ps.map (sternP at')) ∧ heavE (ps.map (sternP at')) ≤ (shearE ls at').2 := by
  have hs := sterns_in at' h
  have g1 := cho_le (a := 1) (b := 0) hs
  have g2 := cho_le (a := -1) (b := -0) hs
  obtain ⟨e1, e2⟩ := shear_is hok h0 h1
  rw [lin_sum] at g1 g2
  unfold shearE
  rw [if_pos hp]
  unfold mostL at e1 e2
  omega
theorem bend_in {at' : Int} {ps : List Pu} {ls : List Ld} (hok : ∀ l, l ∈ ls → l.ok = true) (hp : placeN ls at' = 0) (h : ChoP ps ls) :
    (bendE ls at').1 ≤ momsE (ps.map (sternP at')) ∧ momsE (ps.map (sternP at')) ≤ (bendE ls at').2 := by
  have hs := sterns_in at' h
  have g1 := cho_le (a := 0) (b := 1) hs
  have g2 := cho_le (a := -0) (b := -1) hs
  obtain ⟨e1, e2⟩ := bend_is (at' := at') hok
  rw [lin_sum] at g1 g2
  unfold bendE
  rw [if_pos hp]
  unfold mostL at e1 e2
  omega
end Go.Proofs.Ytldnpnplgfkebaa
