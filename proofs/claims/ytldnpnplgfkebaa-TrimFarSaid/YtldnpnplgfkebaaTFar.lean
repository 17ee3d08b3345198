/- Loads that are known exactly: shear is how bending grows; a frame that bears less. Numbers only. -/
import Derived.Test.YtldnpnplgfkebaaTCho
import Derived.Test.YtldnpnplgfkebaaTStrd
namespace Go.Proofs.Ytldnpnplgfkebaa
open Go.RowKit

def exactL (l : Ld) : Ld := ⟨l.a0, l.a0, l.w0, l.w0⟩
theorem exact_ok {l : Ld} (h : l.ok = true) : (exactL l).ok = true := by
  unfold Ld.ok exactL at *
  rw [Bool.and_eq_true, spB_iff, spB_iff] at *
  simp only
  omega
theorem exacts_ok {ls : List Ld} (h : ∀ l, l ∈ ls → l.ok = true) : ∀ l, l ∈ ls.map exactL → l.ok = true := fun l hl => by
  obtain ⟨m, hm, rfl⟩ := List.mem_map.1 hl
  exact exact_ok (h m hm)
theorem exacts_loads {ls : List Ld} (h : loadsN ls = 0) : loadsN (ls.map exactL) = 0 := by
  obtain ⟨h1, h2⟩ := loadsN_ok h
  unfold loadsN listN
  rw [List.length_map, if_neg (by omega), if_pos (List.all_eq_true.2 (exacts_ok (fun l hl => List.all_eq_true.1 h2 l hl)))]
def aftE (at' : Int) (l : Ld) : Int := if l.a0 < at' then l.w0 else 0
def armE (at' : Int) (l : Ld) : Int := arm at' l.a0 * l.w0
theorem ex_same (a c : Int) : exLo a a c c = a * c ∧ exHi a a c c = a * c := by
  unfold exLo exHi
  omega
theorem part_exact (at' : Int) (l : Ld) : partLo at' (exactL l) = (if l.a0 < at' then 1 else 0) ∧ partHi at' (exactL l) = (if l.a0 < at' then 1 else 0) := by
  unfold partLo partHi exactL
  simp only
  by_cases h : l.a0 < at'
  · rw [if_pos h, if_neg (by omega)]
    simp
  · rw [if_neg h, if_pos (by omega)]
    simp
theorem sh_exact (at' : Int) (l : Ld) : shLo at' (exactL l) = aftE at' l ∧ shHi at' (exactL l) = aftE at' l := by
  obtain ⟨p0, p1⟩ := part_exact at' l
  unfold shLo shHi
  rw [p0, p1]
  obtain ⟨e0, e1⟩ := ex_same (if l.a0 < at' then 1 else 0) l.w0
  unfold exactL
  simp only
  rw [e0, e1]
  unfold aftE
  split <;> simp
theorem bd_exact (at' : Int) (l : Ld) : bdLo at' (exactL l) = armE at' l ∧ bdHi at' (exactL l) = armE at' l := by
  unfold bdLo bdHi exactL armE
  simp only
  exact ex_same _ _
theorem shear_exact {at' : Int} {ls : List Ld} (h : loadsN ls = 0) (h0 : -20000 ≤ at') (h1 : at' ≤ 20000) : placeN (ls.map exactL) at' = 0 ∧ shearE (ls.map exactL) at' = (sumE (aftE at') ls, sumE (aftE at') ls) := by
  have hp : placeN (ls.map exactL) at' = 0 := by
    unfold placeN
    rw [if_pos (exacts_loads h), if_pos (inB_iff.2 ⟨h0, h1⟩)]
  refine ⟨hp, ?_⟩
  unfold shearE shearS
  rw [if_pos hp, sum_map, sum_map]
  rw [sumE_congr _ (aftE at') ls (fun l _ => (sh_exact at' l).1), sumE_congr (fun x => shHi at' (exactL x)) (aftE at') ls (fun l _ => (sh_exact at' l).2)]
theorem bend_exact {at' : Int} {ls : List Ld} (hp : placeN (ls.map exactL) at' = 0) : bendE (ls.map exactL) at' = (sumE (armE at') ls, sumE (armE at') ls) := by
  unfold bendE bendS
  rw [if_pos hp, sum_map, sum_map]
  rw [sumE_congr _ (armE at') ls (fun l _ => (bd_exact at' l).1), sumE_congr (fun x => bdHi at' (exactL x)) (armE at') ls (fun l _ => (bd_exact at' l).2)]
theorem heavy_exact {ls : List Ld} (h : loadsN ls = 0) : heavyS (ls.map exactL) = (sumE Ld.w0 ls, sumE Ld.w0 ls) := by
  rw [heavy_is (exacts_loads h), sum_map, sum_map]
  rfl
theorem arm_grow (at' : Int) (l : Ld) : armE at' l - armE (at' - 1) l = aftE at' l := by
  unfold armE aftE arm
  split
  · rw [show max (at' - l.a0) 0 = max (at' - 1 - l.a0) 0 + 1 by omega, Int.add_mul]
    omega
  · rw [show max (at' - l.a0) 0 = 0 by omega, show max (at' - 1 - l.a0) 0 = 0 by omega]
    omega
theorem bend_grow (at' : Int) : ∀ (ls : List Ld), sumE (armE at') ls - sumE (armE (at' - 1)) ls = sumE (aftE at') ls
  | [] => rfl
  | l :: ls => by
    have h1 := bend_grow at' ls
    have h2 := arm_grow at' l
    unfold sumE at *
    rw [List.map_cons, List.sum_cons, List.map_cons, List.sum_cons, List.map_cons, List.sum_cons]
    omega
def farB (at' : Int) (ls : List Ld) : Bool := ls.all fun l => decide (l.a0 < at' - 1)
theorem far_sum {at' : Int} {ls : List Ld} (h : farB at' ls = true) : sumE (aftE at') ls = sumE Ld.w0 ls :=
  sumE_congr _ _ ls (fun l hl => by
    have := List.all_eq_true.1 h l hl
    rw [decide_eq_true_eq] at this
    unfold aftE
    rw [if_pos (by omega)])
theorem far_step {at' : Int} {ls : List Ld} {k : Nat} {l : Ld} (h : ls[k]? = some l) : farB at' (ls.take (k + 1)) = (farB at' (ls.take k) && decide (l.a0 < at' - 1)) := by
  unfold farB
  rw [List.take_add_one, h, Option.toList_some, List.all_append]
  simp
theorem aft_bound {at' : Int} {ls : List Ld} (h : loadsN ls = 0) (h0 : -20000 ≤ at') (h1 : at' ≤ 20000) : -4000000000000000 ≤ sumE (armE at') ls ∧ sumE (armE at') ls ≤ 4000000000000000 := by
  obtain ⟨h2, h3⟩ := loadsN_ok h
  have := sum_bound (f := armE at') (m := 42949672960000) ls (fun l hl => by
    have hk := List.all_eq_true.1 h3 l hl
    unfold Ld.ok at hk
    rw [Bool.and_eq_true, spB_iff, spB_iff] at hk
    have := mul_lim (m := 40000) (n := 1073741824) (x := arm at' l.a0) (y := l.w0) (by unfold arm; omega) (by unfold arm; omega) (by omega) (by omega)
    unfold armE
    omega)
  omega
def weakF (f : Fr) (n : Int) : Fr := ⟨f.p, max (f.s - n) 0, max (f.b - n) 0⟩
theorem weak_ok {f : Fr} {n : Int} (h : f.ok = true) (h0 : 0 ≤ n) : (weakF f n).ok = true := by
  have := Fr.bound h
  unfold Fr.ok weakF
  rw [Bool.and_eq_true, Bool.and_eq_true, inB_iff, inB_iff, inB_iff]
  simp only
  omega
theorem sp_mono {a b m n : Int} (h : spB a b (-m) m = true) (hn : m ≤ n) : spB a b (-n) n = true := by
  rw [spB_iff] at *
  omega
theorem weak_str {ls : List Ld} {f : Fr} {n : Int} (hf : f.ok = true) (h0 : 0 ≤ n) (h : strB ls f = true) : strB ls (weakF f n) = true := by
  have hb := Fr.bound hf
  cases hw : strB ls (weakF f n) with
  | true => rfl
  | false =>
    unfold strB at h hw
    rw [Bool.or_eq_false_iff, Bool.not_eq_false', Bool.not_eq_false'] at hw
    have h1 : bearsS ls f = true := sp_mono (m := (weakF f n).s) hw.1 (by unfold weakF; simp only; omega)
    have h2 : bearsB ls f = true := sp_mono (m := (weakF f n).b) hw.2 (by unfold weakF; simp only; omega)
    rw [h1, h2] at h
    cases h
theorem weak_list {ls : List Ld} {f : Fr} {n : Int} (hl : loadsN ls = 0) (hf : f.ok = true) (h0 : 0 ≤ n) :
    strN ls [f, weakF f n] = 0 ∧ (strL ls [f, weakF f n] = [] ∨ strL ls [f, weakF f n] = [1] ∨ strL ls [f, weakF f n] = [0, 1]) := by
  have hN : strN ls [f, weakF f n] = 0 := by
    unfold strN framesN listN
    rw [if_pos hl]
    simp [hf, weak_ok hf h0]
  refine ⟨hN, ?_⟩
  unfold strL
  rw [if_pos hN]
  unfold strI strI strI
  by_cases h1 : strB ls f = true
  · rw [if_pos h1, if_pos (weak_str hf h0 h1)]
    exact .inr (.inr rfl)
  · rw [if_neg h1]
    split
    · exact .inr (.inl rfl)
    · exact .inl rfl
theorem frame_one (f : Fr) : framesN [f] = 0 ↔ f.ok = true := by
  unfold framesN listN
  simp
end Go.Proofs.Ytldnpnplgfkebaa
