/- The reference of layer 4: Breach. -/
import Derived.Test.YtmadkefpjoheeaaTRBr
namespace Go.Proofs.Ytmadkefpjoheeaa
open Go.RowKit

theorem brk_cases (ls : List Ld) : ∀ (ms : List Li) (i : Nat), brk ls i ms = -1 ∨ ∃ (k : Nat) (x : Li), ms[k]? = some x ∧ brk ls i ms = ((i + k : Nat) : Int)
  | [], i => .inl rfl
  | m :: ms, i => by
    unfold brk
    split
    · exact .inr ⟨0, m, rfl, rfl⟩
    · rcases brk_cases ls ms (i + 1) with h | ⟨k, x, h1, h2⟩
      · exact .inl h
      · exact .inr ⟨k + 1, x, h1, by rw [h2]; congr 1; omega⟩
theorem SlPu.keep {w w1 : World} {B : Nat} {v : Value} {ps : List Pu} (h : SlPu w v ps) (hb : ∀ g, Value.ownBlock v = some g → g ≠ B) (hs : w.heap.size ≤ w1.heap.size) (hk : ∀ g o, g ≠ B → w1.cell? ⟨g, o, none⟩ = w.cell? ⟨g, o, none⟩) : SlPu w1 v ps := by
  rcases h with h | ⟨b, off, cap, rfl, h2, h3, h4, h5⟩
  · exact .inl h
  · have hne := hb b rfl
    exact .inr ⟨b, off, cap, rfl, h2, h3, by omega, fun i p e => ⟨by rw [hk _ _ hne]; exact (h5 i p e).c0, by rw [hk _ _ hne]; exact (h5 i p e).c1⟩⟩
set_option maxRecDepth 100000 in
set_option maxHeartbeats 8000000 in
theorem rbreach_any (v u : Value) (ls : List Ld) (ms : List Li) (w : World) (hv : SlLd w v ls) (hu : SlLi w u ms) : Calls Try.prog 29 #[v, u] w (BrP ls ms w) := by
  obtain ⟨ad, cap, rfl, hlen, hcap⟩ := hu.form
  have HV := Lib.hid hv
  have HU := Lib.hid hu
  obtain ⟨n, hn⟩ : ∃ n, bothN ls ms = n := ⟨_, rfl⟩
  have HN := Lib.hid hn
  clear hv hu
  by_cases h0 : n = 0
  rotate_left 1
  · clear hn
    go_enter Try.func29, Try.ntmps29
    go_wp2_with fail
    refine (rasked_any v _ ls ms _ (ldLater HV.out (by go_grown)) (liLater HU.out (by go_grown))).mono ?_
    rintro e w1 ⟨rfl, hb1⟩
    rw [HN.out]
    have hB1 : Below w.heap.size w w1 := (after (w := w) (by go_grown) hb1).1
    obtain ⟨r0, r1, f0, f1⟩ := show BoxV w1 w.heap.size (.int .i64 0) (.slice none 0 0) from BoxV.later ⟨by go_cell, by go_cell, by go_cell, by go_cell⟩ hb1
    clear hb1
    go_wp2_with fail
    refine bodyPost_ret (v := .tuple #[brV 0 (.slice none 0 0), .int .i64 n]) (by simp [results, Try.results29, go_sem, *]) rfl (.inl ⟨by rw [HN.out]; exact h0, ?_, by go_grown⟩)
    rw [HN.out]
  subst h0
  obtain ⟨h40, hok, h12, hmok⟩ := bothN_ok hn
  have HL := Lib.hid (loads_bound hok)
  have HMo := Lib.hid hmok
  clear hn hok hmok
  have hbk := brk_cases ls ms 0
  obtain ⟨bi, hbi⟩ : ∃ i, brk ls 0 ms = i := ⟨_, rfl⟩
  have HBi := Lib.hid hbi
  have HBk := Lib.hid hbk
  clear hbk hbi
  go_enter Try.func29, Try.ntmps29
  go_wp2_with fail
  refine (rasked_any v _ ls ms _ (ldLater HV.out (by go_grown)) (liLater HU.out (by go_grown))).mono ?_
  rintro e w1 ⟨rfl, hb1⟩
  rw [HN.out]
  have hB1 : Below w.heap.size w w1 := (after (w := w) (by go_grown) hb1).1
  have R1 := Lib.hid (show BoxV w1 w.heap.size (.int .i64 0) (.slice none 0 0) from BoxV.later ⟨by go_cell, by go_cell, by go_cell, by go_cell⟩ hb1)
  clear hb1
  go_wp2_with fail
  refine (rbroken_any v _ ls ms _ (ldLater HV.out hB1) (liLater HU.out hB1) (by omega) HL.out HMo.out).mono ?_
  rintro e w2 ⟨rfl, hb2⟩
  rw [HBi.out]
  have hB2 := hB1.trans (hb2.mono hB1.size)
  have R2 := Lib.hid (R1.out.later hb2)
  clear hb2 R1 hB1
  obtain ⟨r0, r1, f0, f1⟩ := R2.out
  have z2 := R2.out.lt
  rcases HBk.out with hm1 | ⟨k, x, hkx, hki⟩
  · rw [HBi.out] at hm1
    subst hm1
    go_wp2_with fail
    exact bodyPost_ret (v := .tuple #[brV 0 (.slice none 0 0), .int .i64 6]) (by simp [results, Try.results29, go_sem, *]) rfl (.inr (.inl ⟨HN.out, HBi.out, rfl, by go_grown⟩))
  rw [HBi.out, Nat.zero_add] at hki
  subst hki
  have hkl : k < ms.length := (List.getElem?_eq_some_iff.1 hkx).1
  obtain ⟨b, off, x', rfl, hb, hc, hat⟩ := HU.out.at hkl
  rw [hkx] at hc
  cases hc
  obtain ⟨c0, c1, c2⟩ := LiAt.later hat (show Below w.heap.size w w2 from hB2)
  have HS := Lib.hid (limits_ok HMo.out (List.mem_of_getElem? hkx)).1
  have HKx := Lib.hid hkx
  have hk0 : ¬ (k : Int) < 0 := by omega
  have hk1 : (0 : Int) ≤ (k : Int) := by omega
  have hk2 : (k : Int) < (ms.length : Int) := by omega
  clear hkx hat r0 r1 f0 f1
  go_wp2_with fail
  refine (rworst_new v ls x _ (ldLater HV.out hB2) (by omega) HS.out HL.out).mono ?_
  rintro e w3 ⟨q, rfl, hq, hb3, hqn⟩
  obtain ⟨aq, capq, rfl, _, _⟩ := hq.form
  rw [List.length_map] at hq hqn
  have hB3 := hB2.trans (hb3.mono hB2.size)
  have R3 := Lib.hid (R2.out.later hb3)
  have HQ := Lib.hid hq
  have HQn := Lib.hid hqn
  have hs2 := R2.out.lt
  clear hb3 c0 c1 c2 hq hqn R2 hB2
  obtain ⟨r0, r1, f0, f1⟩ := R3.out
  have z3 := R3.out.lt
  rw [List.length_map]
  go_wp2_with fail
  refine bodyPost_ret (v := .tuple #[brV k (.slice aq ls.length capq), .int .i64 0]) (by simp [results, Try.results29, go_sem, *]) rfl (.inr (.inr ⟨HN.out, k, x, _, HKx.out, HBi.out, rfl, ?_, by go_grown⟩))
  refine HQ.out.keep (B := w.heap.size) (fun g hg => by have := HQn.out g hg; omega) (by simp) (fun g o hg => ?_)
  rw [cell_far _ _ hg, cell_far _ _ hg]
end Go.Proofs.Ytmadkefpjoheeaa
