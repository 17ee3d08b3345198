/- The reference of layer 4: Worst. -/
import Derived.Test.YtmadkefpjoheeaaTRWo
namespace Go.Proofs.Ytmadkefpjoheeaa
open Go.RowKit

/-- What the reference's Worst returns. -/
def RWoP (ls : List Ld) (x : Li) (w : World) (e : Ending) (w' : World) : Prop :=
  (bothN ls [x] = 0 ∧ ∃ u, e = .returned (.tuple #[.int .i64 (mostL x.a x.b ls), u, .int .i64 0]) ∧ SlPu w' u (ls.map (worstP x.a x.b)) ∧ Below w.heap.size w w') ∨
  (bothN ls [x] ≠ 0 ∧ e = .returned (.tuple #[.int .i64 0, .slice none 0 0, .int .i64 (bothN ls [x])]) ∧ Below w.heap.size w w')
theorem both_one {ls : List Ld} {x : Li} : bothN ls [x] = if loadsN ls = 0 then (if x.ok then 0 else 41) else loadsN ls := by
  unfold bothN limitsN listN
  simp
set_option maxHeartbeats 4000000 in
theorem rworstOf_any (v : Value) (ls : List Ld) (x : Li) (w : World) (hv : SlLd w v ls) : Calls Try.prog 25 #[v, liV x] w (RWoP ls x w) := by
  have HV := Lib.hid hv
  obtain ⟨n, hn⟩ : ∃ n, loadsN ls = n := ⟨_, rfl⟩
  have HN := Lib.hid hn
  clear hv
  by_cases h0 : n = 0
  rotate_left 1
  · have HE := Lib.hid (show bothN ls [x] = n by rw [both_one, hn, if_neg h0])
    clear hn
    go_enter Try.func25, Try.ntmps25
    go_wp2_with fail
    refine (rcheckLd_any v ls _ (ldLater HV.out (by go_grown))).mono ?_
    rintro e w1 ⟨rfl, hb1⟩
    rw [HN.out]
    have hB1 : Below w.heap.size w w1 := (after (w := w) (by go_grown) hb1).1
    clear hb1
    go_wp2_with fail
    refine bodyPost_ret (v := .tuple #[.int .i64 0, .slice none 0 0, .int .i64 n]) (by simp [results, Try.results25, go_sem, *]) rfl (.inr ⟨by rw [HE.out]; exact h0, ?_, hB1⟩)
    rw [HE.out]
  subst h0
  obtain ⟨h40, hok⟩ := loadsN_ok hn
  have HL := Lib.hid (loads_bound hok)
  by_cases hx : x.ok = true
  rotate_left 1
  · have HE := Lib.hid (show bothN ls [x] = 41 by rw [both_one, hn, if_pos rfl, if_neg hx])
    have HX := Lib.hid (show x.ok = false by simpa using hx)
    clear hn hok hx
    go_enter Try.func25, Try.ntmps25
    go_wp2_with fail
    refine (rcheckLd_any v ls _ (ldLater HV.out (by go_grown))).mono ?_
    rintro e w1 ⟨rfl, hb1⟩
    rw [HN.out]
    have hB1 : Below w.heap.size w w1 := (after (w := w) (by go_grown) hb1).1
    obtain ⟨x0, x1, x2⟩ := show Three w1 w.heap.size x.a x.b x.c from Three.later ⟨by go_cell, by go_cell, by go_cell⟩ hb1
    clear hb1
    go_wp2_with fail
    refine (rLimit_any x _).mono ?_
    rintro e w2 ⟨rfl, hb2⟩
    rw [HX.out]
    have hB2 : Below w.heap.size w w2 := hB1.trans (hb2.mono hB1.size)
    clear hb2 hB1 x0 x1 x2
    go_wp2_with fail
    refine bodyPost_ret (v := .tuple #[.int .i64 0, .slice none 0 0, .int .i64 41]) (by simp [results, Try.results25, go_sem, *]) rfl (.inr ⟨by rw [HE.out]; omega, ?_, hB2⟩)
    rw [HE.out]
  have HE := Lib.hid (show bothN ls [x] = 0 by rw [both_one, hn, if_pos rfl, if_pos hx])
  have HX := Lib.hid hx
  have HS := Lib.hid (Li.bound hx).1
  obtain ⟨M, hM⟩ : ∃ M, mostL x.a x.b ls = M := ⟨_, rfl⟩
  have HM := Lib.hid hM
  clear hn hok hx hM
  go_enter Try.func25, Try.ntmps25
  go_wp2_with fail
  refine (rcheckLd_any v ls _ (ldLater HV.out (by go_grown))).mono ?_
  rintro e w1 ⟨rfl, hb1⟩
  rw [HN.out]
  have hB1 : Below w.heap.size w w1 := (after (w := w) (by go_grown) hb1).1
  have K1 := Lib.hid (show Three w1 w.heap.size x.a x.b x.c from Three.later ⟨by go_cell, by go_cell, by go_cell⟩ hb1)
  clear hb1
  obtain ⟨x0, x1, x2⟩ := K1.out
  go_wp2_with fail
  refine (rLimit_any x _).mono ?_
  rintro e w2 ⟨rfl, hb2⟩
  rw [HX.out]
  have hB2 : Below w.heap.size w w2 := hB1.trans (hb2.mono hB1.size)
  have K2 := Lib.hid (K1.out.later hb2)
  clear hb2 hB1 x0 x1 x2 K1
  obtain ⟨x0, x1, x2⟩ := K2.out
  go_wp2_with fail
  refine (rworst_any v ls x _ (ldLater HV.out hB2) (by omega) HS.out HL.out).mono ?_
  rintro e w3 ⟨u, rfl, hu, hb3⟩
  have hB3 : Below w.heap.size w w3 := hB2.trans (hb3.mono hB2.size)
  have K3 := Lib.hid (K2.out.later hb3)
  have HU := Lib.hid hu
  clear hb3 hB2 x0 x1 x2 K2 hu
  obtain ⟨x0, x1, x2⟩ := K3.out
  go_wp2_with fail
  refine (rvalue_any _ _ x _ HU.out (by simp; omega) HS.out (worsts_bound HL.out)).mono ?_
  rintro e w4 ⟨rfl, hb4⟩
  rw [sum_worst, HM.out]
  have hB4 : Below w.heap.size w w4 := hB3.trans (hb4.mono hB3.size)
  have HU4 := Lib.hid (puLater HU.out hb4)
  clear hb4 hB3 x0 x1 x2
  go_wp2_with fail
  refine bodyPost_ret (v := .tuple #[.int .i64 M, u, .int .i64 0]) (by simp [results, Try.results25, go_sem, *]) rfl (.inl ⟨HE.out, u, ?_, HU4.out, hB4⟩)
  rw [HM.out]
end Go.Proofs.Ytmadkefpjoheeaa
