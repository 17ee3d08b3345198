/- Package trim: slices.Contains over ints; without. -/
import Derived.Test.YtldnpnplgfkebaaTHolds
import Derived.Test.YtldnpnplgfkebaaTInts
namespace Go.Proofs.Ytldnpnplgfkebaa
open Go.RowKit

theorem contains_any (v : Value) (zs : List Int) (x : Int) (w : World) (hv : SlI w v zs) :
    Calls Try.prog 120 #[v, .int .i64 x] w fun e w' => e = .returned (.bool (zs.contains x)) ∧ w' = w := by
  rcases hv with ⟨rfl, rfl⟩ | ⟨b, off, cap, rfl, h2, h3, h4, h5⟩
  · exact (Try.slices_Contains_int_empty none 0 x w).mono fun e w' ⟨h1, h2⟩ => ⟨h1, h2⟩
  · refine (Try.slices_Contains_int b off zs.length cap zs x w (Nat.le_refl _) (by omega) (fun j hj => ?_)).mono fun e w' ⟨h1, h2⟩ => ⟨by rw [h1, List.take_length], h2⟩
    have := h5 j zs[j] (List.getElem?_eq_getElem hj)
    unfold IntAt at this
    rw [Nat.mul_one] at this
    rw [this, List.getD_eq_getElem?_getD, List.getElem?_eq_getElem hj]
    rfl
/-- The puts from number i on that are not among those dropped. -/
def keptP (zs : List Int) : Nat → List Pu → List Pu
  | _, [] => []
  | i, p :: ps => if zs.contains (i : Int) then keptP zs (i + 1) ps else p :: keptP zs (i + 1) ps
theorem keptP_len (zs : List Int) : ∀ (ps : List Pu) (i : Nat), (keptP zs i ps).length ≤ ps.length
  | [], _ => by simp [keptP]
  | p :: ps, i => by
    have := keptP_len zs ps (i + 1)
    unfold keptP
    split
    · simp; omega
    · simp; omega
theorem keptP_mem (zs : List Int) : ∀ (ps : List Pu) (i : Nat) (p : Pu), p ∈ keptP zs i ps → p ∈ ps
  | [], _, p, h => by simp [keptP] at h
  | q :: ps, i, p, h => by
    unfold keptP at h
    split at h
    · exact List.mem_cons_of_mem _ (keptP_mem zs ps (i + 1) p h)
    · rcases List.mem_cons.1 h with rfl | h
      · exact List.mem_cons_self ..
      · exact List.mem_cons_of_mem _ (keptP_mem zs ps (i + 1) p h)
/-- The loop's head: what has been kept, and what is left. -/
def WiHead (zs : List Int) (ps : List Pu) (w wr : World) (v5 v10 : Value) : Prop := ∃ (k : Nat) (ks : List Pu), k ≤ ps.length ∧ v10 = .int .i64 k ∧ ks ++ keptP zs k (ps.drop k) = keptP zs 0 ps ∧ ks.length ≤ k ∧ wr.ownsRow w.heap.size 89 2 v5 ks.length (spP ks) ∧ Below w.heap.size w wr
set_option maxRecDepth 100000 in
set_option maxHeartbeats 8000000 in
theorem without_any (v u : Value) (ps : List Pu) (zs : List Int) (w : World) (hv : SlPu w v ps) (hu : SlI w u zs) (h50 : ps.length ≤ 1000) :
    Calls Try.prog 85 #[v, u] w fun e w' => ∃ r, e = .returned r ∧ SlPu w' r (keptP zs 0 ps) ∧ Below w.heap.size w w' := by
  obtain ⟨ad, cap, rfl, hlen, hcap⟩ := hv.form
  obtain ⟨i0, hi, hz0, hz1, hz2⟩ := info_parts (P := Try.prog) (e := 89) (z := .agg #[.int .i64 0, .int .i64 0]) (size := 2) (bytes := 16) (by kernel_rfl)
  have HI := Lib.hid hi
  have HZ0 := Lib.hid hz0
  have HZ1 := Lib.hid hz1
  have HZ2 := Lib.hid hz2
  have HV := Lib.hid hv
  have HU := Lib.hid hu
  clear hv hu hi hz0 hz1 hz2
  go_enter Try.func85, Try.ntmps85
  go_wp2_with fail
  go_loopw [5, 10] (fun v5 v10 wr => WiHead zs ps w wr v5 v10) (fun _ v10 _ => ps.length - (intOf v10).toNat)
  case atStart => exact ⟨0, [], by omega, rfl, rfl, by simp, own_no _ _ _ _, Below.refl _ _⟩
  case round =>
    obtain ⟨k, ks, hk, rfl, hzs, hkl, how, hbr⟩ := hrel
    have HO := Lib.hid how
    have HZs := Lib.hid hzs
    clear how hzs
    by_cases hlt : k < ps.length
    rotate_left 1
    · have HF := Lib.hid (show ks = keptP zs 0 ps by rw [← HZs.out, drop_none hlt, keptP, List.append_nil])
      go_wp2_with fail
      go_returns
      exact ⟨_, rfl, by rw [← HF.out]; exact SlPu.of HO.out (by omega), hbr⟩
    obtain ⟨bk, off, c, rfl, hb, hc, hat⟩ := HV.out.at hlt
    obtain ⟨c0, c1⟩ := PuAt.later hat (show Below w.heap.size w wr from hbr)
    have hlt' : (k : Int) < (ps.length : Int) := by omega
    have hk0 : (0 : Int) ≤ (k : Int) := by omega
    have HC := Lib.hid hc
    have hsz := hbr.size
    clear hc hat
    obtain ⟨t, ht⟩ : ∃ t, zs.contains (k : Int) = t := ⟨_, rfl⟩
    have HT := Lib.hid ht
    clear ht
    go_wp2_with fail
    refine (contains_any u zs (k : Int) _ (inLater HU.out (by go_grown))).mono ?_
    rintro e w1 ⟨rfl, hw1⟩
    rw [HT.out]
    have hb1 : Below wr.heap.size wr w1 := by rw [hw1]; go_grown
    have d0 : w1.cell? ⟨wr.heap.size, 0, none⟩ = some (.int .i64 c.p) := by rw [hw1]; go_cell
    have d1 : w1.cell? ⟨wr.heap.size, 1, none⟩ = some (.int .i64 c.w) := by rw [hw1]; go_cell
    have hB1 : Below w.heap.size w w1 := hbr.trans (hb1.mono hbr.size)
    have HO1 := Lib.hid (own_below HO.out hb1)
    clear hw1 hb1 HO
    cases t
    · have hz9 : ks ++ [c] ++ keptP zs (k + 1) (ps.drop (k + 1)) = keptP zs 0 ps := by
        rw [← HZs.out, drop_some HC.out, keptP, HT.out]
        simp
      have HZ9 := Lib.hid hz9
      have hown2 := HO1.out
      have hs1 := hB1.size
      clear hz9 HZs HO1
      go_wp2_with (at_builtin; refine wpList_append_own _ rfl _ _ 42 rfl w.heap.size 89 i0 (.agg #[.int .i64 0, .int .i64 0]) 2 16 Try.underlying42 HI.out HZ0.out HZ1.out HZ2.out rfl (by decide) _ _ _ rfl (hown2.alloc _) ⟨w1.heap.size, 0, none⟩ 1 1 [.int .i64 c.p, .int .i64 c.w] rfl rfl ?c1 ?c2 ?c3 ?c4 ?c5 ?_)
      case c1 => exact two_new _ _ _ _
      case c2 =>
        intro u hu
        simp at hu
        rcases hu with rfl | rfl <;> rfl
      case c3 => unfold maxLen; omega
      case c4 => omega
      case c5 => simp; omega
      intro v' w2 hown' hgrow hnil
      obtain ⟨hb2, hz2⟩ := grown_below hown2 (Below.refl w.heap.size w1) hs1 hgrow
      have hBf : Below w.heap.size w w2 := hB1.trans hb2
      have HOf : Hid (w2.ownsRow w.heap.size 89 2 v' (ks ++ [c]).length (spP (ks ++ [c]))) := Lib.hid (by rw [spP_app, List.length_append]; exact hown')
      clear hown' hgrow hnil hown2 hb2 hB1
      go_wp2_with fail
      go_roundw
      case rel => exact ⟨k + 1, ks ++ [c], by omega, by go_num, HZ9.out, by rw [List.length_append]; simp; omega, HOf.out, hBf⟩
      case measure => simp [intOf]; omega
    · have HZ9 := Lib.hid (show ks ++ keptP zs (k + 1) (ps.drop (k + 1)) = keptP zs 0 ps by
        rw [← HZs.out, drop_some HC.out, keptP, HT.out]
        simp)
      clear HZs
      go_wp2_with fail
      go_roundw
      case rel => exact ⟨k + 1, ks, by omega, by go_num, HZ9.out, by omega, HO1.out, hB1⟩
      case measure => simp [intOf]; omega
end Go.Proofs.Ytldnpnplgfkebaa
