/- The reference's May and Must. -/
import Derived.Test.YtflgdckeinappaaRWhere
namespace Go.Proofs.Ytflgdckeinappaa
open Go.RowKit

theorem wh_last {S : Seg} {ks : List (Int × Int × Int)} (ht : tableB ks = true) (hS : Inner ks S) : ∀ (k : Nat), k + 1 ≤ ks.length → ∀ x y, (x, y) ∈ wh S ks k → y ≤ atOf ks k
  | 0, _, x, y, h => by simp [wh] at h
  | k + 1, hk, x, y, h => by
    have hlt := (seg_of ht hk).2.2
    rcases colS_mem h with h | ⟨_, h2⟩
    · have := wh_last ht hS k (by omega) x y h
      omega
    · have hp := knot_get (show k < ks.length by omega)
      have hq := knot_get (show k + 1 < ks.length by omega)
      rw [getD_is hp, getD_is hq] at h2
      obtain ⟨s1, s2⟩ := hS k _ _ _ _ _ _ hp hq
      omega
theorem wh_end {S : Seg} {ks : List (Int × Int × Int)} (ht : tableB ks = true) (hS : Inner ks S) {k : Nat} (hk : k + 1 ≤ ks.length) : 0 < (wh S ks k).length → ((wh S ks k).getD ((wh S ks k).length - 1) (0, 0)).2 ≤ atOf ks k := by
  intro h
  obtain ⟨x, y, hx⟩ : ∃ x y, (wh S ks k)[(wh S ks k).length - 1]? = some (x, y) := ⟨_, _, List.getElem?_eq_getElem (by omega)⟩
  rw [getDs_is hx]
  exact wh_last ht hS k hk x y (List.mem_of_getElem? hx)
theorem may_seg {ks : List (Int × Int × Int)} (ht : tableB ks = true) (lo hi : Int) {k : Nat} (hk : k + 1 < ks.length) :
    joinS (wh (mayS lo hi) ks k) (atOf ks k + (upl (atOf ks (k + 1) - atOf ks k) (loOf ks k) (loOf ks (k + 1)) (hiOf ks k) (hiOf ks (k + 1)) (nearI hi) (nearI lo)).1) (atOf ks k + (upl (atOf ks (k + 1) - atOf ks k) (loOf ks k) (loOf ks (k + 1)) (hiOf ks k) (hiOf ks (k + 1)) (nearI hi) (nearI lo)).2) = wh (mayS lo hi) ks (k + 1) :=
  seg_same (atOf ks k) (atOf ks (k + 1)) (loOf ks k) (loOf ks (k + 1)) (hiOf ks k) (hiOf ks (k + 1)) hi lo (seg_of ht hk).2.2 (wh_end ht (mayS_in ht lo hi) (by omega)) _ _ rfl rfl
theorem must_seg {ks : List (Int × Int × Int)} (ht : tableB ks = true) (lo hi : Int) {k : Nat} (hk : k + 1 < ks.length) :
    joinS (wh (mustS lo hi) ks k) (atOf ks k + (upl (atOf ks (k + 1) - atOf ks k) (hiOf ks k) (hiOf ks (k + 1)) (loOf ks k) (loOf ks (k + 1)) (nearI hi) (nearI lo)).1) (atOf ks k + (upl (atOf ks (k + 1) - atOf ks k) (hiOf ks k) (hiOf ks (k + 1)) (loOf ks k) (loOf ks (k + 1)) (nearI hi) (nearI lo)).2) = wh (mustS lo hi) ks (k + 1) := by
  have h := seg_same (l := wh (mustS lo hi) ks k) (atOf ks k) (atOf ks (k + 1)) (hiOf ks k) (hiOf ks (k + 1)) (loOf ks k) (loOf ks (k + 1)) hi lo (seg_of ht hk).2.2 (wh_end ht (mustS_in ht lo hi) (by omega)) _ _ rfl rfl
  rw [Int.max_comm, Int.min_comm] at h
  exact h
theorem wh_ok {S : Seg} {ks : List (Int × Int × Int)} (ht : tableB ks = true) (hS : Inner ks S) {k : Nat} (hk : k + 1 ≤ ks.length) : (wh S ks k).length ≤ 1000 ∧ ∀ x y, (x, y) ∈ wh S ks k → -1099511627776 ≤ y ∧ y ≤ 1099511627776 := by
  have hlen : ks.length ≤ 32 := by unfold tableB at ht; simp at ht; omega
  exact ⟨by have := wh_len S ks k; omega, wh_in ht hS k (by omega)⟩
theorem bothN_zero {ks : List (Int × Int × Int)} {lo hi : Int} (h1 : tableB ks = true) (h2 : validB lo hi = true) : bothN ks lo hi = 0 := by unfold bothN; rw [if_pos h1, checkN_yes h2]
theorem mayL_bad {S : Seg} {ks : List (Int × Int × Int)} {lo hi n : Int} (h : bothN ks lo hi = n) (hn : n ≠ 0) (w w' : World) (hb : Below w.heap.size w w') : MayR w w' (.returned (.tuple #[.slice none 0 0, .int .i64 n])) (mayL S ks lo hi) (bothN ks lo hi) := by
  refine ⟨.slice none 0 0, by rw [h], ?_, hb⟩
  unfold mayL
  rw [if_neg (by rw [h]; exact hn)]
  exact World.ownsRow_nil _ _ _ _

set_option linter.unusedSimpArgs false in
set_option maxHeartbeats 4000000 in
set_option maxRecDepth 100000 in
theorem rmay_any (v : Value) (ks : List (Int × Int × Int)) (lo hi : Int) (w : World) (hs : SlK w v ks) :
    Calls Try.prog 36 #[v, sp lo hi] w fun e w' => MayR w w' e (mayL (mayS lo hi) ks lo hi) (bothN ks lo hi) := by
  have HS := Lib.hid hs
  clear hs
  go_enter Try.func36, Try.ntmps36
  go_wp2_with fail
  refine (rtable_any _ ks _ (HS.out.later ((Below.refl _ _).alloc (by simp) _))).mono ?_
  rintro e w1 ⟨rfl, hb1⟩
  have hB1 : Below w.heap.size w w1 := (after (w := w) (by go_grown) hb1).1
  have x0 : w1.cell? ⟨w.heap.size, 0, none⟩ = some (.int .i64 lo) := by rw [(bcell hb1).1 _ _ (by simp)]; go_cell
  have x1 : w1.cell? ⟨w.heap.size, 1, none⟩ = some (.int .i64 hi) := by rw [(bcell hb1).1 _ _ (by simp)]; go_cell
  clear hb1
  by_cases ht : tableB ks = true
  · rw [ht]
    have HT := Lib.hid ht
    clear ht
    go_wp2_with fail
    refine (rvalid_any lo hi _).mono ?_
    rintro e w2 ⟨rfl, hb2⟩
    have hB2 : Below w.heap.size w w2 := (after (w := w) hB1 hb2).1
    replace x0 := cell_later hb2 x0
    replace x1 := cell_later hb2 x1
    clear hb2 hB1
    by_cases hv : validB lo hi = true
    · rw [hv]
      have hN := bothN_zero HT.out hv
      have HL : Hid (mayL (mayS lo hi) ks lo hi = wh (mayS lo hi) ks (ks.length - 1)) := Lib.hid (by unfold mayL; rw [if_pos hN])
      have HN := Lib.hid hN
      clear hv hN
      go_wp2_with fail
      have hA : Below w.heap.size w w2.drew := below_drewN hB2 1
      have hX0 : w2.drew.cell? ⟨w.heap.size, 0, none⟩ = some (.int .i64 lo) := x0
      have hX1 : w2.drew.cell? ⟨w.heap.size, 1, none⟩ = some (.int .i64 hi) := x1
      clear x0 x1 hB2
      refine AnyV.start (Two 7 (fun w' => w' = w2.drew) 7 (fun _ => True)) 10 #[false, false, false, false, false, false, false, false, false, false] (by kernel_rfl) (by kernel_rfl) (by kernel_rfl) (fun _ => ⟨fun _ => rfl, fun _ => trivial⟩) (fun hHeld => ?_)
      generalize World.drew w2 = wd at *
      refine AnyV.take 7 12 (i := 0) (oi := _) (v := ?_) rfl (by kernel_rfl) (by kernel_rfl) (by kernel_rfl) (by kernel_rfl) (by kernel_rfl) (fun _ _ _ h => h) (Two.other (by decide)) (Or.inl ⟨by rfl, ?_⟩) (by assumption) (fun hHeld => ?_)
      rotate_left 1
      · intro wz hSw; have hSw' := hSw.1 rfl; subst hSw'; go_simp; try with_reducible rfl
      try simp only [Act.put, List.setIfInBounds_toArray, List.set_cons_zero, List.set_cons_succ] at hHeld ⊢
      refine AnyV.take 7 12 (i := 1) (oi := _) (v := ?_) rfl (by kernel_rfl) (by kernel_rfl) (by kernel_rfl) (by kernel_rfl) (by kernel_rfl) (fun _ _ _ h => h) (Two.other (by decide)) (Or.inl ⟨by rfl, ?_⟩) (by assumption) (fun hHeld => ?_)
      rotate_left 1
      · intro wz hSw; have hSw' := hSw.1 rfl; subst hSw'; go_simp; try with_reducible rfl
      try simp only [Act.put, List.setIfInBounds_toArray, List.set_cons_zero, List.set_cons_succ] at hHeld ⊢
      refine AnyV.take 7 12 (i := 2) (oi := _) (v := ?_) rfl (by kernel_rfl) (by kernel_rfl) (by kernel_rfl) (by kernel_rfl) (by kernel_rfl) (fun _ _ _ h => h) (Two.other (by decide)) (Or.inl ⟨by rfl, ?_⟩) (by assumption) (fun hHeld => ?_)
      rotate_left 1
      · intro wz hSw; have hSw' := hSw.1 rfl; subst hSw'; go_simp; try with_reducible rfl
      try simp only [Act.put, List.setIfInBounds_toArray, List.set_cons_zero, List.set_cons_succ] at hHeld ⊢
      refine AnyV.take 7 12 (i := 4) (oi := _) (v := ?_) rfl (by kernel_rfl) (by kernel_rfl) (by kernel_rfl) (by kernel_rfl) (by kernel_rfl) (fun _ _ _ h => h) (Two.other (by decide)) (Or.inl ⟨by rfl, ?_⟩) (by assumption) (fun hHeld => ?_)
      rotate_left 1
      · intro wz hSw; have hSw' := hSw.1 rfl; subst hSw'; go_simp; try with_reducible rfl
      try simp only [Act.put, List.setIfInBounds_toArray, List.set_cons_zero, List.set_cons_succ] at hHeld ⊢
      refine AnyV.take 7 12 (i := 5) (oi := _) (v := ?_) rfl (by kernel_rfl) (by kernel_rfl) (by kernel_rfl) (by kernel_rfl) (by kernel_rfl) (fun _ _ _ h => h) (Two.other (by decide)) (Or.inl ⟨by rfl, ?_⟩) (by assumption) (fun hHeld => ?_)
      rotate_left 1
      · intro wz hSw; have hSw' := hSw.1 rfl; subst hSw'; go_simp; try with_reducible rfl
      try simp only [Act.put, List.setIfInBounds_toArray, List.set_cons_zero, List.set_cons_succ] at hHeld ⊢
      clear hX0 hX1
      refine AnyV.one (i := 3) (o := _) rfl (by kernel_rfl) (fun K hK => ?_)
      go_simp
      refine (rnear_any hi _).mono ?_
      rintro e w3 ⟨rfl, rfl⟩
      go_wp2_with fail
      refine hK.out _ _ (Two.till (fun _ => rfl) (fun _ => trivial)) ?_
      clear hK K
      try simp only [Act.put, List.setIfInBounds_toArray, List.set_cons_zero, List.set_cons_succ]
      refine AnyV.one (i := 6) (o := _) rfl (by kernel_rfl) (fun K hK => ?_)
      go_simp
      refine (rnear_any lo _).mono ?_
      rintro e w3 ⟨rfl, rfl⟩
      go_wp2_with fail
      refine hK.out _ _ (Two.till (fun _ => rfl) (fun _ => trivial)) ?_
      clear hK K
      try simp only [Act.put, List.setIfInBounds_toArray, List.set_cons_zero, List.set_cons_succ]
      have n1 := nearI_bd hi
      have n2 := nearI_bd lo
      refine AnyV.one (i := 7) (o := _) rfl (by kernel_rfl) (fun K hK => ?_)
      go_simp
      refine (rwhere_may v ks (nearI hi) (nearI lo) (wh (mayS lo hi) ks) _ (HS.out.later hA) HT.out n1.1 n1.2 n2.1 n2.2 rfl (fun k hk => may_seg HT.out lo hi hk) (fun k hk => wh_ok HT.out (mayS_in HT.out lo hi) hk)).mono ?_
      rintro e w4 hr
      obtain ⟨v', rfl, hown, hb4⟩ := hr
      have HO := Lib.hid (Go.Joins.ownsRow_le hown hA.size)
      have HB := Lib.hid (hA.trans (hb4.mono hA.size))
      clear hown hb4 hA hHeld n1 n2
      go_wp2_with fail
      refine hK.out _ _ (Two.till (fun h => absurd h (by decide)) (fun _ => trivial)) ?_
      clear hK K
      try simp only [Act.put, List.setIfInBounds_toArray, List.set_cons_zero, List.set_cons_succ]
      refine AnyV.one (i := 8) (o := _) rfl (by kernel_rfl) (fun K hK => ?_)
      go_simp
      refine hK.out _ _ (Two.till (fun h => absurd h (by decide)) (fun _ => trivial)) ?_
      clear hK K
      try simp only [Act.put, List.setIfInBounds_toArray, List.set_cons_zero, List.set_cons_succ]
      refine AnyV.one (i := 9) (o := _) rfl (by kernel_rfl) (fun K hK => ?_)
      go_simp
      refine hK.out _ _ (Two.till (fun h => absurd h (by decide)) (fun _ => trivial)) ?_
      clear hK K
      try simp only [Act.put, List.setIfInBounds_toArray, List.set_cons_zero, List.set_cons_succ]
      refine AnyV.done (by kernel_rfl) ?_
      try simp only [Act.put, List.setIfInBounds_toArray, List.set_cons_zero, List.set_cons_succ]
      go_wp2_with fail
      refine bodyPost_ret (v := .tuple #[v', .int .i64 0]) (by simp [results, Try.results36, go_sem, *]) rfl ⟨v', by rw [HN.out], ?_, HB.out⟩
      rw [HL.out]; exact HO.out
    · have hv' : validB lo hi = false := by simpa using hv
      have HE := Lib.hid (fun w' hb => mayL_bad (S := mayS lo hi) (ks := ks) (lo := lo) (hi := hi) (n := 10) (by unfold bothN; rw [if_pos HT.out, checkN_no hv']) (by omega) w w' hb)
      rw [hv']
      clear hv hv'
      go_wp2_with fail
      exact bodyPost_ret (v := .tuple #[.slice none 0 0, .int .i64 10]) (by simp [results, Try.results36, go_sem, *]) rfl (HE.out _ (by go_grown))
  · have ht' : tableB ks = false := by simpa using ht
    have HE := Lib.hid (fun w' hb => mayL_bad (S := mayS lo hi) (ks := ks) (lo := lo) (hi := hi) (n := 13) (by unfold bothN; rw [if_neg (by simp [ht'])]) (by omega) w w' hb)
    rw [ht']
    clear ht ht'
    go_wp2_with fail
    exact bodyPost_ret (v := .tuple #[.slice none 0 0, .int .i64 13]) (by simp [results, Try.results36, go_sem, *]) rfl (HE.out _ (by go_grown))
set_option linter.unusedSimpArgs false in
set_option maxHeartbeats 4000000 in
set_option maxRecDepth 100000 in
theorem rmust_any (v : Value) (ks : List (Int × Int × Int)) (lo hi : Int) (w : World) (hs : SlK w v ks) :
    Calls Try.prog 38 #[v, sp lo hi] w fun e w' => MayR w w' e (mayL (mustS lo hi) ks lo hi) (bothN ks lo hi) := by
  have HS := Lib.hid hs
  clear hs
  go_enter Try.func38, Try.ntmps38
  go_wp2_with fail
  refine (rtable_any _ ks _ (HS.out.later ((Below.refl _ _).alloc (by simp) _))).mono ?_
  rintro e w1 ⟨rfl, hb1⟩
  have hB1 : Below w.heap.size w w1 := (after (w := w) (by go_grown) hb1).1
  have x0 : w1.cell? ⟨w.heap.size, 0, none⟩ = some (.int .i64 lo) := by rw [(bcell hb1).1 _ _ (by simp)]; go_cell
  have x1 : w1.cell? ⟨w.heap.size, 1, none⟩ = some (.int .i64 hi) := by rw [(bcell hb1).1 _ _ (by simp)]; go_cell
  clear hb1
  by_cases ht : tableB ks = true
  · rw [ht]
    have HT := Lib.hid ht
    clear ht
    go_wp2_with fail
    refine (rvalid_any lo hi _).mono ?_
    rintro e w2 ⟨rfl, hb2⟩
    have hB2 : Below w.heap.size w w2 := (after (w := w) hB1 hb2).1
    replace x0 := cell_later hb2 x0
    replace x1 := cell_later hb2 x1
    clear hb2 hB1
    by_cases hv : validB lo hi = true
    · rw [hv]
      have hN := bothN_zero HT.out hv
      have HL : Hid (mayL (mustS lo hi) ks lo hi = wh (mustS lo hi) ks (ks.length - 1)) := Lib.hid (by unfold mayL; rw [if_pos hN])
      have HN := Lib.hid hN
      clear hv hN
      go_wp2_with fail
      have hA : Below w.heap.size w w2.drew := below_drewN hB2 1
      have hX0 : w2.drew.cell? ⟨w.heap.size, 0, none⟩ = some (.int .i64 lo) := x0
      have hX1 : w2.drew.cell? ⟨w.heap.size, 1, none⟩ = some (.int .i64 hi) := x1
      clear x0 x1 hB2
      refine AnyV.start (Two 7 (fun w' => w' = w2.drew) 7 (fun _ => True)) 10 #[false, false, false, false, false, false, false, false, false, false] (by kernel_rfl) (by kernel_rfl) (by kernel_rfl) (fun _ => ⟨fun _ => rfl, fun _ => trivial⟩) (fun hHeld => ?_)
      generalize World.drew w2 = wd at *
      refine AnyV.take 7 12 (i := 0) (oi := _) (v := ?_) rfl (by kernel_rfl) (by kernel_rfl) (by kernel_rfl) (by kernel_rfl) (by kernel_rfl) (fun _ _ _ h => h) (Two.other (by decide)) (Or.inl ⟨by rfl, ?_⟩) (by assumption) (fun hHeld => ?_)
      rotate_left 1
      · intro wz hSw; have hSw' := hSw.1 rfl; subst hSw'; go_simp; try with_reducible rfl
      try simp only [Act.put, List.setIfInBounds_toArray, List.set_cons_zero, List.set_cons_succ] at hHeld ⊢
      refine AnyV.take 7 12 (i := 1) (oi := _) (v := ?_) rfl (by kernel_rfl) (by kernel_rfl) (by kernel_rfl) (by kernel_rfl) (by kernel_rfl) (fun _ _ _ h => h) (Two.other (by decide)) (Or.inl ⟨by rfl, ?_⟩) (by assumption) (fun hHeld => ?_)
      rotate_left 1
      · intro wz hSw; have hSw' := hSw.1 rfl; subst hSw'; go_simp; try with_reducible rfl
      try simp only [Act.put, List.setIfInBounds_toArray, List.set_cons_zero, List.set_cons_succ] at hHeld ⊢
      refine AnyV.take 7 12 (i := 2) (oi := _) (v := ?_) rfl (by kernel_rfl) (by kernel_rfl) (by kernel_rfl) (by kernel_rfl) (by kernel_rfl) (fun _ _ _ h => h) (Two.other (by decide)) (Or.inl ⟨by rfl, ?_⟩) (by assumption) (fun hHeld => ?_)
      rotate_left 1
      · intro wz hSw; have hSw' := hSw.1 rfl; subst hSw'; go_simp; try with_reducible rfl
      try simp only [Act.put, List.setIfInBounds_toArray, List.set_cons_zero, List.set_cons_succ] at hHeld ⊢
      refine AnyV.take 7 12 (i := 4) (oi := _) (v := ?_) rfl (by kernel_rfl) (by kernel_rfl) (by kernel_rfl) (by kernel_rfl) (by kernel_rfl) (fun _ _ _ h => h) (Two.other (by decide)) (Or.inl ⟨by rfl, ?_⟩) (by assumption) (fun hHeld => ?_)
      rotate_left 1
      · intro wz hSw; have hSw' := hSw.1 rfl; subst hSw'; go_simp; try with_reducible rfl
      try simp only [Act.put, List.setIfInBounds_toArray, List.set_cons_zero, List.set_cons_succ] at hHeld ⊢
      refine AnyV.take 7 12 (i := 5) (oi := _) (v := ?_) rfl (by kernel_rfl) (by kernel_rfl) (by kernel_rfl) (by kernel_rfl) (by kernel_rfl) (fun _ _ _ h => h) (Two.other (by decide)) (Or.inl ⟨by rfl, ?_⟩) (by assumption) (fun hHeld => ?_)
      rotate_left 1
      · intro wz hSw; have hSw' := hSw.1 rfl; subst hSw'; go_simp; try with_reducible rfl
      try simp only [Act.put, List.setIfInBounds_toArray, List.set_cons_zero, List.set_cons_succ] at hHeld ⊢
      clear hX0 hX1
      refine AnyV.one (i := 3) (o := _) rfl (by kernel_rfl) (fun K hK => ?_)
      go_simp
      refine (rnear_any hi _).mono ?_
      rintro e w3 ⟨rfl, rfl⟩
      go_wp2_with fail
      refine hK.out _ _ (Two.till (fun _ => rfl) (fun _ => trivial)) ?_
      clear hK K
      try simp only [Act.put, List.setIfInBounds_toArray, List.set_cons_zero, List.set_cons_succ]
      refine AnyV.one (i := 6) (o := _) rfl (by kernel_rfl) (fun K hK => ?_)
      go_simp
      refine (rnear_any lo _).mono ?_
      rintro e w3 ⟨rfl, rfl⟩
      go_wp2_with fail
      refine hK.out _ _ (Two.till (fun _ => rfl) (fun _ => trivial)) ?_
      clear hK K
      try simp only [Act.put, List.setIfInBounds_toArray, List.set_cons_zero, List.set_cons_succ]
      have n1 := nearI_bd hi
      have n2 := nearI_bd lo
      refine AnyV.one (i := 7) (o := _) rfl (by kernel_rfl) (fun K hK => ?_)
      go_simp
      refine (rwhere_must v ks (nearI hi) (nearI lo) (wh (mustS lo hi) ks) _ (HS.out.later hA) HT.out n1.1 n1.2 n2.1 n2.2 rfl (fun k hk => must_seg HT.out lo hi hk) (fun k hk => wh_ok HT.out (mustS_in HT.out lo hi) hk)).mono ?_
      rintro e w4 hr
      obtain ⟨v', rfl, hown, hb4⟩ := hr
      have HO := Lib.hid (Go.Joins.ownsRow_le hown hA.size)
      have HB := Lib.hid (hA.trans (hb4.mono hA.size))
      clear hown hb4 hA hHeld n1 n2
      go_wp2_with fail
      refine hK.out _ _ (Two.till (fun h => absurd h (by decide)) (fun _ => trivial)) ?_
      clear hK K
      try simp only [Act.put, List.setIfInBounds_toArray, List.set_cons_zero, List.set_cons_succ]
      refine AnyV.one (i := 8) (o := _) rfl (by kernel_rfl) (fun K hK => ?_)
      go_simp
      refine hK.out _ _ (Two.till (fun h => absurd h (by decide)) (fun _ => trivial)) ?_
      clear hK K
      try simp only [Act.put, List.setIfInBounds_toArray, List.set_cons_zero, List.set_cons_succ]
      refine AnyV.one (i := 9) (o := _) rfl (by kernel_rfl) (fun K hK => ?_)
      go_simp
      refine hK.out _ _ (Two.till (fun h => absurd h (by decide)) (fun _ => trivial)) ?_
      clear hK K
      try simp only [Act.put, List.setIfInBounds_toArray, List.set_cons_zero, List.set_cons_succ]
      refine AnyV.done (by kernel_rfl) ?_
      try simp only [Act.put, List.setIfInBounds_toArray, List.set_cons_zero, List.set_cons_succ]
      go_wp2_with fail
      refine bodyPost_ret (v := .tuple #[v', .int .i64 0]) (by simp [results, Try.results38, go_sem, *]) rfl ⟨v', by rw [HN.out], ?_, HB.out⟩
      rw [HL.out]; exact HO.out
    · have hv' : validB lo hi = false := by simpa using hv
      have HE := Lib.hid (fun w' hb => mayL_bad (S := mustS lo hi) (ks := ks) (lo := lo) (hi := hi) (n := 10) (by unfold bothN; rw [if_pos HT.out, checkN_no hv']) (by omega) w w' hb)
      rw [hv']
      clear hv hv'
      go_wp2_with fail
      exact bodyPost_ret (v := .tuple #[.slice none 0 0, .int .i64 10]) (by simp [results, Try.results38, go_sem, *]) rfl (HE.out _ (by go_grown))
  · have ht' : tableB ks = false := by simpa using ht
    have HE := Lib.hid (fun w' hb => mayL_bad (S := mustS lo hi) (ks := ks) (lo := lo) (hi := hi) (n := 13) (by unfold bothN; rw [if_neg (by simp [ht'])]) (by omega) w w' hb)
    rw [ht']
    clear ht ht'
    go_wp2_with fail
    exact bodyPost_ret (v := .tuple #[.slice none 0 0, .int .i64 13]) (by simp [results, Try.results38, go_sem, *]) rfl (HE.out _ (by go_grown))
end Go.Proofs.Ytflgdckeinappaa
