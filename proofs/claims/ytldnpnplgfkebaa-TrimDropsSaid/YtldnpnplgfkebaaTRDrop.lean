/- The reference of layer 4: Drop. -/
import Derived.Test.YtldnpnplgfkebaaTRApp
import Derived.Test.YtldnpnplgfkebaaTRBr
namespace Go.Proofs.Ytldnpnplgfkebaa
open Go.RowKit

def RdHead (ps : List Pu) (w wr : World) (v : Value) : Prop := ∃ k : Nat, k ≤ ps.length ∧ v = .int .i64 k ∧ ps.all Pu.ok = (ps.drop k).all Pu.ok ∧ Below w.heap.size w wr
theorem bagsN_both {ls : List Ld} {ps : List Pu} {ms : List Li} (h : bothN ls ms ≠ 0) : bagsN ls ps ms = bothN ls ms := by unfold bagsN; rw [if_neg h]
theorem bagsN_many {ls : List Ld} {ps : List Pu} {ms : List Li} (h : bothN ls ms = 0) (h2 : 10 < ps.length ∨ 40 < ls.length + ps.length) : bagsN ls ps ms = 4 := by
  unfold bagsN listN
  rw [if_pos h]
  split
  · rfl
  · rw [if_pos (by omega)]
theorem bagsN_load {ls : List Ld} {ps : List Pu} {ms : List Li} (h : bothN ls ms = 0) (h2 : ¬ (10 < ps.length ∨ 40 < ls.length + ps.length)) (h3 : ps.all Pu.ok = false) : bagsN ls ps ms = 40 := by
  unfold bagsN listN
  rw [if_pos h, if_neg (by omega), if_neg (by omega), if_neg (by rw [h3]; decide)]
theorem bagsN_good {ls : List Ld} {ps : List Pu} {ms : List Li} (h : bothN ls ms = 0) (h2 : ¬ (10 < ps.length ∨ 40 < ls.length + ps.length)) (h3 : ps.all Pu.ok = true) : bagsN ls ps ms = 0 := by
  unfold bagsN listN
  rw [if_pos h, if_neg (by omega), if_neg (by omega), if_pos h3]
theorem pow_cast (n : Nat) : ((2 ^ n : Nat) : Int) = (2 : Int) ^ n := by simp
def bestV : Option Nat → Int
  | none => -1
  | some b => b
def RmHead (ls : List Ld) (ps : List Pu) (ms : List Li) (w wr : World) (v10 v11 : Value) : Prop := ∃ k : Nat, k ≤ 2 ^ ps.length ∧ v11 = .int .i64 k ∧ v10 = .int .i64 (bestV (bestM (okS ls ps ms) k)) ∧ Below w.heap.size w wr
def RtHead (ls : List Ld) (ps : List Pu) (zs : List Int) (w wr : World) (v12 v13 : Value) : Prop := ∃ (i : Nat) (es : List Pu), i ≤ ps.length ∧ v13 = .int .i64 i ∧ es ++ keptP zs i (ps.drop i) = keptP zs 0 ps ∧ es.length ≤ i ∧
  wr.ownsRow w.heap.size 91 4 v12 (ls ++ es.map bagL).length (spR ((ls ++ es.map bagL).map Ld.row)) ∧ Below w.heap.size w wr
theorem ld_own {w : World} {B : Nat} {v : Value} {ls : List Ld} (h : w.ownsRow B 91 4 v ls.length (spR (ls.map Ld.row))) (hn : ls.length ≤ 1000) : SlLd w v ls := own_copy h (by omega)
theorem bag_bound {p : Pu} (h : p.ok = true) : LdB (bagL p) := by
  obtain ⟨h1, h2, h3, h4⟩ := Pu.bound h
  exact ⟨⟨h1, h2⟩, ⟨h1, h2⟩, ⟨h3, h4⟩, ⟨h3, h4⟩⟩
theorem drop_err {ls : List Ld} {ps : List Pu} {ms : List Li} {w w' : World} {e : Ending} {n : Int} (h : e = .returned (.tuple #[.slice none 0 0, .int .i64 n])) (hb : bagsN ls ps ms = n) (h0 : n ≠ 0) (hB : Below w.heap.size w w') : DropP ls ps ms w e w' :=
  .inl ⟨by rw [hb]; exact h0, by rw [hb]; exact h, hB⟩
set_option linter.unusedSimpArgs false in
set_option maxRecDepth 100000 in
set_option maxHeartbeats 8000000 in
theorem rdrop_any (v q u : Value) (ls : List Ld) (ps : List Pu) (ms : List Li) (w : World) (hv : SlLd w v ls) (hq : SlPu w q ps) (hu : SlLi w u ms) :
    Calls Try.prog 40 #[v, q, u] w (DropP ls ps ms w) := by
  obtain ⟨ad, cap, rfl, hlen, hcap⟩ := hq.form
  obtain ⟨al, capl, rfl, hlenl, hcapl⟩ := hv.form
  have HV := Lib.hid hv
  have HU := Lib.hid hu
  have HQ := Lib.hid hq
  obtain ⟨n, hn⟩ : ∃ n, bothN ls ms = n := ⟨_, rfl⟩
  have HN := Lib.hid hn
  clear hv hu hq hn
  by_cases h0 : n = 0
  rotate_left 1
  · have HB := Lib.hid (show bagsN ls ps ms = n by rw [bagsN_both (by rw [HN.out]; exact h0), HN.out])
    go_enter Try.func40, Try.ntmps40
    go_wp2_with fail
    refine (rasked_any _ u ls ms _ HV.out HU.out).mono ?_
    rintro e w1 ⟨rfl, hb1⟩
    rw [HN.out]
    go_wp2_with fail
    go_returns
    exact drop_err rfl HB.out h0 hb1
  subst h0
  by_cases h2 : 10 < ps.length ∨ 40 < ls.length + ps.length
  · have HB := Lib.hid (bagsN_many (ps := ps) HN.out h2)
    by_cases h10 : 10 < ps.length
    · have h10' : (10 : Int) < (ps.length : Int) := by omega
      clear h2
      go_enter Try.func40, Try.ntmps40
      go_wp2_with fail
      refine (rasked_any _ u ls ms _ HV.out HU.out).mono ?_
      rintro e w1 ⟨rfl, hb1⟩
      rw [HN.out]
      go_wp2_with fail
      go_returns
      exact drop_err rfl HB.out (by decide) hb1
    · have h10' : ¬ (10 : Int) < (ps.length : Int) := by omega
      have h40 : (40 : Int) < (ls.length : Int) + (ps.length : Int) := by omega
      clear h2
      go_enter Try.func40, Try.ntmps40
      go_wp2_with fail
      refine (rasked_any _ u ls ms _ HV.out HU.out).mono ?_
      rintro e w1 ⟨rfl, hb1⟩
      rw [HN.out]
      go_wp2_with fail
      go_returns
      exact drop_err rfl HB.out (by decide) hb1
  have h10' : ¬ (10 : Int) < (ps.length : Int) := by omega
  have h40 : ¬ (40 : Int) < (ls.length : Int) + (ps.length : Int) := by omega
  have H2 := Lib.hid h2
  obtain ⟨_, hok, _, hmok⟩ := bothN_ok HN.out
  have HL := Lib.hid (loads_bound hok)
  have HMo := Lib.hid hmok
  clear hok hmok
  have h10 : ps.length ≤ 10 := by omega
  have hl40 : ls.length ≤ 40 := by omega
  clear h2
  go_enter Try.func40, Try.ntmps40
  go_wp2_with fail
  refine (rasked_any _ u ls ms _ HV.out HU.out).mono ?_
  rintro e w1 ⟨rfl, hb1⟩
  rw [HN.out]
  go_wp2_with fail
  clear h10' h40
  go_loopw [9] (fun v9 wr => RdHead ps w wr v9) (fun v9 _ => ps.length - (intOf v9).toNat)
  case atStart => exact ⟨0, by omega, rfl, rfl, hb1⟩
  case round =>
    obtain ⟨k, hk, rfl, he, hbr⟩ := hrel
    have HE := Lib.hid he
    clear he hb1
    have hk0 : (0 : Int) ≤ (k : Int) := by omega
    by_cases hlt : k < ps.length
    · obtain ⟨b, off, c, rfl, hb, hc, hat⟩ := HQ.out.at hlt
      obtain ⟨c0, c1⟩ := PuAt.later hat hbr
      have hlt' : (k : Int) < (ps.length : Int) := by omega
      have HC := Lib.hid hc
      have HO := Lib.hid (show c.ok = (inB c.p (-20000) 20000 && inB c.w 1 1000000) from rfl)
      clear hc hat
      obtain ⟨t, ht⟩ : ∃ t, inB c.p (-20000) 20000 = t := ⟨_, rfl⟩
      obtain ⟨s, hs⟩ : ∃ t, inB c.w 1 1000000 = t := ⟨_, rfl⟩
      have HT := Lib.hid ht
      have HS := Lib.hid hs
      clear ht hs
      cases t
      · have HB := Lib.hid (bagsN_load HN.out H2.out (show ps.all Pu.ok = false by rw [HE.out, drop_some HC.out, List.all_cons, HO.out, HT.out]; rfl))
        go_wp2_with fail
        refine (rplace_any c.p _).mono ?_
        rintro e w2 ⟨rfl, rfl⟩
        rw [HT.out]
        go_wp2_with fail
        go_returns
        exact drop_err rfl HB.out (by decide) hbr
      cases s
      · have HB := Lib.hid (bagsN_load HN.out H2.out (show ps.all Pu.ok = false by rw [HE.out, drop_some HC.out, List.all_cons, HO.out, HT.out, HS.out]; rfl))
        go_wp2_with fail
        refine (rplace_any c.p _).mono ?_
        rintro e w2 ⟨rfl, rfl⟩
        rw [HT.out]
        go_wp2_with fail
        refine (rwithin_any c.w _ _ _).mono ?_
        rintro e w2 ⟨rfl, rfl⟩
        rw [HS.out]
        go_wp2_with fail
        go_returns
        exact drop_err rfl HB.out (by decide) hbr
      · have HF := Lib.hid (show ps.all Pu.ok = (ps.drop (k + 1)).all Pu.ok by rw [HE.out, drop_some HC.out, List.all_cons, HO.out, HT.out, HS.out]; rfl)
        go_wp2_with fail
        refine (rplace_any c.p _).mono ?_
        rintro e w2 ⟨rfl, rfl⟩
        rw [HT.out]
        go_wp2_with fail
        refine (rwithin_any c.w _ _ _).mono ?_
        rintro e w2 ⟨rfl, rfl⟩
        rw [HS.out]
        go_wp2_with fail
        go_roundw
        case rel => exact ⟨k + 1, by omega, by go_num, HF.out, hbr⟩
        case measure => simp [intOf]; omega
    have hlt' : ¬ (k : Int) < (ps.length : Int) := by omega
    have hpok : ps.all Pu.ok = true := by rw [HE.out, drop_none hlt]; rfl
    have HB := Lib.hid (bagsN_good HN.out H2.out hpok)
    have hpok' := hpok
    have HP := Lib.hid (show ∀ p, p ∈ ps → p.ok = true from List.all_eq_true.1 hpok')
    have hT1 : 2 ^ ps.length ≤ 1024 := Nat.le_trans (Nat.pow_le_pow_right (by omega) h10) (by decide)
    have hT2 : (2 : Int) ^ ps.length ≤ 1024 := by rw [← pow_cast]; omega
    have hT0 : (0 : Int) ≤ (2 : Int) ^ ps.length := by rw [← pow_cast]; exact Int.natCast_nonneg _
    go_wp2_with fail
    clear HE hlt hlt' hpok hk0 hpok'
    go_loopw [10, 11] (fun v10 v11 wr => RmHead ls ps ms w wr v10 v11) (fun _ v11 _ => 2 ^ ps.length - (intOf v11).toNat)
    case atStart => exact ⟨0, Nat.zero_le _, rfl, rfl, hbr⟩
    case round =>
      clear hbr
      obtain ⟨k, hk, rfl, rfl, hbr⟩ := hrel
      have hk0 : (0 : Int) ≤ (k : Int) := by omega
      by_cases hlt : k < 2 ^ ps.length
      rotate_left 1
      · have hlt' : ¬ (k : Int) < (2 : Int) ^ ps.length := by rw [← pow_cast]; omega
        obtain rfl : k = 2 ^ ps.length := by omega
        have hbf := best_find (okS ls ps ms) h10
        obtain ⟨o, ho⟩ : ∃ o, bestM (okS ls ps ms) (2 ^ ps.length) = o := ⟨_, rfl⟩
        rw [ho] at hbf ⊢
        cases o with
        | none =>
          have HF := Lib.hid (show dropE ls ps ms = none from hbf.symm)
          clear hbf ho
          rw [show bestV none = -1 from rfl]
          go_wp2_with fail
          go_returns
          exact .inr (.inl ⟨HB.out, HF.out, rfl, hbr⟩)
        | some b =>
          have HF := Lib.hid (show dropE ls ps ms = some (listM b) from hbf.symm)
          have hbo := bestM_ok (okS ls ps ms) (2 ^ ps.length)
          rw [ho] at hbo
          have hb1 : b < 1024 := by have := hbo.1; omega
          have hb0 : (0 : Int) ≤ (b : Int) := by omega
          clear hbf ho hbo
          rw [show bestV (some b) = (b : Int) from rfl]
          go_wp2_with fail
          refine (listed_any b hb1 _).mono ?_
          rintro e w5 ⟨v5, rfl, hs5, hb5⟩
          have HS5 := Lib.hid hs5
          have hB5 := two hbr hb5
          clear hs5 hb5
          go_wp2_with fail
          go_returns
          exact .inr (.inr ⟨HB.out, _, v5, HF.out, rfl, HS5.out, hB5⟩)
      have hlt' : (k : Int) < (2 : Int) ^ ps.length := by rw [← pow_cast]; omega
      have hk1 : k < 1024 := by omega
      obtain ⟨o, ho⟩ : ∃ o, bestM (okS ls ps ms) k = o := ⟨_, rfl⟩
      rw [ho]
      cases o with
      | none =>
        have HStep := Lib.hid (show ∀ t, okS ls ps ms (listM k) = t → bestM (okS ls ps ms) (k + 1) = if t then some k else none by
          intro t ht
          unfold bestM
          rw [ho]
          unfold stepM
          rw [ht])
        clear ho
        rw [show bestV none = -1 from rfl]
        generalize wr = cur at *
        have hBc := hbr
        go_wp2_with (at_builtin; refine wpList_plain rfl fun _ hK => wp_append_ld (.tmp 84) (.tmp 85) rfl w.heap.size _ _ [] ls rfl (own_none cur _ _ _ hBc.size) rfl (ldLater HV.out (hBc.alloc hBc.size _)) (by simp; omega) (by have := hBc.size; simp; omega) ?_)
        intro v12 w5 ho5 hb5 hs5
        have hB5 : Below w.heap.size w w5 := (hBc.alloc hBc.size _).trans hb5
        have HO5 : Hid (w5.ownsRow w.heap.size 91 4 v12 (ls ++ ([] : List Pu).map bagL).length (spR ((ls ++ ([] : List Pu).map bagL).map Ld.row))) := Lib.hid (by simpa using ho5)
        apply hK
        clear hK ho5 hb5 hs5 hBc
        go_wp2_with fail
        go_loopw [12, 13] (fun v12 v13 wr => RtHead ls ps (listM k) w wr v12 v13) (fun _ v13 _ => ps.length - (intOf v13).toNat)
        case atStart => exact ⟨0, [], by omega, rfl, rfl, by simp, HO5.out, hB5⟩
        case round =>
          clear HO5 hB5
          obtain ⟨i, es, hi, rfl, he, hel, ho, hbt⟩ := hrel
          have HE := Lib.hid he
          have HO := Lib.hid ho
          clear he ho
          have hi0 : (0 : Int) ≤ (i : Int) := by omega
          by_cases hl2 : i < ps.length
          · obtain ⟨bk, off, c, rfl, hb, hc, hat⟩ := HQ.out.at hl2
            obtain ⟨c0, c1⟩ := PuAt.later hat hbt
            have hl2' : (i : Int) < (ps.length : Int) := by omega
            have hin : ((i : Int).toNat) = i := by omega
            have hbit := bit_and hk1 (show i < 10 by omega)
            have hhas := has_listM (m := k) (show i < 10 by omega)
            by_cases ht : k.testBit i = true
            · rw [if_pos ht] at hbit
              have HZ := Lib.hid (show es ++ keptP (listM k) (i + 1) (ps.drop (i + 1)) = keptP (listM k) 0 ps by
                rw [← HE.out, drop_some hc, keptP, hhas, ht]
                rfl)
              clear hc hat ht hhas c0 c1
              go_wp2_with fail
              go_roundw
              case rel => exact ⟨i + 1, es, by omega, by go_num, HZ.out, by omega, HO.out, hbt⟩
              case measure => simp [intOf]; omega
            · rw [if_neg ht] at hbit
              have HZ := Lib.hid (show (es ++ [c]) ++ keptP (listM k) (i + 1) (ps.drop (i + 1)) = keptP (listM k) 0 ps by
                rw [← HE.out, drop_some hc, keptP, hhas, if_neg ht]
                simp)
              have HC0 := Lib.hid c0
              have HC1 := Lib.hid c1
              have hbw : bk < wr.heap.size := World.block_lt_of_cell? _ _ c0
              clear hc hat ht hhas c0 c1
              go_wp2_with fail
              have hA : Below wr.heap.size wr wr.drew := below_drewN (Below.refl _ _) 1
              refine AnyV.start (Two 13 (fun w' => Below wr.heap.size wr w') 13 (fun _ => True)) 15 #[false, false, false, false, false, false, false, false, false, false, false, false, false, false, false] (by kernel_rfl) (by kernel_rfl) (by kernel_rfl) (fun _ => ⟨fun _ => hA, fun _ => trivial⟩) (fun _ => ?_)
              generalize World.drew wr = wd at hA ⊢
              refine AnyV.take 13 15 (i := 0) (oi := _) (v := ?_) rfl (by kernel_rfl) (by kernel_rfl) (by kernel_rfl) (by kernel_rfl) (by kernel_rfl) (fun _ _ _ h => h) (Two.other (by decide)) (Or.inl ⟨by kernel_rfl, ?_⟩) (Two.till (fun _ => hA) (fun _ => trivial)) (fun _ => ?_)
              rotate_left 1
              · intro wz hSw'; have hSw := hSw'.1 rfl; clear hSw'; skip; go_simp; try with_reducible rfl
              try simp only [Act.put, List.setIfInBounds_toArray, List.set_cons_zero, List.set_cons_succ]
              refine AnyV.take 13 15 (i := 1) (oi := _) (v := ?_) rfl (by kernel_rfl) (by kernel_rfl) (by kernel_rfl) (by kernel_rfl) (by kernel_rfl) (fun _ _ _ h => h) (Two.other (by decide)) (Or.inl ⟨by kernel_rfl, ?_⟩) (Two.till (fun _ => hA) (fun _ => trivial)) (fun _ => ?_)
              rotate_left 1
              · intro wz hSw'; have hSw := hSw'.1 rfl; clear hSw'; skip; go_simp; try with_reducible rfl
              try simp only [Act.put, List.setIfInBounds_toArray, List.set_cons_zero, List.set_cons_succ]
              refine AnyV.take 13 15 (i := 2) (oi := _) (v := ?_) rfl (by kernel_rfl) (by kernel_rfl) (by kernel_rfl) (by kernel_rfl) (by kernel_rfl) (fun _ _ _ h => h) (Two.other (by decide)) (Or.inl ⟨by kernel_rfl, ?_⟩) (Two.till (fun _ => hA) (fun _ => trivial)) (fun _ => ?_)
              rotate_left 1
              · intro wz hSw'; have hSw := hSw'.1 rfl; clear hSw'; skip; go_simp; try with_reducible rfl
              try simp only [Act.put, List.setIfInBounds_toArray, List.set_cons_zero, List.set_cons_succ]
              refine AnyV.take 13 15 (i := 3) (oi := _) (v := ?_) rfl (by kernel_rfl) (by kernel_rfl) (by kernel_rfl) (by kernel_rfl) (by kernel_rfl) (fun _ _ _ h => h) (Two.other (by decide)) (Or.inl ⟨by kernel_rfl, ?_⟩) (Two.till (fun _ => hA) (fun _ => trivial)) (fun _ => ?_)
              rotate_left 1
              · intro wz hSw'; have hSw := hSw'.1 rfl; clear hSw'; skip; go_simp; try with_reducible rfl
              try simp only [Act.put, List.setIfInBounds_toArray, List.set_cons_zero, List.set_cons_succ]
              refine AnyV.take 13 15 (i := 4) (oi := _) (v := ?_) rfl (by kernel_rfl) (by kernel_rfl) (by kernel_rfl) (by kernel_rfl) (by kernel_rfl) (fun _ _ _ h => h) (Two.other (by decide)) (Or.inl ⟨by kernel_rfl, ?_⟩) (Two.till (fun _ => hA) (fun _ => trivial)) (fun _ => ?_)
              rotate_left 1
              · intro wz hSw'; have hSw := hSw'.1 rfl; clear hSw'; skip; go_simp; try with_reducible rfl
              try simp only [Act.put, List.setIfInBounds_toArray, List.set_cons_zero, List.set_cons_succ]
              refine AnyV.take 13 15 (i := 5) (oi := _) (v := ?_) rfl (by kernel_rfl) (by kernel_rfl) (by kernel_rfl) (by kernel_rfl) (by kernel_rfl) (fun _ _ _ h => h) (Two.other (by decide)) (Or.inl ⟨by kernel_rfl, ?_⟩) (Two.till (fun _ => hA) (fun _ => trivial)) (fun _ => ?_)
              rotate_left 1
              · intro wz hSw'; have hSw := hSw'.1 rfl; clear hSw'; have h1 := cell_later hSw HC0.out; go_simp; try with_reducible rfl
              try simp only [Act.put, List.setIfInBounds_toArray, List.set_cons_zero, List.set_cons_succ]
              refine AnyV.take 13 15 (i := 6) (oi := _) (v := ?_) rfl (by kernel_rfl) (by kernel_rfl) (by kernel_rfl) (by kernel_rfl) (by kernel_rfl) (fun _ _ _ h => h) (Two.other (by decide)) (Or.inl ⟨by kernel_rfl, ?_⟩) (Two.till (fun _ => hA) (fun _ => trivial)) (fun _ => ?_)
              rotate_left 1
              · intro wz hSw'; have hSw := hSw'.1 rfl; clear hSw'; skip; go_simp; try with_reducible rfl
              try simp only [Act.put, List.setIfInBounds_toArray, List.set_cons_zero, List.set_cons_succ]
              refine AnyV.take 13 15 (i := 7) (oi := _) (v := ?_) rfl (by kernel_rfl) (by kernel_rfl) (by kernel_rfl) (by kernel_rfl) (by kernel_rfl) (fun _ _ _ h => h) (Two.other (by decide)) (Or.inl ⟨by kernel_rfl, ?_⟩) (Two.till (fun _ => hA) (fun _ => trivial)) (fun _ => ?_)
              rotate_left 1
              · intro wz hSw'; have hSw := hSw'.1 rfl; clear hSw'; skip; go_simp; try with_reducible rfl
              try simp only [Act.put, List.setIfInBounds_toArray, List.set_cons_zero, List.set_cons_succ]
              refine AnyV.take 13 15 (i := 8) (oi := _) (v := ?_) rfl (by kernel_rfl) (by kernel_rfl) (by kernel_rfl) (by kernel_rfl) (by kernel_rfl) (fun _ _ _ h => h) (Two.other (by decide)) (Or.inl ⟨by kernel_rfl, ?_⟩) (Two.till (fun _ => hA) (fun _ => trivial)) (fun _ => ?_)
              rotate_left 1
              · intro wz hSw'; have hSw := hSw'.1 rfl; clear hSw'; skip; go_simp; try with_reducible rfl
              try simp only [Act.put, List.setIfInBounds_toArray, List.set_cons_zero, List.set_cons_succ]
              refine AnyV.take 13 15 (i := 9) (oi := _) (v := ?_) rfl (by kernel_rfl) (by kernel_rfl) (by kernel_rfl) (by kernel_rfl) (by kernel_rfl) (fun _ _ _ h => h) (Two.other (by decide)) (Or.inl ⟨by kernel_rfl, ?_⟩) (Two.till (fun _ => hA) (fun _ => trivial)) (fun _ => ?_)
              rotate_left 1
              · intro wz hSw'; have hSw := hSw'.1 rfl; clear hSw'; skip; go_simp; try with_reducible rfl
              try simp only [Act.put, List.setIfInBounds_toArray, List.set_cons_zero, List.set_cons_succ]
              refine AnyV.take 13 15 (i := 10) (oi := _) (v := ?_) rfl (by kernel_rfl) (by kernel_rfl) (by kernel_rfl) (by kernel_rfl) (by kernel_rfl) (fun _ _ _ h => h) (Two.other (by decide)) (Or.inl ⟨by kernel_rfl, ?_⟩) (Two.till (fun _ => hA) (fun _ => trivial)) (fun _ => ?_)
              rotate_left 1
              · intro wz hSw'; have hSw := hSw'.1 rfl; clear hSw'; have h1 := cell_later hSw HC1.out; go_simp; try with_reducible rfl
              try simp only [Act.put, List.setIfInBounds_toArray, List.set_cons_zero, List.set_cons_succ]
              refine AnyV.one (i := 11) (o := _) rfl (by kernel_rfl) (fun K hK => ?_)
              go_simp
              refine (exactly_any c _).mono ?_
              rintro e w6 ⟨rfl, hb6⟩
              replace hA := two hA hb6
              clear hb6
              go_wp2_with fail
              refine hK.out _ _ (Two.till (fun _ => hA) (fun _ => trivial)) ?_
              clear hK K
              try simp only [Act.put, List.setIfInBounds_toArray, List.set_cons_zero, List.set_cons_succ]
              refine AnyV.one (i := 12) (o := _) rfl (by kernel_rfl) (fun K hK => ?_)
              go_simp
              have hA7 := hA.alloc hA.size (.cells #[.int .i64 c.p, .int .i64 c.p, .int .i64 c.w, .int .i64 c.w] 91)
              have hon7 := own_below HO.out hA7
              refine hK.out _ _ (Two.till (fun _ => hA7) (fun _ => trivial)) ?_
              clear hK K
              try simp only [Act.put, List.setIfInBounds_toArray, List.set_cons_zero, List.set_cons_succ]
              refine AnyV.one (i := 13) (o := _) rfl (by kernel_rfl) (fun K hK => ?_)
              rw [if_pos (by kernel_rfl)]
              refine wp_append_ld (.tmp 98) (.tmp 110) rfl w.heap.size _ _ (ls ++ es.map bagL) [bagL c] rfl hon7 rfl (ld_one w6 (bagL c) _) (by simp; omega) (Nat.le_trans hbt.size hA7.size) ?_
              intro v7 w7 ho7 hb7 hs7
              refine hK.out _ _ (Two.till (fun h => absurd h (by decide)) (fun _ => trivial)) ?_
              clear hK K
              try simp only [Act.put, List.setIfInBounds_toArray, List.set_cons_zero, List.set_cons_succ]
              have hB7 : Below w.heap.size w w7 := (hbt.trans (hA7.mono hbt.size)).trans hb7
              have e9 : ls ++ es.map bagL ++ [bagL c] = ls ++ (es ++ [c]).map bagL := by simp
              rw [e9] at ho7
              have HO7 := Lib.hid ho7
              clear ho7 hb7 hs7 hon7 hA hA7 e9
              refine AnyV.one (i := 14) (o := _) rfl (by kernel_rfl) (fun K hK => ?_)
              go_simp
              refine hK.out _ _ (Two.till (fun h => absurd h (by decide)) (fun _ => trivial)) ?_
              clear hK K
              refine AnyV.done (by kernel_rfl) ?_
              try simp only [Act.put, List.setIfInBounds_toArray, List.set_cons_zero, List.set_cons_succ]
              go_wp2_with fail
              go_roundw
              case rel => exact ⟨i + 1, es ++ [c], by omega, by go_num, HZ.out, by simp; omega, HO7.out, hB7⟩
              case measure => simp [intOf]; omega
          · have hl2' : ¬ (i : Int) < (ps.length : Int) := by omega
            have hes : es = keptP (listM k) 0 ps := by rw [← HE.out, drop_none hl2, keptP, List.append_nil]
            have hall := Lib.hid (ld_own HO.out (by simp; omega))
            have hbk := brk_ok ls ps ms (listM k)
            rw [← hes] at hbk
            obtain ⟨M, hM⟩ : ∃ M, brk (ls ++ es.map bagL) 0 ms = M := ⟨_, rfl⟩
            rw [hM] at hbk
            have HM := Lib.hid hM
            have HEm := Lib.hid (show ∀ p, p ∈ es → p ∈ ps from fun p hp => keptP_mem (listM k) ps 0 p (by rw [← hes]; exact hp))
            have hel2 : es.length ≤ ps.length := by omega
            clear hM hes
            obtain ⟨t, ht⟩ : ∃ t, okS ls ps ms (listM k) = t := ⟨_, rfl⟩
            rw [ht] at hbk
            have HStp := Lib.hid (HStep.out t ht)
            clear ht
            cases t
            · have hM0 : ¬ M < 0 := by simpa using hbk
              clear hbk
              go_wp2_with fail
              refine (rbroken_any _ u (ls ++ es.map bagL) ms _ hall.out (liLater HU.out hbt) (by simp; omega) (fun l hl => by
                rcases List.mem_append.1 hl with h | h
                · exact HL.out l h
                · obtain ⟨p, h1, rfl⟩ := List.mem_map.1 h
                  exact bag_bound (HP.out p (HEm.out p h1))) HMo.out).mono ?_
              rintro e w6 ⟨rfl, hb6⟩
              rw [HM.out]
              have hB6 := two hbt hb6
              clear hb6
              go_wp2_with fail
              go_roundw
              case rel => exact ⟨k + 1, by omega, by go_num, by rw [HStp.out]; rfl, hB6⟩
              case measure => simp [intOf]; omega
            · have hM0 : M < 0 := by simpa using hbk
              clear hbk
              go_wp2_with fail
              refine (rbroken_any _ u (ls ++ es.map bagL) ms _ hall.out (liLater HU.out hbt) (by simp; omega) (fun l hl => by
                rcases List.mem_append.1 hl with h | h
                · exact HL.out l h
                · obtain ⟨p, h1, rfl⟩ := List.mem_map.1 h
                  exact bag_bound (HP.out p (HEm.out p h1))) HMo.out).mono ?_
              rintro e w6 ⟨rfl, hb6⟩
              rw [HM.out]
              have hB6 := two hbt hb6
              clear hb6
              go_wp2_with fail
              go_roundw
              case rel => exact ⟨k + 1, by omega, by go_num, by rw [HStp.out]; rfl, hB6⟩
              case measure => simp [intOf]; omega
      | some b =>
        have hbo := bestM_ok (okS ls ps ms) k
        rw [ho] at hbo
        have hb1 : b < 1024 := by have := hbo.1; omega
        have hb0 : (0 : Int) ≤ (b : Int) := by omega
        have hS0 : bestM (okS ls ps ms) (k + 1) = stepM (okS ls ps ms) (some b) k := by rw [← ho]; rfl
        have HStep0 := Lib.hid (show bestM (okS ls ps ms) (k + 1) = if befS (listM k) (listM b) = true then (if okS ls ps ms (listM k) = true then some k else some b) else some b from hS0)
        clear ho hbo hS0
        rw [show bestV (some b) = (b : Int) from rfl]
        obtain ⟨sk, hsk⟩ : ∃ n, (listM k).length = n := ⟨_, rfl⟩
        obtain ⟨sb, hsb⟩ : ∃ n, (listM b).length = n := ⟨_, rfl⟩
        have HSk := Lib.hid hsk
        have HSb := Lib.hid hsb
        have hbf : befS (listM k) (listM b) = (decide (sk < sb) || (decide (sk = sb) && lexB (listM k) (listM b))) := by unfold befS; rw [hsk, hsb]
        clear hsk hsb
        generalize wr = cur at *
        rcases Nat.lt_trichotomy sb sk with h | h | h
        · rw [decide_eq_false (show ¬ sk < sb by omega), decide_eq_false (show ¬ sk = sb by omega)] at hbf
          have HSkip := Lib.hid (show bestM (okS ls ps ms) (k + 1) = some b by rw [HStep0.out, hbf]; rfl)
          have hA : (sb : Int) < (sk : Int) := by omega
          clear hbf h
          go_wp2_with fail
          refine (size_any k hk1 _).mono ?_
          rintro e w2 ⟨rfl, hw2⟩
          rw [hw2, HSk.out]
          clear hw2 w2
          go_wp2_with fail
          refine (size_any b hb1 _).mono ?_
          rintro e w2 ⟨rfl, hw2⟩
          rw [hw2, HSb.out]
          clear hw2 w2
          go_wp2_with fail
          go_roundw
          case rel => exact ⟨k + 1, by omega, by go_num, by rw [HSkip.out]; rfl, hbr⟩
          case measure => simp [intOf]; omega
        · subst h
          rw [decide_eq_false (show ¬ sb < sb by omega), decide_eq_true (show sb = sb from rfl)] at hbf
          have HBf := Lib.hid hbf
          clear hbf
          obtain ⟨x, hx⟩ : ∃ t, lexB (listM k) (listM b) = t := ⟨_, rfl⟩
          have HX := Lib.hid hx
          clear hx
          go_wp2_with fail
          refine (size_any k hk1 _).mono ?_
          rintro e w2 ⟨rfl, hw2⟩
          rw [hw2, HSk.out]
          clear hw2 w2
          go_wp2_with fail
          refine (size_any b hb1 _).mono ?_
          rintro e w2 ⟨rfl, hw2⟩
          rw [hw2, HSb.out]
          clear hw2 w2
          go_wp2_with fail
          refine (size_any k hk1 _).mono ?_
          rintro e w2 ⟨rfl, hw2⟩
          rw [hw2, HSk.out]
          clear hw2 w2
          go_wp2_with fail
          refine (size_any b hb1 _).mono ?_
          rintro e w2 ⟨rfl, hw2⟩
          rw [hw2, HSb.out]
          clear hw2 w2
          go_wp2_with fail
          refine (listed_any k hk1 _).mono ?_
          rintro e w3 ⟨v3, rfl, hs3, hb3⟩
          have HS3 := Lib.hid hs3
          have hB3 := two hbr hb3
          clear hs3 hb3
          go_wp2_with fail
          refine (listed_any b hb1 _).mono ?_
          rintro e w4 ⟨v4, rfl, hs4, hb4⟩
          have HS4 := Lib.hid hs4
          have HS34 := Lib.hid (inLater HS3.out hb4)
          have hB4 := two hB3 hb4
          clear hs4 hb4 hB3
          go_wp2_with fail
          refine (earlier_any v3 v4 (listM k) (listM b) _ HS34.out HS4.out (by rw [HSk.out, HSb.out])).mono ?_
          rintro e w6 ⟨rfl, hb6⟩
          rw [HX.out]
          have hBc := two hB4 hb6
          clear hb6 hB4 hbr
          cases x
          · have HSkip := Lib.hid (show bestM (okS ls ps ms) (k + 1) = some b by rw [HStep0.out, HBf.out, HX.out]; rfl)
            go_wp2_with fail
            go_roundw
            case rel => exact ⟨k + 1, by omega, by go_num, by rw [HSkip.out]; rfl, hBc⟩
            case measure => simp [intOf]; omega
          · have HStep := Lib.hid (show ∀ t, okS ls ps ms (listM k) = t → bestM (okS ls ps ms) (k + 1) = if t then some k else some b by
              intro t ht
              rw [HStep0.out, HBf.out, HX.out, ht]
              rfl)
            generalize w6 = cur at *
            go_wp2_with (at_builtin; refine wpList_plain rfl fun _ hK => wp_append_ld (.tmp 84) (.tmp 85) rfl w.heap.size _ _ [] ls rfl (own_none cur _ _ _ hBc.size) rfl (ldLater HV.out (hBc.alloc hBc.size _)) (by simp; omega) (by have := hBc.size; simp; omega) ?_)
            intro v12 w5 ho5 hb5 hs5
            have hB5 : Below w.heap.size w w5 := (hBc.alloc hBc.size _).trans hb5
            have HO5 : Hid (w5.ownsRow w.heap.size 91 4 v12 (ls ++ ([] : List Pu).map bagL).length (spR ((ls ++ ([] : List Pu).map bagL).map Ld.row))) := Lib.hid (by simpa using ho5)
            apply hK
            clear hK ho5 hb5 hs5 hBc
            go_wp2_with fail
            go_loopw [12, 13] (fun v12 v13 wr => RtHead ls ps (listM k) w wr v12 v13) (fun _ v13 _ => ps.length - (intOf v13).toNat)
            case atStart => exact ⟨0, [], by omega, rfl, rfl, by simp, HO5.out, hB5⟩
            case round =>
              clear HO5 hB5
              obtain ⟨i, es, hi, rfl, he, hel, ho, hbt⟩ := hrel
              have HE := Lib.hid he
              have HO := Lib.hid ho
              clear he ho
              have hi0 : (0 : Int) ≤ (i : Int) := by omega
              by_cases hl2 : i < ps.length
              · obtain ⟨bk, off, c, rfl, hb, hc, hat⟩ := HQ.out.at hl2
                obtain ⟨c0, c1⟩ := PuAt.later hat hbt
                have hl2' : (i : Int) < (ps.length : Int) := by omega
                have hin : ((i : Int).toNat) = i := by omega
                have hbit := bit_and hk1 (show i < 10 by omega)
                have hhas := has_listM (m := k) (show i < 10 by omega)
                by_cases ht : k.testBit i = true
                · rw [if_pos ht] at hbit
                  have HZ := Lib.hid (show es ++ keptP (listM k) (i + 1) (ps.drop (i + 1)) = keptP (listM k) 0 ps by
                    rw [← HE.out, drop_some hc, keptP, hhas, ht]
                    rfl)
                  clear hc hat ht hhas c0 c1
                  go_wp2_with fail
                  go_roundw
                  case rel => exact ⟨i + 1, es, by omega, by go_num, HZ.out, by omega, HO.out, hbt⟩
                  case measure => simp [intOf]; omega
                · rw [if_neg ht] at hbit
                  have HZ := Lib.hid (show (es ++ [c]) ++ keptP (listM k) (i + 1) (ps.drop (i + 1)) = keptP (listM k) 0 ps by
                    rw [← HE.out, drop_some hc, keptP, hhas, if_neg ht]
                    simp)
                  have HC0 := Lib.hid c0
                  have HC1 := Lib.hid c1
                  have hbw : bk < wr.heap.size := World.block_lt_of_cell? _ _ c0
                  clear hc hat ht hhas c0 c1
                  go_wp2_with fail
                  have hA : Below wr.heap.size wr wr.drew := below_drewN (Below.refl _ _) 1
                  refine AnyV.start (Two 13 (fun w' => Below wr.heap.size wr w') 13 (fun _ => True)) 15 #[false, false, false, false, false, false, false, false, false, false, false, false, false, false, false] (by kernel_rfl) (by kernel_rfl) (by kernel_rfl) (fun _ => ⟨fun _ => hA, fun _ => trivial⟩) (fun _ => ?_)
                  generalize World.drew wr = wd at hA ⊢
                  refine AnyV.take 13 15 (i := 0) (oi := _) (v := ?_) rfl (by kernel_rfl) (by kernel_rfl) (by kernel_rfl) (by kernel_rfl) (by kernel_rfl) (fun _ _ _ h => h) (Two.other (by decide)) (Or.inl ⟨by kernel_rfl, ?_⟩) (Two.till (fun _ => hA) (fun _ => trivial)) (fun _ => ?_)
                  rotate_left 1
                  · intro wz hSw'; have hSw := hSw'.1 rfl; clear hSw'; skip; go_simp; try with_reducible rfl
                  try simp only [Act.put, List.setIfInBounds_toArray, List.set_cons_zero, List.set_cons_succ]
                  refine AnyV.take 13 15 (i := 1) (oi := _) (v := ?_) rfl (by kernel_rfl) (by kernel_rfl) (by kernel_rfl) (by kernel_rfl) (by kernel_rfl) (fun _ _ _ h => h) (Two.other (by decide)) (Or.inl ⟨by kernel_rfl, ?_⟩) (Two.till (fun _ => hA) (fun _ => trivial)) (fun _ => ?_)
                  rotate_left 1
                  · intro wz hSw'; have hSw := hSw'.1 rfl; clear hSw'; skip; go_simp; try with_reducible rfl
                  try simp only [Act.put, List.setIfInBounds_toArray, List.set_cons_zero, List.set_cons_succ]
                  refine AnyV.take 13 15 (i := 2) (oi := _) (v := ?_) rfl (by kernel_rfl) (by kernel_rfl) (by kernel_rfl) (by kernel_rfl) (by kernel_rfl) (fun _ _ _ h => h) (Two.other (by decide)) (Or.inl ⟨by kernel_rfl, ?_⟩) (Two.till (fun _ => hA) (fun _ => trivial)) (fun _ => ?_)
                  rotate_left 1
                  · intro wz hSw'; have hSw := hSw'.1 rfl; clear hSw'; skip; go_simp; try with_reducible rfl
                  try simp only [Act.put, List.setIfInBounds_toArray, List.set_cons_zero, List.set_cons_succ]
                  refine AnyV.take 13 15 (i := 3) (oi := _) (v := ?_) rfl (by kernel_rfl) (by kernel_rfl) (by kernel_rfl) (by kernel_rfl) (by kernel_rfl) (fun _ _ _ h => h) (Two.other (by decide)) (Or.inl ⟨by kernel_rfl, ?_⟩) (Two.till (fun _ => hA) (fun _ => trivial)) (fun _ => ?_)
                  rotate_left 1
                  · intro wz hSw'; have hSw := hSw'.1 rfl; clear hSw'; skip; go_simp; try with_reducible rfl
                  try simp only [Act.put, List.setIfInBounds_toArray, List.set_cons_zero, List.set_cons_succ]
                  refine AnyV.take 13 15 (i := 4) (oi := _) (v := ?_) rfl (by kernel_rfl) (by kernel_rfl) (by kernel_rfl) (by kernel_rfl) (by kernel_rfl) (fun _ _ _ h => h) (Two.other (by decide)) (Or.inl ⟨by kernel_rfl, ?_⟩) (Two.till (fun _ => hA) (fun _ => trivial)) (fun _ => ?_)
                  rotate_left 1
                  · intro wz hSw'; have hSw := hSw'.1 rfl; clear hSw'; skip; go_simp; try with_reducible rfl
                  try simp only [Act.put, List.setIfInBounds_toArray, List.set_cons_zero, List.set_cons_succ]
                  refine AnyV.take 13 15 (i := 5) (oi := _) (v := ?_) rfl (by kernel_rfl) (by kernel_rfl) (by kernel_rfl) (by kernel_rfl) (by kernel_rfl) (fun _ _ _ h => h) (Two.other (by decide)) (Or.inl ⟨by kernel_rfl, ?_⟩) (Two.till (fun _ => hA) (fun _ => trivial)) (fun _ => ?_)
                  rotate_left 1
                  · intro wz hSw'; have hSw := hSw'.1 rfl; clear hSw'; have h1 := cell_later hSw HC0.out; go_simp; try with_reducible rfl
                  try simp only [Act.put, List.setIfInBounds_toArray, List.set_cons_zero, List.set_cons_succ]
                  refine AnyV.take 13 15 (i := 6) (oi := _) (v := ?_) rfl (by kernel_rfl) (by kernel_rfl) (by kernel_rfl) (by kernel_rfl) (by kernel_rfl) (fun _ _ _ h => h) (Two.other (by decide)) (Or.inl ⟨by kernel_rfl, ?_⟩) (Two.till (fun _ => hA) (fun _ => trivial)) (fun _ => ?_)
                  rotate_left 1
                  · intro wz hSw'; have hSw := hSw'.1 rfl; clear hSw'; skip; go_simp; try with_reducible rfl
                  try simp only [Act.put, List.setIfInBounds_toArray, List.set_cons_zero, List.set_cons_succ]
                  refine AnyV.take 13 15 (i := 7) (oi := _) (v := ?_) rfl (by kernel_rfl) (by kernel_rfl) (by kernel_rfl) (by kernel_rfl) (by kernel_rfl) (fun _ _ _ h => h) (Two.other (by decide)) (Or.inl ⟨by kernel_rfl, ?_⟩) (Two.till (fun _ => hA) (fun _ => trivial)) (fun _ => ?_)
                  rotate_left 1
                  · intro wz hSw'; have hSw := hSw'.1 rfl; clear hSw'; skip; go_simp; try with_reducible rfl
                  try simp only [Act.put, List.setIfInBounds_toArray, List.set_cons_zero, List.set_cons_succ]
                  refine AnyV.take 13 15 (i := 8) (oi := _) (v := ?_) rfl (by kernel_rfl) (by kernel_rfl) (by kernel_rfl) (by kernel_rfl) (by kernel_rfl) (fun _ _ _ h => h) (Two.other (by decide)) (Or.inl ⟨by kernel_rfl, ?_⟩) (Two.till (fun _ => hA) (fun _ => trivial)) (fun _ => ?_)
                  rotate_left 1
                  · intro wz hSw'; have hSw := hSw'.1 rfl; clear hSw'; skip; go_simp; try with_reducible rfl
                  try simp only [Act.put, List.setIfInBounds_toArray, List.set_cons_zero, List.set_cons_succ]
                  refine AnyV.take 13 15 (i := 9) (oi := _) (v := ?_) rfl (by kernel_rfl) (by kernel_rfl) (by kernel_rfl) (by kernel_rfl) (by kernel_rfl) (fun _ _ _ h => h) (Two.other (by decide)) (Or.inl ⟨by kernel_rfl, ?_⟩) (Two.till (fun _ => hA) (fun _ => trivial)) (fun _ => ?_)
                  rotate_left 1
                  · intro wz hSw'; have hSw := hSw'.1 rfl; clear hSw'; skip; go_simp; try with_reducible rfl
                  try simp only [Act.put, List.setIfInBounds_toArray, List.set_cons_zero, List.set_cons_succ]
                  refine AnyV.take 13 15 (i := 10) (oi := _) (v := ?_) rfl (by kernel_rfl) (by kernel_rfl) (by kernel_rfl) (by kernel_rfl) (by kernel_rfl) (fun _ _ _ h => h) (Two.other (by decide)) (Or.inl ⟨by kernel_rfl, ?_⟩) (Two.till (fun _ => hA) (fun _ => trivial)) (fun _ => ?_)
                  rotate_left 1
                  · intro wz hSw'; have hSw := hSw'.1 rfl; clear hSw'; have h1 := cell_later hSw HC1.out; go_simp; try with_reducible rfl
                  try simp only [Act.put, List.setIfInBounds_toArray, List.set_cons_zero, List.set_cons_succ]
                  refine AnyV.one (i := 11) (o := _) rfl (by kernel_rfl) (fun K hK => ?_)
                  go_simp
                  refine (exactly_any c _).mono ?_
                  rintro e w6 ⟨rfl, hb6⟩
                  replace hA := two hA hb6
                  clear hb6
                  go_wp2_with fail
                  refine hK.out _ _ (Two.till (fun _ => hA) (fun _ => trivial)) ?_
                  clear hK K
                  try simp only [Act.put, List.setIfInBounds_toArray, List.set_cons_zero, List.set_cons_succ]
                  refine AnyV.one (i := 12) (o := _) rfl (by kernel_rfl) (fun K hK => ?_)
                  go_simp
                  have hA7 := hA.alloc hA.size (.cells #[.int .i64 c.p, .int .i64 c.p, .int .i64 c.w, .int .i64 c.w] 91)
                  have hon7 := own_below HO.out hA7
                  refine hK.out _ _ (Two.till (fun _ => hA7) (fun _ => trivial)) ?_
                  clear hK K
                  try simp only [Act.put, List.setIfInBounds_toArray, List.set_cons_zero, List.set_cons_succ]
                  refine AnyV.one (i := 13) (o := _) rfl (by kernel_rfl) (fun K hK => ?_)
                  rw [if_pos (by kernel_rfl)]
                  refine wp_append_ld (.tmp 98) (.tmp 110) rfl w.heap.size _ _ (ls ++ es.map bagL) [bagL c] rfl hon7 rfl (ld_one w6 (bagL c) _) (by simp; omega) (Nat.le_trans hbt.size hA7.size) ?_
                  intro v7 w7 ho7 hb7 hs7
                  refine hK.out _ _ (Two.till (fun h => absurd h (by decide)) (fun _ => trivial)) ?_
                  clear hK K
                  try simp only [Act.put, List.setIfInBounds_toArray, List.set_cons_zero, List.set_cons_succ]
                  have hB7 : Below w.heap.size w w7 := (hbt.trans (hA7.mono hbt.size)).trans hb7
                  have e9 : ls ++ es.map bagL ++ [bagL c] = ls ++ (es ++ [c]).map bagL := by simp
                  rw [e9] at ho7
                  have HO7 := Lib.hid ho7
                  clear ho7 hb7 hs7 hon7 hA hA7 e9
                  refine AnyV.one (i := 14) (o := _) rfl (by kernel_rfl) (fun K hK => ?_)
                  go_simp
                  refine hK.out _ _ (Two.till (fun h => absurd h (by decide)) (fun _ => trivial)) ?_
                  clear hK K
                  refine AnyV.done (by kernel_rfl) ?_
                  try simp only [Act.put, List.setIfInBounds_toArray, List.set_cons_zero, List.set_cons_succ]
                  go_wp2_with fail
                  go_roundw
                  case rel => exact ⟨i + 1, es ++ [c], by omega, by go_num, HZ.out, by simp; omega, HO7.out, hB7⟩
                  case measure => simp [intOf]; omega
              · have hl2' : ¬ (i : Int) < (ps.length : Int) := by omega
                have hes : es = keptP (listM k) 0 ps := by rw [← HE.out, drop_none hl2, keptP, List.append_nil]
                have hall := Lib.hid (ld_own HO.out (by simp; omega))
                have hbk := brk_ok ls ps ms (listM k)
                rw [← hes] at hbk
                obtain ⟨M, hM⟩ : ∃ M, brk (ls ++ es.map bagL) 0 ms = M := ⟨_, rfl⟩
                rw [hM] at hbk
                have HM := Lib.hid hM
                have HEm := Lib.hid (show ∀ p, p ∈ es → p ∈ ps from fun p hp => keptP_mem (listM k) ps 0 p (by rw [← hes]; exact hp))
                have hel2 : es.length ≤ ps.length := by omega
                clear hM hes
                obtain ⟨t, ht⟩ : ∃ t, okS ls ps ms (listM k) = t := ⟨_, rfl⟩
                rw [ht] at hbk
                have HStp := Lib.hid (HStep.out t ht)
                clear ht
                cases t
                · have hM0 : ¬ M < 0 := by simpa using hbk
                  clear hbk
                  go_wp2_with fail
                  refine (rbroken_any _ u (ls ++ es.map bagL) ms _ hall.out (liLater HU.out hbt) (by simp; omega) (fun l hl => by
                    rcases List.mem_append.1 hl with h | h
                    · exact HL.out l h
                    · obtain ⟨p, h1, rfl⟩ := List.mem_map.1 h
                      exact bag_bound (HP.out p (HEm.out p h1))) HMo.out).mono ?_
                  rintro e w6 ⟨rfl, hb6⟩
                  rw [HM.out]
                  have hB6 := two hbt hb6
                  clear hb6
                  go_wp2_with fail
                  go_roundw
                  case rel => exact ⟨k + 1, by omega, by go_num, by rw [HStp.out]; rfl, hB6⟩
                  case measure => simp [intOf]; omega
                · have hM0 : M < 0 := by simpa using hbk
                  clear hbk
                  go_wp2_with fail
                  refine (rbroken_any _ u (ls ++ es.map bagL) ms _ hall.out (liLater HU.out hbt) (by simp; omega) (fun l hl => by
                    rcases List.mem_append.1 hl with h | h
                    · exact HL.out l h
                    · obtain ⟨p, h1, rfl⟩ := List.mem_map.1 h
                      exact bag_bound (HP.out p (HEm.out p h1))) HMo.out).mono ?_
                  rintro e w6 ⟨rfl, hb6⟩
                  rw [HM.out]
                  have hB6 := two hbt hb6
                  clear hb6
                  go_wp2_with fail
                  go_roundw
                  case rel => exact ⟨k + 1, by omega, by go_num, by rw [HStp.out]; rfl, hB6⟩
                  case measure => simp [intOf]; omega
        · rw [decide_eq_true (show sk < sb by omega)] at hbf
          have HStep := Lib.hid (show ∀ t, okS ls ps ms (listM k) = t → bestM (okS ls ps ms) (k + 1) = if t then some k else some b by
            intro t ht
            rw [HStep0.out, hbf, ht]
            rfl)
          have hA : (sk : Int) < (sb : Int) := by omega
          have hne : ¬ (sk : Int) = (sb : Int) := by omega
          clear hbf h
          go_wp2_with fail
          refine (size_any k hk1 _).mono ?_
          rintro e w2 ⟨rfl, hw2⟩
          rw [hw2, HSk.out]
          clear hw2 w2
          go_wp2_with fail
          refine (size_any b hb1 _).mono ?_
          rintro e w2 ⟨rfl, hw2⟩
          rw [hw2, HSb.out]
          clear hw2 w2
          go_wp2_with fail
          refine (size_any k hk1 _).mono ?_
          rintro e w2 ⟨rfl, hw2⟩
          rw [hw2, HSk.out]
          clear hw2 w2
          go_wp2_with fail
          refine (size_any b hb1 _).mono ?_
          rintro e w2 ⟨rfl, hw2⟩
          rw [hw2, HSb.out]
          clear hw2 w2
          have hBc := hbr
          go_wp2_with (at_builtin; refine wpList_plain rfl fun _ hK => wp_append_ld (.tmp 84) (.tmp 85) rfl w.heap.size _ _ [] ls rfl (own_none cur _ _ _ hBc.size) rfl (ldLater HV.out (hBc.alloc hBc.size _)) (by simp; omega) (by have := hBc.size; simp; omega) ?_)
          intro v12 w5 ho5 hb5 hs5
          have hB5 : Below w.heap.size w w5 := (hBc.alloc hBc.size _).trans hb5
          have HO5 : Hid (w5.ownsRow w.heap.size 91 4 v12 (ls ++ ([] : List Pu).map bagL).length (spR ((ls ++ ([] : List Pu).map bagL).map Ld.row))) := Lib.hid (by simpa using ho5)
          apply hK
          clear hK ho5 hb5 hs5 hBc
          go_wp2_with fail
          go_loopw [12, 13] (fun v12 v13 wr => RtHead ls ps (listM k) w wr v12 v13) (fun _ v13 _ => ps.length - (intOf v13).toNat)
          case atStart => exact ⟨0, [], by omega, rfl, rfl, by simp, HO5.out, hB5⟩
          case round =>
            clear HO5 hB5
            obtain ⟨i, es, hi, rfl, he, hel, ho, hbt⟩ := hrel
            have HE := Lib.hid he
            have HO := Lib.hid ho
            clear he ho
            have hi0 : (0 : Int) ≤ (i : Int) := by omega
            by_cases hl2 : i < ps.length
            · obtain ⟨bk, off, c, rfl, hb, hc, hat⟩ := HQ.out.at hl2
              obtain ⟨c0, c1⟩ := PuAt.later hat hbt
              have hl2' : (i : Int) < (ps.length : Int) := by omega
              have hin : ((i : Int).toNat) = i := by omega
              have hbit := bit_and hk1 (show i < 10 by omega)
              have hhas := has_listM (m := k) (show i < 10 by omega)
              by_cases ht : k.testBit i = true
              · rw [if_pos ht] at hbit
                have HZ := Lib.hid (show es ++ keptP (listM k) (i + 1) (ps.drop (i + 1)) = keptP (listM k) 0 ps by
                  rw [← HE.out, drop_some hc, keptP, hhas, ht]
                  rfl)
                clear hc hat ht hhas c0 c1
                go_wp2_with fail
                go_roundw
                case rel => exact ⟨i + 1, es, by omega, by go_num, HZ.out, by omega, HO.out, hbt⟩
                case measure => simp [intOf]; omega
              · rw [if_neg ht] at hbit
                have HZ := Lib.hid (show (es ++ [c]) ++ keptP (listM k) (i + 1) (ps.drop (i + 1)) = keptP (listM k) 0 ps by
                  rw [← HE.out, drop_some hc, keptP, hhas, if_neg ht]
                  simp)
                have HC0 := Lib.hid c0
                have HC1 := Lib.hid c1
                have hbw : bk < wr.heap.size := World.block_lt_of_cell? _ _ c0
                clear hc hat ht hhas c0 c1
                go_wp2_with fail
                have hA : Below wr.heap.size wr wr.drew := below_drewN (Below.refl _ _) 1
                refine AnyV.start (Two 13 (fun w' => Below wr.heap.size wr w') 13 (fun _ => True)) 15 #[false, false, false, false, false, false, false, false, false, false, false, false, false, false, false] (by kernel_rfl) (by kernel_rfl) (by kernel_rfl) (fun _ => ⟨fun _ => hA, fun _ => trivial⟩) (fun _ => ?_)
                generalize World.drew wr = wd at hA ⊢
                refine AnyV.take 13 15 (i := 0) (oi := _) (v := ?_) rfl (by kernel_rfl) (by kernel_rfl) (by kernel_rfl) (by kernel_rfl) (by kernel_rfl) (fun _ _ _ h => h) (Two.other (by decide)) (Or.inl ⟨by kernel_rfl, ?_⟩) (Two.till (fun _ => hA) (fun _ => trivial)) (fun _ => ?_)
                rotate_left 1
                · intro wz hSw'; have hSw := hSw'.1 rfl; clear hSw'; skip; go_simp; try with_reducible rfl
                try simp only [Act.put, List.setIfInBounds_toArray, List.set_cons_zero, List.set_cons_succ]
                refine AnyV.take 13 15 (i := 1) (oi := _) (v := ?_) rfl (by kernel_rfl) (by kernel_rfl) (by kernel_rfl) (by kernel_rfl) (by kernel_rfl) (fun _ _ _ h => h) (Two.other (by decide)) (Or.inl ⟨by kernel_rfl, ?_⟩) (Two.till (fun _ => hA) (fun _ => trivial)) (fun _ => ?_)
                rotate_left 1
                · intro wz hSw'; have hSw := hSw'.1 rfl; clear hSw'; skip; go_simp; try with_reducible rfl
                try simp only [Act.put, List.setIfInBounds_toArray, List.set_cons_zero, List.set_cons_succ]
                refine AnyV.take 13 15 (i := 2) (oi := _) (v := ?_) rfl (by kernel_rfl) (by kernel_rfl) (by kernel_rfl) (by kernel_rfl) (by kernel_rfl) (fun _ _ _ h => h) (Two.other (by decide)) (Or.inl ⟨by kernel_rfl, ?_⟩) (Two.till (fun _ => hA) (fun _ => trivial)) (fun _ => ?_)
                rotate_left 1
                · intro wz hSw'; have hSw := hSw'.1 rfl; clear hSw'; skip; go_simp; try with_reducible rfl
                try simp only [Act.put, List.setIfInBounds_toArray, List.set_cons_zero, List.set_cons_succ]
                refine AnyV.take 13 15 (i := 3) (oi := _) (v := ?_) rfl (by kernel_rfl) (by kernel_rfl) (by kernel_rfl) (by kernel_rfl) (by kernel_rfl) (fun _ _ _ h => h) (Two.other (by decide)) (Or.inl ⟨by kernel_rfl, ?_⟩) (Two.till (fun _ => hA) (fun _ => trivial)) (fun _ => ?_)
                rotate_left 1
                · intro wz hSw'; have hSw := hSw'.1 rfl; clear hSw'; skip; go_simp; try with_reducible rfl
                try simp only [Act.put, List.setIfInBounds_toArray, List.set_cons_zero, List.set_cons_succ]
                refine AnyV.take 13 15 (i := 4) (oi := _) (v := ?_) rfl (by kernel_rfl) (by kernel_rfl) (by kernel_rfl) (by kernel_rfl) (by kernel_rfl) (fun _ _ _ h => h) (Two.other (by decide)) (Or.inl ⟨by kernel_rfl, ?_⟩) (Two.till (fun _ => hA) (fun _ => trivial)) (fun _ => ?_)
                rotate_left 1
                · intro wz hSw'; have hSw := hSw'.1 rfl; clear hSw'; skip; go_simp; try with_reducible rfl
                try simp only [Act.put, List.setIfInBounds_toArray, List.set_cons_zero, List.set_cons_succ]
                refine AnyV.take 13 15 (i := 5) (oi := _) (v := ?_) rfl (by kernel_rfl) (by kernel_rfl) (by kernel_rfl) (by kernel_rfl) (by kernel_rfl) (fun _ _ _ h => h) (Two.other (by decide)) (Or.inl ⟨by kernel_rfl, ?_⟩) (Two.till (fun _ => hA) (fun _ => trivial)) (fun _ => ?_)
                rotate_left 1
                · intro wz hSw'; have hSw := hSw'.1 rfl; clear hSw'; have h1 := cell_later hSw HC0.out; go_simp; try with_reducible rfl
                try simp only [Act.put, List.setIfInBounds_toArray, List.set_cons_zero, List.set_cons_succ]
                refine AnyV.take 13 15 (i := 6) (oi := _) (v := ?_) rfl (by kernel_rfl) (by kernel_rfl) (by kernel_rfl) (by kernel_rfl) (by kernel_rfl) (fun _ _ _ h => h) (Two.other (by decide)) (Or.inl ⟨by kernel_rfl, ?_⟩) (Two.till (fun _ => hA) (fun _ => trivial)) (fun _ => ?_)
                rotate_left 1
                · intro wz hSw'; have hSw := hSw'.1 rfl; clear hSw'; skip; go_simp; try with_reducible rfl
                try simp only [Act.put, List.setIfInBounds_toArray, List.set_cons_zero, List.set_cons_succ]
                refine AnyV.take 13 15 (i := 7) (oi := _) (v := ?_) rfl (by kernel_rfl) (by kernel_rfl) (by kernel_rfl) (by kernel_rfl) (by kernel_rfl) (fun _ _ _ h => h) (Two.other (by decide)) (Or.inl ⟨by kernel_rfl, ?_⟩) (Two.till (fun _ => hA) (fun _ => trivial)) (fun _ => ?_)
                rotate_left 1
                · intro wz hSw'; have hSw := hSw'.1 rfl; clear hSw'; skip; go_simp; try with_reducible rfl
                try simp only [Act.put, List.setIfInBounds_toArray, List.set_cons_zero, List.set_cons_succ]
                refine AnyV.take 13 15 (i := 8) (oi := _) (v := ?_) rfl (by kernel_rfl) (by kernel_rfl) (by kernel_rfl) (by kernel_rfl) (by kernel_rfl) (fun _ _ _ h => h) (Two.other (by decide)) (Or.inl ⟨by kernel_rfl, ?_⟩) (Two.till (fun _ => hA) (fun _ => trivial)) (fun _ => ?_)
                rotate_left 1
                · intro wz hSw'; have hSw := hSw'.1 rfl; clear hSw'; skip; go_simp; try with_reducible rfl
                try simp only [Act.put, List.setIfInBounds_toArray, List.set_cons_zero, List.set_cons_succ]
                refine AnyV.take 13 15 (i := 9) (oi := _) (v := ?_) rfl (by kernel_rfl) (by kernel_rfl) (by kernel_rfl) (by kernel_rfl) (by kernel_rfl) (fun _ _ _ h => h) (Two.other (by decide)) (Or.inl ⟨by kernel_rfl, ?_⟩) (Two.till (fun _ => hA) (fun _ => trivial)) (fun _ => ?_)
                rotate_left 1
                · intro wz hSw'; have hSw := hSw'.1 rfl; clear hSw'; skip; go_simp; try with_reducible rfl
                try simp only [Act.put, List.setIfInBounds_toArray, List.set_cons_zero, List.set_cons_succ]
                refine AnyV.take 13 15 (i := 10) (oi := _) (v := ?_) rfl (by kernel_rfl) (by kernel_rfl) (by kernel_rfl) (by kernel_rfl) (by kernel_rfl) (fun _ _ _ h => h) (Two.other (by decide)) (Or.inl ⟨by kernel_rfl, ?_⟩) (Two.till (fun _ => hA) (fun _ => trivial)) (fun _ => ?_)
                rotate_left 1
                · intro wz hSw'; have hSw := hSw'.1 rfl; clear hSw'; have h1 := cell_later hSw HC1.out; go_simp; try with_reducible rfl
                try simp only [Act.put, List.setIfInBounds_toArray, List.set_cons_zero, List.set_cons_succ]
                refine AnyV.one (i := 11) (o := _) rfl (by kernel_rfl) (fun K hK => ?_)
                go_simp
                refine (exactly_any c _).mono ?_
                rintro e w6 ⟨rfl, hb6⟩
                replace hA := two hA hb6
                clear hb6
                go_wp2_with fail
                refine hK.out _ _ (Two.till (fun _ => hA) (fun _ => trivial)) ?_
                clear hK K
                try simp only [Act.put, List.setIfInBounds_toArray, List.set_cons_zero, List.set_cons_succ]
                refine AnyV.one (i := 12) (o := _) rfl (by kernel_rfl) (fun K hK => ?_)
                go_simp
                have hA7 := hA.alloc hA.size (.cells #[.int .i64 c.p, .int .i64 c.p, .int .i64 c.w, .int .i64 c.w] 91)
                have hon7 := own_below HO.out hA7
                refine hK.out _ _ (Two.till (fun _ => hA7) (fun _ => trivial)) ?_
                clear hK K
                try simp only [Act.put, List.setIfInBounds_toArray, List.set_cons_zero, List.set_cons_succ]
                refine AnyV.one (i := 13) (o := _) rfl (by kernel_rfl) (fun K hK => ?_)
                rw [if_pos (by kernel_rfl)]
                refine wp_append_ld (.tmp 98) (.tmp 110) rfl w.heap.size _ _ (ls ++ es.map bagL) [bagL c] rfl hon7 rfl (ld_one w6 (bagL c) _) (by simp; omega) (Nat.le_trans hbt.size hA7.size) ?_
                intro v7 w7 ho7 hb7 hs7
                refine hK.out _ _ (Two.till (fun h => absurd h (by decide)) (fun _ => trivial)) ?_
                clear hK K
                try simp only [Act.put, List.setIfInBounds_toArray, List.set_cons_zero, List.set_cons_succ]
                have hB7 : Below w.heap.size w w7 := (hbt.trans (hA7.mono hbt.size)).trans hb7
                have e9 : ls ++ es.map bagL ++ [bagL c] = ls ++ (es ++ [c]).map bagL := by simp
                rw [e9] at ho7
                have HO7 := Lib.hid ho7
                clear ho7 hb7 hs7 hon7 hA hA7 e9
                refine AnyV.one (i := 14) (o := _) rfl (by kernel_rfl) (fun K hK => ?_)
                go_simp
                refine hK.out _ _ (Two.till (fun h => absurd h (by decide)) (fun _ => trivial)) ?_
                clear hK K
                refine AnyV.done (by kernel_rfl) ?_
                try simp only [Act.put, List.setIfInBounds_toArray, List.set_cons_zero, List.set_cons_succ]
                go_wp2_with fail
                go_roundw
                case rel => exact ⟨i + 1, es ++ [c], by omega, by go_num, HZ.out, by simp; omega, HO7.out, hB7⟩
                case measure => simp [intOf]; omega
            · have hl2' : ¬ (i : Int) < (ps.length : Int) := by omega
              have hes : es = keptP (listM k) 0 ps := by rw [← HE.out, drop_none hl2, keptP, List.append_nil]
              have hall := Lib.hid (ld_own HO.out (by simp; omega))
              have hbk := brk_ok ls ps ms (listM k)
              rw [← hes] at hbk
              obtain ⟨M, hM⟩ : ∃ M, brk (ls ++ es.map bagL) 0 ms = M := ⟨_, rfl⟩
              rw [hM] at hbk
              have HM := Lib.hid hM
              have HEm := Lib.hid (show ∀ p, p ∈ es → p ∈ ps from fun p hp => keptP_mem (listM k) ps 0 p (by rw [← hes]; exact hp))
              have hel2 : es.length ≤ ps.length := by omega
              clear hM hes
              obtain ⟨t, ht⟩ : ∃ t, okS ls ps ms (listM k) = t := ⟨_, rfl⟩
              rw [ht] at hbk
              have HStp := Lib.hid (HStep.out t ht)
              clear ht
              cases t
              · have hM0 : ¬ M < 0 := by simpa using hbk
                clear hbk
                go_wp2_with fail
                refine (rbroken_any _ u (ls ++ es.map bagL) ms _ hall.out (liLater HU.out hbt) (by simp; omega) (fun l hl => by
                  rcases List.mem_append.1 hl with h | h
                  · exact HL.out l h
                  · obtain ⟨p, h1, rfl⟩ := List.mem_map.1 h
                    exact bag_bound (HP.out p (HEm.out p h1))) HMo.out).mono ?_
                rintro e w6 ⟨rfl, hb6⟩
                rw [HM.out]
                have hB6 := two hbt hb6
                clear hb6
                go_wp2_with fail
                go_roundw
                case rel => exact ⟨k + 1, by omega, by go_num, by rw [HStp.out]; rfl, hB6⟩
                case measure => simp [intOf]; omega
              · have hM0 : M < 0 := by simpa using hbk
                clear hbk
                go_wp2_with fail
                refine (rbroken_any _ u (ls ++ es.map bagL) ms _ hall.out (liLater HU.out hbt) (by simp; omega) (fun l hl => by
                  rcases List.mem_append.1 hl with h | h
                  · exact HL.out l h
                  · obtain ⟨p, h1, rfl⟩ := List.mem_map.1 h
                    exact bag_bound (HP.out p (HEm.out p h1))) HMo.out).mono ?_
                rintro e w6 ⟨rfl, hb6⟩
                rw [HM.out]
                have hB6 := two hbt hb6
                clear hb6
                go_wp2_with fail
                go_roundw
                case rel => exact ⟨k + 1, by omega, by go_num, by rw [HStp.out]; rfl, hB6⟩
                case measure => simp [intOf]; omega
end Go.Proofs.Ytldnpnplgfkebaa
