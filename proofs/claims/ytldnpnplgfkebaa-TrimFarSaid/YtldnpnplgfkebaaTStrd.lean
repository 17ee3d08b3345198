/- Package trim: bears, Strained. -/
import Derived.Test.YtldnpnplgfkebaaTStr
import Derived.Test.YtldnpnplgfkebaaTInts
import Derived.Test.YtldnpnplgfkebaaTail4
import Derived.Test.YtldnpnplgfkebaaTWo
namespace Go.Proofs.Ytldnpnplgfkebaa
open Go.RowKit

set_option maxHeartbeats 400000 in
theorem bears_any (m a b : Int) (w : World) (h0 : 0 ≤ m) (h1 : m ≤ 10000000000000000) : Calls Try.prog 81 #[.int .i64 m, sp a b] w fun e w' => e = .returned (.bool (spB a b (-m) m)) ∧ Below w.heap.size w w' := by
  have e1 : IntKind.i64.wrap (-m) = -m := IntWalk.i64_in _ ⟨by omega, by omega⟩
  go_enter Try.func81, Try.ntmps81
  go_wp2_with fail
  refine (inOrder4 _ (-m) a b m _ (by go_cell) (by go_cell) (by go_cell) (by go_cell)).mono ?_
  rintro e w1 ⟨rfl, hb1⟩
  obtain ⟨hB, hc, hf⟩ := after (w := w) (by go_grown) hb1
  obtain ⟨u, hu⟩ : ∃ u, spB a b (-m) m = u := ⟨_, rfl⟩
  rw [hu]
  go_wp2_with fail
  go_returns
  exact ⟨ret_bool hu.symm, hB⟩
/-- Whether loads strain a frame. -/
def bearsS (ls : List Ld) (f : Fr) : Bool := spB (shearS f.p ls).1 (shearS f.p ls).2 (-f.s) f.s
def bearsB (ls : List Ld) (f : Fr) : Bool := spB (bendS f.p ls).1 (bendS f.p ls).2 (-f.b) f.b
def strB (ls : List Ld) (f : Fr) : Bool := !(bearsS ls f) || !(bearsB ls f)
def strI (ls : List Ld) : Nat → List Fr → List Int
  | _, [] => []
  | i, f :: fs => if strB ls f then (i : Int) :: strI ls (i + 1) fs else strI ls (i + 1) fs
theorem strI_len (ls : List Ld) : ∀ (fs : List Fr) (i : Nat), (strI ls i fs).length ≤ fs.length
  | [], _ => by simp [strI]
  | f :: fs, i => by
    have := strI_len ls fs (i + 1)
    unfold strI
    split
    · simp; omega
    · simp; omega
/-- The error of loads, then of frames. -/
def strN (ls : List Ld) (fs : List Fr) : Int := if loadsN ls = 0 then framesN fs else loadsN ls
def strL (ls : List Ld) (fs : List Fr) : List Int := if strN ls fs = 0 then strI ls 0 fs else []
theorem frames_ok {fs : List Fr} (h : framesN fs = 0) : fs.length ≤ 12 ∧ fs.all Fr.ok = true := by
  unfold framesN listN at h
  split at h
  · omega
  · split at h
    · exact ⟨by omega, by assumption⟩
    · omega
theorem Fr.bound {f : Fr} (h : f.ok = true) : (-20000 ≤ f.p ∧ f.p ≤ 20000) ∧ (0 ≤ f.s ∧ f.s ≤ 1000000000000) ∧ 0 ≤ f.b ∧ f.b ≤ 10000000000000000 := by
  unfold Fr.ok at h
  rw [Bool.and_eq_true, Bool.and_eq_true, inB_iff, inB_iff, inB_iff] at h
  exact ⟨h.1.1, h.1.2, h.2⟩
/-- What Strained returns. -/
def StP (ls : List Ld) (fs : List Fr) (w : World) (e : Ending) (w' : World) : Prop := ∃ u, e = .returned (.tuple #[u, .int .i64 (strN ls fs)]) ∧ SlI w' u (strL ls fs) ∧ Below w.heap.size w w'
/-- The head of the loop: what has been found, and what is left. -/
def StHead (ls : List Ld) (fs : List Fr) (w wr : World) (v8 v24 : Value) : Prop := ∃ (k : Nat) (zs : List Int), k ≤ fs.length ∧ v24 = .int .i64 k ∧ zs ++ strI ls k (fs.drop k) = strI ls 0 fs ∧ zs.length ≤ k ∧ wr.ownsRow w.heap.size 3 1 v8 zs.length (spI zs) ∧ Below w.heap.size w wr
set_option linter.unusedSimpArgs false in
set_option maxRecDepth 100000 in
set_option maxHeartbeats 8000000 in
theorem strained_any (v uf : Value) (ls : List Ld) (fs : List Fr) (w : World) (hv : SlLd w v ls) (hf : SlFr w uf fs) : Calls Try.prog 36 #[v, uf] w (StP ls fs w) := by
  obtain ⟨ad, cap, rfl, hlen, hcap⟩ := hf.form
  have HV := Lib.hid hv
  have HFs := Lib.hid hf
  obtain ⟨n, hn⟩ : ∃ n, loadsN ls = n := ⟨_, rfl⟩
  obtain ⟨m, hm⟩ : ∃ n, framesN fs = n := ⟨_, rfl⟩
  have HN := Lib.hid hn
  have HM := Lib.hid hm
  clear hv hf
  by_cases h0 : n = 0
  rotate_left 1
  · have HE := Lib.hid (show strN ls fs = n ∧ strL ls fs = [] by unfold strL strN; rw [hn, if_neg h0, if_neg h0]; exact ⟨rfl, rfl⟩)
    clear hn hm
    go_enter Try.func36, Try.ntmps36
    go_wp2_with fail
    refine (checkLd_any v ls _ HV.out).mono ?_
    rintro e w1 ⟨rfl, hb1⟩
    rw [HN.out]
    go_wp2_with fail
    refine bodyPost_ret (v := .tuple #[.slice none 0 0, .int .i64 n]) (by simp [results, Try.results36, go_sem, *]) rfl ⟨.slice none 0 0, ?_, ?_, hb1⟩
    · rw [HE.out.1]
    · rw [HE.out.2]; exact .inl ⟨rfl, rfl⟩
  subst h0
  by_cases h1 : m = 0
  rotate_left 1
  · have HE := Lib.hid (show strN ls fs = m ∧ strL ls fs = [] by unfold strL strN; rw [hn, hm, if_pos rfl, if_neg h1]; exact ⟨rfl, rfl⟩)
    clear hn hm
    go_enter Try.func36, Try.ntmps36
    go_wp2_with fail
    refine (checkLd_any v ls _ HV.out).mono ?_
    rintro e w1 ⟨rfl, hb1⟩
    rw [HN.out]
    go_wp2_with fail
    refine (checkFr_any _ fs _ (frLater HFs.out hb1)).mono ?_
    rintro e w2 ⟨rfl, hb2⟩
    rw [HM.out]
    have hB2 := two hb1 hb2
    clear hb1 hb2
    go_wp2_with fail
    refine bodyPost_ret (v := .tuple #[.slice none 0 0, .int .i64 m]) (by simp [results, Try.results36, go_sem, *]) rfl ⟨.slice none 0 0, ?_, ?_, hB2⟩
    · rw [HE.out.1]
    · rw [HE.out.2]; exact .inl ⟨rfl, rfl⟩
  subst h1
  obtain ⟨h40, hok⟩ := loadsN_ok hn
  obtain ⟨h12, hfo⟩ := frames_ok hm
  have HE := Lib.hid (show strN ls fs = 0 ∧ strL ls fs = strI ls 0 fs by unfold strL strN; rw [hn, hm, if_pos rfl, if_pos rfl]; exact ⟨rfl, rfl⟩)
  have HLa := Lib.hid (show ∀ l, l ∈ ls → l.ok = true from fun l hl => List.all_eq_true.1 hok l hl)
  have HFo := Lib.hid hfo
  clear hn hm hok hfo
  obtain ⟨i0, hi, hz0, hz1, hz2⟩ := info_parts (P := Try.prog) (e := 3) (z := .int .i64 0) (size := 1) (bytes := 8) (by kernel_rfl)
  have HI0 := Lib.hid hi
  have HZ0 := Lib.hid hz0
  have HZ1 := Lib.hid hz1
  have HZ2 := Lib.hid hz2
  clear hi hz0 hz1 hz2
  go_enter Try.func36, Try.ntmps36
  go_wp2_with fail
  refine (checkLd_any v ls _ HV.out).mono ?_
  rintro e w1 ⟨rfl, hb1⟩
  rw [HN.out]
  go_wp2_with fail
  refine (checkFr_any _ fs _ (frLater HFs.out hb1)).mono ?_
  rintro e w2 ⟨rfl, hb2⟩
  rw [HM.out]
  have hB2 := two hb1 hb2
  clear hb1 hb2
  go_wp2_with fail
  go_loopw [8, 24] (fun v8 v24 wr => StHead ls fs w wr v8 v24) (fun _ v24 _ => fs.length - (intOf v24).toNat)
  case atStart => exact ⟨0, [], by omega, rfl, rfl, by simp, own_no _ _ _ _, hB2⟩
  case round =>
    obtain ⟨k, zs, hk, rfl, hzs, hzl, hown, hbr⟩ := hrel
    have HZs := Lib.hid hzs
    have HO := Lib.hid hown
    clear hzs hown hB2
    by_cases hlt : k < fs.length
    rotate_left 1
    · have hfin : zs = strI ls 0 fs := by have := HZs.out; rw [drop_none hlt] at this; simpa [strI] using this
      have HFin := Lib.hid hfin
      clear hfin
      go_wp2_with fail
      refine bodyPost_ret (v := .tuple #[u8, .int .i64 0]) (by simp [results, Try.results36, go_sem, *]) rfl ⟨u8, ?_, ?_, hbr⟩
      · rw [HE.out.1]
      · rw [HE.out.2, ← HFin.out]; exact SlI.of HO.out (by omega)
    obtain ⟨bk, off, f, rfl, hb, hc, hat⟩ := HFs.out.at hlt
    obtain ⟨c0, c1, c2⟩ := FrAt.later hat (show Below w.heap.size w wr from hbr)
    obtain ⟨⟨fp0, fp1⟩, ⟨fs0, fs1⟩, fb0, fb1⟩ := Fr.bound (List.all_eq_true.1 HFo.out f (List.mem_of_getElem? hc))
    have hlt' : (k : Int) < (fs.length : Int) := by omega
    have hk0 : (0 : Int) ≤ (k : Int) := by omega
    have HC := Lib.hid hc
    have hsz := hbr.size
    have HLb := Lib.hid (astern_all HLa.out fp0 fp1)
    obtain ⟨i1, i2⟩ := shear_is HLa.out fp0 fp1
    obtain ⟨i3, i4⟩ := bend_is (at' := f.p) HLa.out
    obtain ⟨sa, hsa⟩ : ∃ x, (shearS f.p ls).1 = x := ⟨_, rfl⟩
    obtain ⟨sb, hsb⟩ : ∃ x, (shearS f.p ls).2 = x := ⟨_, rfl⟩
    obtain ⟨ba, hba⟩ : ∃ x, (bendS f.p ls).1 = x := ⟨_, rfl⟩
    obtain ⟨bb, hbb⟩ : ∃ x, (bendS f.p ls).2 = x := ⟨_, rfl⟩
    have HI := Lib.hid (And.intro (i1.trans hsa) (And.intro (i2.trans hsb) (And.intro (i3.trans hba) (i4.trans hbb))))
    obtain ⟨s1, hs1⟩ : ∃ x, bearsS ls f = x := ⟨_, rfl⟩
    obtain ⟨s2, hs2⟩ : ∃ x, bearsB ls f = x := ⟨_, rfl⟩
    have HS1 := Lib.hid (show spB sa sb (-f.s) f.s = s1 by rw [← hs1, ← hsa, ← hsb]; rfl)
    have HS2 := Lib.hid (show spB ba bb (-f.b) f.b = s2 by rw [← hs2, ← hba, ← hbb]; rfl)
    have HStr := Lib.hid (show strB ls f = (!s1 || !s2) by unfold strB; rw [hs1, hs2])
    clear hc hat i1 i2 i3 i4 hsa hsb hba hbb hs1 hs2
    go_wp2_with fail
    refine (astern_any f.p v ls _ (ldLater HV.out (by go_grown)) (by omega) HLa.out fp0 fp1).mono ?_
    rintro e W ⟨u, rfl, hu, hb1⟩
    have hb11 : Below wr.heap.size wr W := two (W := wr) (by go_grown) hb1
    have hBW := hbr.trans (hb11.mono hbr.size)
    have HF3 := Lib.hid (show Three W wr.heap.size f.p f.s f.b from Three.later ⟨by go_cell, by go_cell, by go_cell⟩ hb1)
    have HUW := Lib.hid hu
    have HOW := Lib.hid (own_below HO.out hb11)
    clear hb1 hb11 c0 c1 c2 hu HO
    cases s1 with
    | false =>
      go_wp2_with fail
      have hA : Below W.heap.size W W.drew := below_drewN (Below.refl _ _) 1
      refine AnyV.start (Two 13 (fun w' => Below W.heap.size W w') 13 (fun _ => True)) 14 #[false, false, false, false, false, false, false, false, false, false, false, false, false, false] (by kernel_rfl) (by kernel_rfl) (by kernel_rfl) (fun _ => ⟨fun _ => hA, fun _ => trivial⟩) (fun _ => ?_)
      generalize World.drew W = wd at hA ⊢
      refine AnyV.take 13 14 (i := 0) (oi := _) (v := ?_) rfl (by kernel_rfl) (by kernel_rfl) (by kernel_rfl) (by kernel_rfl) (by kernel_rfl) (fun _ _ _ h => h) (Two.other (by decide)) (Or.inl ⟨by kernel_rfl, ?_⟩) (Two.till (fun _ => hA) (fun _ => trivial)) (fun _ => ?_)
      rotate_left 1
      · intro wz hSw'; have hSw := HF3.out.later (hSw'.1 rfl); clear hSw'; skip; go_simp; try with_reducible rfl
      try simp only [Act.put, List.setIfInBounds_toArray, List.set_cons_zero, List.set_cons_succ]
      refine AnyV.take 13 14 (i := 1) (oi := _) (v := ?_) rfl (by kernel_rfl) (by kernel_rfl) (by kernel_rfl) (by kernel_rfl) (by kernel_rfl) (fun _ _ _ h => h) (Two.other (by decide)) (Or.inl ⟨by kernel_rfl, ?_⟩) (Two.till (fun _ => hA) (fun _ => trivial)) (fun _ => ?_)
      rotate_left 1
      · intro wz hSw'; have hSw := HF3.out.later (hSw'.1 rfl); clear hSw'; have q1 := hSw.c1; go_simp; try with_reducible rfl
      try simp only [Act.put, List.setIfInBounds_toArray, List.set_cons_zero, List.set_cons_succ]
      refine AnyV.take 13 14 (i := 2) (oi := _) (v := ?_) rfl (by kernel_rfl) (by kernel_rfl) (by kernel_rfl) (by kernel_rfl) (by kernel_rfl) (fun _ _ _ h => h) (Two.other (by decide)) (Or.inl ⟨by kernel_rfl, ?_⟩) (Two.till (fun _ => hA) (fun _ => trivial)) (fun _ => ?_)
      rotate_left 1
      · intro wz hSw'; have hSw := HF3.out.later (hSw'.1 rfl); clear hSw'; skip; go_simp; try with_reducible rfl
      try simp only [Act.put, List.setIfInBounds_toArray, List.set_cons_zero, List.set_cons_succ]
      refine AnyV.one (i := 3) (o := _) rfl (by kernel_rfl) (fun K hK => ?_)
      go_simp
      refine (heavinessOf_any u (ls.map (asternL f.p)) _ (ldLater HUW.out hA) (by simp; omega) HLb.out).mono ?_
      rintro e w6 ⟨rfl, hb6⟩
      replace hA := two hA hb6
      clear hb6
      rw [HI.out.1, HI.out.2.1]
      go_wp2_with fail
      refine hK.out _ _ (Two.till (fun _ => hA) (fun _ => trivial)) ?_
      clear hK K
      try simp only [Act.put, List.setIfInBounds_toArray, List.set_cons_zero, List.set_cons_succ]
      refine AnyV.one (i := 4) (o := _) rfl (by kernel_rfl) (fun K hK => ?_)
      go_simp
      refine (bears_any f.s sa sb _ fs0 (by omega)).mono ?_
      rintro e w6 ⟨rfl, hb6⟩
      replace hA := two hA hb6
      clear hb6
      rw [show spB sa sb (-f.s) f.s = _ from HS1.out]
      go_wp2_with fail
      refine hK.out _ _ (Two.till (fun _ => hA) (fun _ => trivial)) ?_
      clear hK K
      try simp only [Act.put, List.setIfInBounds_toArray, List.set_cons_zero, List.set_cons_succ]
      refine AnyV.take 13 14 (i := 5) (oi := _) (v := ?_) rfl (by kernel_rfl) (by kernel_rfl) (by kernel_rfl) (by kernel_rfl) (by kernel_rfl) (fun _ _ _ h => h) (Two.other (by decide)) (Or.inl ⟨by kernel_rfl, ?_⟩) (Two.till (fun _ => hA) (fun _ => trivial)) (fun _ => ?_)
      rotate_left 1
      · intro wz hSw'; have hSw := HF3.out.later (hSw'.1 rfl); clear hSw'; skip; go_simp; try with_reducible rfl
      try simp only [Act.put, List.setIfInBounds_toArray, List.set_cons_zero, List.set_cons_succ]
      refine AnyV.take 13 14 (i := 6) (oi := _) (v := ?_) rfl (by kernel_rfl) (by kernel_rfl) (by kernel_rfl) (by kernel_rfl) (by kernel_rfl) (fun _ _ _ h => h) (Two.other (by decide)) (Or.inl ⟨by kernel_rfl, ?_⟩) (Two.till (fun _ => hA) (fun _ => trivial)) (fun _ => ?_)
      rotate_left 1
      · intro wz hSw'; have hSw := HF3.out.later (hSw'.1 rfl); clear hSw'; skip; go_simp; try with_reducible rfl
      try simp only [Act.put, List.setIfInBounds_toArray, List.set_cons_zero, List.set_cons_succ]
      refine AnyV.take 13 14 (i := 7) (oi := _) (v := undef) rfl (by kernel_rfl) (by kernel_rfl) (by kernel_rfl) (by kernel_rfl) (by kernel_rfl) (fun _ _ _ h => h) (Two.other (by decide)) (Or.inr ⟨by kernel_rfl, rfl⟩) (Two.till (fun _ => hA) (fun _ => trivial)) (fun _ => ?_)
      try simp only [Act.put, List.setIfInBounds_toArray, List.set_cons_zero, List.set_cons_succ]
      refine AnyV.take 13 14 (i := 8) (oi := _) (v := undef) rfl (by kernel_rfl) (by kernel_rfl) (by kernel_rfl) (by kernel_rfl) (by kernel_rfl) (fun _ _ _ h => h) (Two.other (by decide)) (Or.inr ⟨by kernel_rfl, rfl⟩) (Two.till (fun _ => hA) (fun _ => trivial)) (fun _ => ?_)
      try simp only [Act.put, List.setIfInBounds_toArray, List.set_cons_zero, List.set_cons_succ]
      refine AnyV.take 13 14 (i := 9) (oi := _) (v := undef) rfl (by kernel_rfl) (by kernel_rfl) (by kernel_rfl) (by kernel_rfl) (by kernel_rfl) (fun _ _ _ h => h) (Two.other (by decide)) (Or.inr ⟨by kernel_rfl, rfl⟩) (Two.till (fun _ => hA) (fun _ => trivial)) (fun _ => ?_)
      try simp only [Act.put, List.setIfInBounds_toArray, List.set_cons_zero, List.set_cons_succ]
      refine AnyV.take 13 14 (i := 10) (oi := _) (v := undef) rfl (by kernel_rfl) (by kernel_rfl) (by kernel_rfl) (by kernel_rfl) (by kernel_rfl) (fun _ _ _ h => h) (Two.other (by decide)) (Or.inr ⟨by kernel_rfl, rfl⟩) (Two.till (fun _ => hA) (fun _ => trivial)) (fun _ => ?_)
      try simp only [Act.put, List.setIfInBounds_toArray, List.set_cons_zero, List.set_cons_succ]
      refine AnyV.take 13 14 (i := 11) (oi := _) (v := undef) rfl (by kernel_rfl) (by kernel_rfl) (by kernel_rfl) (by kernel_rfl) (by kernel_rfl) (fun _ _ _ h => h) (Two.other (by decide)) (Or.inr ⟨by kernel_rfl, rfl⟩) (Two.till (fun _ => hA) (fun _ => trivial)) (fun _ => ?_)
      try simp only [Act.put, List.setIfInBounds_toArray, List.set_cons_zero, List.set_cons_succ]
      refine AnyV.take 13 14 (i := 12) (oi := _) (v := undef) rfl (by kernel_rfl) (by kernel_rfl) (by kernel_rfl) (by kernel_rfl) (by kernel_rfl) (fun _ _ _ h => h) (Two.other (by decide)) (Or.inr ⟨by kernel_rfl, rfl⟩) (Two.till (fun _ => hA) (fun _ => trivial)) (fun _ => ?_)
      try simp only [Act.put, List.setIfInBounds_toArray, List.set_cons_zero, List.set_cons_succ]
      refine AnyV.one (i := 13) (o := _) rfl (by kernel_rfl) (fun K hK => ?_)
      go_simp
      refine hK.out _ _ (Two.till (fun h => absurd h (by decide)) (fun _ => trivial)) ?_
      clear hK K
      refine AnyV.done (by kernel_rfl) ?_
      try simp only [Act.put, List.setIfInBounds_toArray, List.set_cons_zero, List.set_cons_succ]
      generalize w6 = cur at *
      have hown2 := own_below HOW.out hA
      have hBc : Below w.heap.size w cur := hBW.trans (hA.mono hBW.size)
      have hsc := hBc.size
      have hz9 : zs ++ [(k : Int)] ++ strI ls (k + 1) (fs.drop (k + 1)) = strI ls 0 fs := by
        rw [← HZs.out, drop_some HC.out, strI, HStr.out]
        simp
      have HZ9 := Lib.hid hz9
      clear hz9
      go_wp2_with (at_builtin; refine wpList_append_own _ rfl _ _ 63 rfl w.heap.size 3 i0 (.int .i64 0) 1 8 Try.underlying63 HI0.out HZ0.out HZ1.out HZ2.out rfl (by decide) _ _ _ rfl (hown2.alloc _) ⟨cur.heap.size, 0, none⟩ 1 1 [.int .i64 k] rfl rfl ?c1a ?c2a ?c3a ?c4a ?c5a ?_)
      case c1a => exact one_new _ _ _
      case c2a =>
        intro x hx
        simp at hx
        subst hx
        rfl
      case c3a => unfold maxLen; omega
      case c4a => omega
      case c5a => simp; omega
      intro v' w2 hown' hgrow hnil
      obtain ⟨hb2, hz2⟩ := grown_below hown2 (Below.refl w.heap.size cur) hsc hgrow
      have hBf : Below w.heap.size w w2 := hBc.trans hb2
      have HOf : Hid (w2.ownsRow w.heap.size 3 1 v' (zs ++ [(k : Int)]).length (spI (zs ++ [(k : Int)]))) := Lib.hid (by rw [spI_app, List.length_append]; exact hown')
      clear hown' hgrow hnil hown2 hb2
      go_wp2_with fail
      go_roundw
      case rel => exact ⟨k + 1, zs ++ [(k : Int)], by omega, by go_num, HZ9.out, by rw [List.length_append]; simp; omega, HOf.out, hBf⟩
      case measure => simp [intOf]; omega
    | true =>
      cases s2 with
      | false =>
        go_wp2_with fail
        have hA : Below W.heap.size W W.drew := below_drewN (Below.refl _ _) 1
        refine AnyV.start (Two 13 (fun w' => Below W.heap.size W w') 13 (fun _ => True)) 14 #[false, false, false, false, false, false, false, false, false, false, false, false, false, false] (by kernel_rfl) (by kernel_rfl) (by kernel_rfl) (fun _ => ⟨fun _ => hA, fun _ => trivial⟩) (fun _ => ?_)
        generalize World.drew W = wd at hA ⊢
        refine AnyV.take 13 14 (i := 0) (oi := _) (v := ?_) rfl (by kernel_rfl) (by kernel_rfl) (by kernel_rfl) (by kernel_rfl) (by kernel_rfl) (fun _ _ _ h => h) (Two.other (by decide)) (Or.inl ⟨by kernel_rfl, ?_⟩) (Two.till (fun _ => hA) (fun _ => trivial)) (fun _ => ?_)
        rotate_left 1
        · intro wz hSw'; have hSw := HF3.out.later (hSw'.1 rfl); clear hSw'; skip; go_simp; try with_reducible rfl
        try simp only [Act.put, List.setIfInBounds_toArray, List.set_cons_zero, List.set_cons_succ]
        refine AnyV.take 13 14 (i := 1) (oi := _) (v := ?_) rfl (by kernel_rfl) (by kernel_rfl) (by kernel_rfl) (by kernel_rfl) (by kernel_rfl) (fun _ _ _ h => h) (Two.other (by decide)) (Or.inl ⟨by kernel_rfl, ?_⟩) (Two.till (fun _ => hA) (fun _ => trivial)) (fun _ => ?_)
        rotate_left 1
        · intro wz hSw'; have hSw := HF3.out.later (hSw'.1 rfl); clear hSw'; have q1 := hSw.c1; go_simp; try with_reducible rfl
        try simp only [Act.put, List.setIfInBounds_toArray, List.set_cons_zero, List.set_cons_succ]
        refine AnyV.take 13 14 (i := 2) (oi := _) (v := ?_) rfl (by kernel_rfl) (by kernel_rfl) (by kernel_rfl) (by kernel_rfl) (by kernel_rfl) (fun _ _ _ h => h) (Two.other (by decide)) (Or.inl ⟨by kernel_rfl, ?_⟩) (Two.till (fun _ => hA) (fun _ => trivial)) (fun _ => ?_)
        rotate_left 1
        · intro wz hSw'; have hSw := HF3.out.later (hSw'.1 rfl); clear hSw'; skip; go_simp; try with_reducible rfl
        try simp only [Act.put, List.setIfInBounds_toArray, List.set_cons_zero, List.set_cons_succ]
        refine AnyV.one (i := 3) (o := _) rfl (by kernel_rfl) (fun K hK => ?_)
        go_simp
        refine (heavinessOf_any u (ls.map (asternL f.p)) _ (ldLater HUW.out hA) (by simp; omega) HLb.out).mono ?_
        rintro e w6 ⟨rfl, hb6⟩
        replace hA := two hA hb6
        clear hb6
        rw [HI.out.1, HI.out.2.1]
        go_wp2_with fail
        refine hK.out _ _ (Two.till (fun _ => hA) (fun _ => trivial)) ?_
        clear hK K
        try simp only [Act.put, List.setIfInBounds_toArray, List.set_cons_zero, List.set_cons_succ]
        refine AnyV.one (i := 4) (o := _) rfl (by kernel_rfl) (fun K hK => ?_)
        go_simp
        refine (bears_any f.s sa sb _ fs0 (by omega)).mono ?_
        rintro e w6 ⟨rfl, hb6⟩
        replace hA := two hA hb6
        clear hb6
        rw [show spB sa sb (-f.s) f.s = _ from HS1.out]
        go_wp2_with fail
        refine hK.out _ _ (Two.till (fun _ => hA) (fun _ => trivial)) ?_
        clear hK K
        try simp only [Act.put, List.setIfInBounds_toArray, List.set_cons_zero, List.set_cons_succ]
        refine AnyV.take 13 14 (i := 5) (oi := _) (v := ?_) rfl (by kernel_rfl) (by kernel_rfl) (by kernel_rfl) (by kernel_rfl) (by kernel_rfl) (fun _ _ _ h => h) (Two.other (by decide)) (Or.inl ⟨by kernel_rfl, ?_⟩) (Two.till (fun _ => hA) (fun _ => trivial)) (fun _ => ?_)
        rotate_left 1
        · intro wz hSw'; have hSw := HF3.out.later (hSw'.1 rfl); clear hSw'; skip; go_simp; try with_reducible rfl
        try simp only [Act.put, List.setIfInBounds_toArray, List.set_cons_zero, List.set_cons_succ]
        refine AnyV.take 13 14 (i := 6) (oi := _) (v := ?_) rfl (by kernel_rfl) (by kernel_rfl) (by kernel_rfl) (by kernel_rfl) (by kernel_rfl) (fun _ _ _ h => h) (Two.other (by decide)) (Or.inl ⟨by kernel_rfl, ?_⟩) (Two.till (fun _ => hA) (fun _ => trivial)) (fun _ => ?_)
        rotate_left 1
        · intro wz hSw'; have hSw := HF3.out.later (hSw'.1 rfl); clear hSw'; skip; go_simp; try with_reducible rfl
        try simp only [Act.put, List.setIfInBounds_toArray, List.set_cons_zero, List.set_cons_succ]
        refine AnyV.take 13 14 (i := 7) (oi := _) (v := ?_) rfl (by kernel_rfl) (by kernel_rfl) (by kernel_rfl) (by kernel_rfl) (by kernel_rfl) (fun _ _ _ h => h) (Two.other (by decide)) (Or.inl ⟨by kernel_rfl, ?_⟩) (Two.till (fun _ => hA) (fun _ => trivial)) (fun _ => ?_)
        rotate_left 1
        · intro wz hSw'; have hSw := HF3.out.later (hSw'.1 rfl); clear hSw'; skip; go_simp; try with_reducible rfl
        try simp only [Act.put, List.setIfInBounds_toArray, List.set_cons_zero, List.set_cons_succ]
        refine AnyV.take 13 14 (i := 8) (oi := _) (v := ?_) rfl (by kernel_rfl) (by kernel_rfl) (by kernel_rfl) (by kernel_rfl) (by kernel_rfl) (fun _ _ _ h => h) (Two.other (by decide)) (Or.inl ⟨by kernel_rfl, ?_⟩) (Two.till (fun _ => hA) (fun _ => trivial)) (fun _ => ?_)
        rotate_left 1
        · intro wz hSw'; have hSw := HF3.out.later (hSw'.1 rfl); clear hSw'; have q1 := hSw.c2; go_simp; try with_reducible rfl
        try simp only [Act.put, List.setIfInBounds_toArray, List.set_cons_zero, List.set_cons_succ]
        refine AnyV.take 13 14 (i := 9) (oi := _) (v := ?_) rfl (by kernel_rfl) (by kernel_rfl) (by kernel_rfl) (by kernel_rfl) (by kernel_rfl) (fun _ _ _ h => h) (Two.other (by decide)) (Or.inl ⟨by kernel_rfl, ?_⟩) (Two.till (fun _ => hA) (fun _ => trivial)) (fun _ => ?_)
        rotate_left 1
        · intro wz hSw'; have hSw := HF3.out.later (hSw'.1 rfl); clear hSw'; skip; go_simp; try with_reducible rfl
        try simp only [Act.put, List.setIfInBounds_toArray, List.set_cons_zero, List.set_cons_succ]
        refine AnyV.one (i := 10) (o := _) rfl (by kernel_rfl) (fun K hK => ?_)
        go_simp
        refine (momentOf_any u (ls.map (asternL f.p)) _ (ldLater HUW.out hA) (by simp; omega) HLb.out).mono ?_
        rintro e w6 ⟨rfl, hb6⟩
        replace hA := two hA hb6
        clear hb6
        rw [HI.out.2.2.1, HI.out.2.2.2]
        go_wp2_with fail
        refine hK.out _ _ (Two.till (fun _ => hA) (fun _ => trivial)) ?_
        clear hK K
        try simp only [Act.put, List.setIfInBounds_toArray, List.set_cons_zero, List.set_cons_succ]
        refine AnyV.one (i := 11) (o := _) rfl (by kernel_rfl) (fun K hK => ?_)
        go_simp
        refine (bears_any f.b ba bb _ fb0 (by omega)).mono ?_
        rintro e w6 ⟨rfl, hb6⟩
        replace hA := two hA hb6
        clear hb6
        rw [show spB ba bb (-f.b) f.b = _ from HS2.out]
        go_wp2_with fail
        refine hK.out _ _ (Two.till (fun _ => hA) (fun _ => trivial)) ?_
        clear hK K
        try simp only [Act.put, List.setIfInBounds_toArray, List.set_cons_zero, List.set_cons_succ]
        refine AnyV.take 13 14 (i := 12) (oi := _) (v := ?_) rfl (by kernel_rfl) (by kernel_rfl) (by kernel_rfl) (by kernel_rfl) (by kernel_rfl) (fun _ _ _ h => h) (Two.other (by decide)) (Or.inl ⟨by kernel_rfl, ?_⟩) (Two.till (fun _ => hA) (fun _ => trivial)) (fun _ => ?_)
        rotate_left 1
        · intro wz hSw'; have hSw := HF3.out.later (hSw'.1 rfl); clear hSw'; skip; go_simp; try with_reducible rfl
        try simp only [Act.put, List.setIfInBounds_toArray, List.set_cons_zero, List.set_cons_succ]
        refine AnyV.one (i := 13) (o := _) rfl (by kernel_rfl) (fun K hK => ?_)
        go_simp
        refine hK.out _ _ (Two.till (fun h => absurd h (by decide)) (fun _ => trivial)) ?_
        clear hK K
        refine AnyV.done (by kernel_rfl) ?_
        try simp only [Act.put, List.setIfInBounds_toArray, List.set_cons_zero, List.set_cons_succ]
        generalize w6 = cur at *
        have hown2 := own_below HOW.out hA
        have hBc : Below w.heap.size w cur := hBW.trans (hA.mono hBW.size)
        have hsc := hBc.size
        have hz9 : zs ++ [(k : Int)] ++ strI ls (k + 1) (fs.drop (k + 1)) = strI ls 0 fs := by
          rw [← HZs.out, drop_some HC.out, strI, HStr.out]
          simp
        have HZ9 := Lib.hid hz9
        clear hz9
        go_wp2_with (at_builtin; refine wpList_append_own _ rfl _ _ 63 rfl w.heap.size 3 i0 (.int .i64 0) 1 8 Try.underlying63 HI0.out HZ0.out HZ1.out HZ2.out rfl (by decide) _ _ _ rfl (hown2.alloc _) ⟨cur.heap.size, 0, none⟩ 1 1 [.int .i64 k] rfl rfl ?c1b ?c2b ?c3b ?c4b ?c5b ?_)
        case c1b => exact one_new _ _ _
        case c2b =>
          intro x hx
          simp at hx
          subst hx
          rfl
        case c3b => unfold maxLen; omega
        case c4b => omega
        case c5b => simp; omega
        intro v' w2 hown' hgrow hnil
        obtain ⟨hb2, hz2⟩ := grown_below hown2 (Below.refl w.heap.size cur) hsc hgrow
        have hBf : Below w.heap.size w w2 := hBc.trans hb2
        have HOf : Hid (w2.ownsRow w.heap.size 3 1 v' (zs ++ [(k : Int)]).length (spI (zs ++ [(k : Int)]))) := Lib.hid (by rw [spI_app, List.length_append]; exact hown')
        clear hown' hgrow hnil hown2 hb2
        go_wp2_with fail
        go_roundw
        case rel => exact ⟨k + 1, zs ++ [(k : Int)], by omega, by go_num, HZ9.out, by rw [List.length_append]; simp; omega, HOf.out, hBf⟩
        case measure => simp [intOf]; omega
      | true =>
        go_wp2_with fail
        have hA : Below W.heap.size W W.drew := below_drewN (Below.refl _ _) 1
        refine AnyV.start (Two 13 (fun w' => Below W.heap.size W w') 13 (fun _ => True)) 14 #[false, false, false, false, false, false, false, false, false, false, false, false, false, false] (by kernel_rfl) (by kernel_rfl) (by kernel_rfl) (fun _ => ⟨fun _ => hA, fun _ => trivial⟩) (fun _ => ?_)
        generalize World.drew W = wd at hA ⊢
        refine AnyV.take 13 14 (i := 0) (oi := _) (v := ?_) rfl (by kernel_rfl) (by kernel_rfl) (by kernel_rfl) (by kernel_rfl) (by kernel_rfl) (fun _ _ _ h => h) (Two.other (by decide)) (Or.inl ⟨by kernel_rfl, ?_⟩) (Two.till (fun _ => hA) (fun _ => trivial)) (fun _ => ?_)
        rotate_left 1
        · intro wz hSw'; have hSw := HF3.out.later (hSw'.1 rfl); clear hSw'; skip; go_simp; try with_reducible rfl
        try simp only [Act.put, List.setIfInBounds_toArray, List.set_cons_zero, List.set_cons_succ]
        refine AnyV.take 13 14 (i := 1) (oi := _) (v := ?_) rfl (by kernel_rfl) (by kernel_rfl) (by kernel_rfl) (by kernel_rfl) (by kernel_rfl) (fun _ _ _ h => h) (Two.other (by decide)) (Or.inl ⟨by kernel_rfl, ?_⟩) (Two.till (fun _ => hA) (fun _ => trivial)) (fun _ => ?_)
        rotate_left 1
        · intro wz hSw'; have hSw := HF3.out.later (hSw'.1 rfl); clear hSw'; have q1 := hSw.c1; go_simp; try with_reducible rfl
        try simp only [Act.put, List.setIfInBounds_toArray, List.set_cons_zero, List.set_cons_succ]
        refine AnyV.take 13 14 (i := 2) (oi := _) (v := ?_) rfl (by kernel_rfl) (by kernel_rfl) (by kernel_rfl) (by kernel_rfl) (by kernel_rfl) (fun _ _ _ h => h) (Two.other (by decide)) (Or.inl ⟨by kernel_rfl, ?_⟩) (Two.till (fun _ => hA) (fun _ => trivial)) (fun _ => ?_)
        rotate_left 1
        · intro wz hSw'; have hSw := HF3.out.later (hSw'.1 rfl); clear hSw'; skip; go_simp; try with_reducible rfl
        try simp only [Act.put, List.setIfInBounds_toArray, List.set_cons_zero, List.set_cons_succ]
        refine AnyV.one (i := 3) (o := _) rfl (by kernel_rfl) (fun K hK => ?_)
        go_simp
        refine (heavinessOf_any u (ls.map (asternL f.p)) _ (ldLater HUW.out hA) (by simp; omega) HLb.out).mono ?_
        rintro e w6 ⟨rfl, hb6⟩
        replace hA := two hA hb6
        clear hb6
        rw [HI.out.1, HI.out.2.1]
        go_wp2_with fail
        refine hK.out _ _ (Two.till (fun _ => hA) (fun _ => trivial)) ?_
        clear hK K
        try simp only [Act.put, List.setIfInBounds_toArray, List.set_cons_zero, List.set_cons_succ]
        refine AnyV.one (i := 4) (o := _) rfl (by kernel_rfl) (fun K hK => ?_)
        go_simp
        refine (bears_any f.s sa sb _ fs0 (by omega)).mono ?_
        rintro e w6 ⟨rfl, hb6⟩
        replace hA := two hA hb6
        clear hb6
        rw [show spB sa sb (-f.s) f.s = _ from HS1.out]
        go_wp2_with fail
        refine hK.out _ _ (Two.till (fun _ => hA) (fun _ => trivial)) ?_
        clear hK K
        try simp only [Act.put, List.setIfInBounds_toArray, List.set_cons_zero, List.set_cons_succ]
        refine AnyV.take 13 14 (i := 5) (oi := _) (v := ?_) rfl (by kernel_rfl) (by kernel_rfl) (by kernel_rfl) (by kernel_rfl) (by kernel_rfl) (fun _ _ _ h => h) (Two.other (by decide)) (Or.inl ⟨by kernel_rfl, ?_⟩) (Two.till (fun _ => hA) (fun _ => trivial)) (fun _ => ?_)
        rotate_left 1
        · intro wz hSw'; have hSw := HF3.out.later (hSw'.1 rfl); clear hSw'; skip; go_simp; try with_reducible rfl
        try simp only [Act.put, List.setIfInBounds_toArray, List.set_cons_zero, List.set_cons_succ]
        refine AnyV.take 13 14 (i := 6) (oi := _) (v := ?_) rfl (by kernel_rfl) (by kernel_rfl) (by kernel_rfl) (by kernel_rfl) (by kernel_rfl) (fun _ _ _ h => h) (Two.other (by decide)) (Or.inl ⟨by kernel_rfl, ?_⟩) (Two.till (fun _ => hA) (fun _ => trivial)) (fun _ => ?_)
        rotate_left 1
        · intro wz hSw'; have hSw := HF3.out.later (hSw'.1 rfl); clear hSw'; skip; go_simp; try with_reducible rfl
        try simp only [Act.put, List.setIfInBounds_toArray, List.set_cons_zero, List.set_cons_succ]
        refine AnyV.take 13 14 (i := 7) (oi := _) (v := ?_) rfl (by kernel_rfl) (by kernel_rfl) (by kernel_rfl) (by kernel_rfl) (by kernel_rfl) (fun _ _ _ h => h) (Two.other (by decide)) (Or.inl ⟨by kernel_rfl, ?_⟩) (Two.till (fun _ => hA) (fun _ => trivial)) (fun _ => ?_)
        rotate_left 1
        · intro wz hSw'; have hSw := HF3.out.later (hSw'.1 rfl); clear hSw'; skip; go_simp; try with_reducible rfl
        try simp only [Act.put, List.setIfInBounds_toArray, List.set_cons_zero, List.set_cons_succ]
        refine AnyV.take 13 14 (i := 8) (oi := _) (v := ?_) rfl (by kernel_rfl) (by kernel_rfl) (by kernel_rfl) (by kernel_rfl) (by kernel_rfl) (fun _ _ _ h => h) (Two.other (by decide)) (Or.inl ⟨by kernel_rfl, ?_⟩) (Two.till (fun _ => hA) (fun _ => trivial)) (fun _ => ?_)
        rotate_left 1
        · intro wz hSw'; have hSw := HF3.out.later (hSw'.1 rfl); clear hSw'; have q1 := hSw.c2; go_simp; try with_reducible rfl
        try simp only [Act.put, List.setIfInBounds_toArray, List.set_cons_zero, List.set_cons_succ]
        refine AnyV.take 13 14 (i := 9) (oi := _) (v := ?_) rfl (by kernel_rfl) (by kernel_rfl) (by kernel_rfl) (by kernel_rfl) (by kernel_rfl) (fun _ _ _ h => h) (Two.other (by decide)) (Or.inl ⟨by kernel_rfl, ?_⟩) (Two.till (fun _ => hA) (fun _ => trivial)) (fun _ => ?_)
        rotate_left 1
        · intro wz hSw'; have hSw := HF3.out.later (hSw'.1 rfl); clear hSw'; skip; go_simp; try with_reducible rfl
        try simp only [Act.put, List.setIfInBounds_toArray, List.set_cons_zero, List.set_cons_succ]
        refine AnyV.one (i := 10) (o := _) rfl (by kernel_rfl) (fun K hK => ?_)
        go_simp
        refine (momentOf_any u (ls.map (asternL f.p)) _ (ldLater HUW.out hA) (by simp; omega) HLb.out).mono ?_
        rintro e w6 ⟨rfl, hb6⟩
        replace hA := two hA hb6
        clear hb6
        rw [HI.out.2.2.1, HI.out.2.2.2]
        go_wp2_with fail
        refine hK.out _ _ (Two.till (fun _ => hA) (fun _ => trivial)) ?_
        clear hK K
        try simp only [Act.put, List.setIfInBounds_toArray, List.set_cons_zero, List.set_cons_succ]
        refine AnyV.one (i := 11) (o := _) rfl (by kernel_rfl) (fun K hK => ?_)
        go_simp
        refine (bears_any f.b ba bb _ fb0 (by omega)).mono ?_
        rintro e w6 ⟨rfl, hb6⟩
        replace hA := two hA hb6
        clear hb6
        rw [show spB ba bb (-f.b) f.b = _ from HS2.out]
        go_wp2_with fail
        refine hK.out _ _ (Two.till (fun _ => hA) (fun _ => trivial)) ?_
        clear hK K
        try simp only [Act.put, List.setIfInBounds_toArray, List.set_cons_zero, List.set_cons_succ]
        refine AnyV.take 13 14 (i := 12) (oi := _) (v := ?_) rfl (by kernel_rfl) (by kernel_rfl) (by kernel_rfl) (by kernel_rfl) (by kernel_rfl) (fun _ _ _ h => h) (Two.other (by decide)) (Or.inl ⟨by kernel_rfl, ?_⟩) (Two.till (fun _ => hA) (fun _ => trivial)) (fun _ => ?_)
        rotate_left 1
        · intro wz hSw'; have hSw := HF3.out.later (hSw'.1 rfl); clear hSw'; skip; go_simp; try with_reducible rfl
        try simp only [Act.put, List.setIfInBounds_toArray, List.set_cons_zero, List.set_cons_succ]
        refine AnyV.one (i := 13) (o := _) rfl (by kernel_rfl) (fun K hK => ?_)
        go_simp
        refine hK.out _ _ (Two.till (fun h => absurd h (by decide)) (fun _ => trivial)) ?_
        clear hK K
        refine AnyV.done (by kernel_rfl) ?_
        try simp only [Act.put, List.setIfInBounds_toArray, List.set_cons_zero, List.set_cons_succ]
        generalize w6 = cur at *
        have hown2 := own_below HOW.out hA
        have hBc : Below w.heap.size w cur := hBW.trans (hA.mono hBW.size)
        have hz9 : zs ++ strI ls (k + 1) (fs.drop (k + 1)) = strI ls 0 fs := by
          rw [← HZs.out, drop_some HC.out, strI, HStr.out]
          simp
        have HZ9 := Lib.hid hz9
        have HOf := Lib.hid hown2
        clear hz9 hown2
        go_wp2_with fail
        go_roundw
        case rel => exact ⟨k + 1, zs, by omega, by go_num, HZ9.out, by omega, HOf.out, hBc⟩
        case measure => simp [intOf]; omega
end Go.Proofs.Ytldnpnplgfkebaa
