/- The reference of layer 4: Strained. -/
import Derived.Test.YtmadkefpjoheeaaTRSt
import Derived.Test.YtmadkefpjoheeaaTStrd
namespace Go.Proofs.Ytmadkefpjoheeaa
open Go.RowKit

theorem sumE_le {α : Type} {f g : α → Int} : ∀ (l : List α), (∀ x, x ∈ l → f x ≤ g x) → sumE f l ≤ sumE g l
  | [], _ => Int.le_refl _
  | x :: l, h => by
    have h1 := sumE_le l (fun y hy => h y (List.mem_cons_of_mem _ hy))
    have h2 := h x (List.mem_cons_self ..)
    unfold sumE at h1 ⊢
    rw [List.map_cons, List.sum_cons, List.map_cons, List.sum_cons]
    omega
theorem ex_le (a b c d : Int) : exLo a b c d ≤ exHi a b c d := by unfold exLo exHi; omega
theorem shear_le (at' : Int) (ls : List Ld) : (shearS at' ls).1 ≤ (shearS at' ls).2 := sumE_le ls (fun _ _ => ex_le _ _ _ _)
theorem bend_le (at' : Int) (ls : List Ld) : (bendS at' ls).1 ≤ (bendS at' ls).2 := sumE_le ls (fun _ _ => ex_le _ _ _ _)
theorem str_iff (ls : List Ld) (f : Fr) : strB ls f = true ↔ f.s < (shearS f.p ls).2 ∨ (shearS f.p ls).1 < -f.s ∨ f.b < (bendS f.p ls).2 ∨ (bendS f.p ls).1 < -f.b := by
  have h1 := shear_le f.p ls
  have h2 := bend_le f.p ls
  unfold strB bearsS bearsB spB
  simp only [Bool.or_eq_true, Bool.not_eq_true', decide_eq_false_iff_not]
  omega
/-- A box of two numbers, made in a region of W. -/
theorem box_new {W cur : World} {t : TypeId} (hA : Below W.heap.size W cur) :
    ∃ w9 B, cur.alloc (.cells #[.int .i64 0, .int .i64 0] t) = w9 ∧ cur.heap.size = B ∧ Below W.heap.size W w9 ∧ Below cur.heap.size cur w9 ∧ Box2 w9 B 0 0 ∧ W.heap.size ≤ B :=
  ⟨_, _, rfl, rfl, hA.alloc hA.size _, (Below.refl _ _).alloc (Nat.le_refl _) _, ⟨by go_cell, by go_cell, by go_cell, by go_cell⟩, hA.size⟩
/-- Behind the region: shear and bending in boxes of their own. -/
def RsC (w wy : World) (v11 v12 : Value) (sa sb ba bb : Int) (F : Nat) (f : Fr) (v8 : Value) (zs : List Int) : Prop := ∃ B B' : Nat, v11 = .pointer (some ⟨B, 0, none⟩) ∧ v12 = .pointer (some ⟨B', 0, none⟩) ∧ Below w.heap.size w wy ∧ Two2 wy B sa sb ∧ Two2 wy B' ba bb ∧ Three wy F f.p f.s f.b ∧ wy.ownsRow w.heap.size 3 1 v8 zs.length (spI zs)
set_option linter.unusedSimpArgs false in
set_option maxRecDepth 100000 in
set_option maxHeartbeats 8000000 in
theorem rstrained_any (v uf : Value) (ls : List Ld) (fs : List Fr) (w : World) (hv : SlLd w v ls) (hf : SlFr w uf fs) : Calls Try.prog 37 #[v, uf] w (StP ls fs w) := by
  obtain ⟨ad, cap, rfl, hlen, hcap⟩ := hf.form
  have HV := Lib.hid hv
  have HFs := Lib.hid hf
  obtain ⟨n, hn⟩ : ∃ n, loadsN ls = n := ⟨_, rfl⟩
  obtain ⟨m, hm⟩ : ∃ n, framesN fs = n := ⟨_, rfl⟩
  have HN := Lib.hid hn
  have HM := Lib.hid hm
  clear hv hf
  by_cases h0 : n = 0
  rotate_left 1
  · have HE := Lib.hid (show strN ls fs = n ∧ strL ls fs = [] by unfold strL strN; rw [hn, if_neg h0, if_neg h0]; exact ⟨rfl, rfl⟩)
    clear hn hm
    go_enter Try.func37, Try.ntmps37
    go_wp2_with fail
    refine (rcheckLd_any v ls _ HV.out).mono ?_
    rintro e w1 ⟨rfl, hb1⟩
    rw [HN.out]
    go_wp2_with fail
    refine bodyPost_ret (v := .tuple #[.slice none 0 0, .int .i64 n]) (by simp [results, Try.results37, go_sem, *]) rfl ⟨.slice none 0 0, ?_, ?_, hb1⟩
    · rw [HE.out.1]
    · rw [HE.out.2]; exact .inl ⟨rfl, rfl⟩
  subst h0
  by_cases h1 : m = 0
  rotate_left 1
  · have HE := Lib.hid (show strN ls fs = m ∧ strL ls fs = [] by unfold strL strN; rw [hn, hm, if_pos rfl, if_neg h1]; exact ⟨rfl, rfl⟩)
    clear hn hm
    go_enter Try.func37, Try.ntmps37
    go_wp2_with fail
    refine (rcheckLd_any v ls _ HV.out).mono ?_
    rintro e w1 ⟨rfl, hb1⟩
    rw [HN.out]
    go_wp2_with fail
    refine (rcheckFr_any _ fs _ (frLater HFs.out hb1)).mono ?_
    rintro e w2 ⟨rfl, hb2⟩
    rw [HM.out]
    have hB2 := two hb1 hb2
    clear hb1 hb2
    go_wp2_with fail
    refine bodyPost_ret (v := .tuple #[.slice none 0 0, .int .i64 m]) (by simp [results, Try.results37, go_sem, *]) rfl ⟨.slice none 0 0, ?_, ?_, hB2⟩
    · rw [HE.out.1]
    · rw [HE.out.2]; exact .inl ⟨rfl, rfl⟩
  subst h1
  obtain ⟨h40, hok⟩ := loadsN_ok hn
  obtain ⟨h12, hfo⟩ := frames_ok hm
  have HE := Lib.hid (show strN ls fs = 0 ∧ strL ls fs = strI ls 0 fs by unfold strL strN; rw [hn, hm, if_pos rfl, if_pos rfl]; exact ⟨rfl, rfl⟩)
  have HLa := Lib.hid (show ∀ l, l ∈ ls → l.ok = true from fun l hl => List.all_eq_true.1 hok l hl)
  have HFo := Lib.hid hfo
  clear hn hm hok hfo
  obtain ⟨i0, hi, hz0, hz1, hz2⟩ := info_parts (P := Try.prog) (e := 3) (z := .int .i64 0) (size := 1) (bytes := 8) (by kernel_rfl)
  have HI0 := Lib.hid hi
  have HZ0 := Lib.hid hz0
  have HZ1 := Lib.hid hz1
  have HZ2 := Lib.hid hz2
  clear hi hz0 hz1 hz2
  go_enter Try.func37, Try.ntmps37
  go_wp2_with fail
  refine (rcheckLd_any v ls _ HV.out).mono ?_
  rintro e w1 ⟨rfl, hb1⟩
  rw [HN.out]
  go_wp2_with fail
  refine (rcheckFr_any _ fs _ (frLater HFs.out hb1)).mono ?_
  rintro e w2 ⟨rfl, hb2⟩
  rw [HM.out]
  have hB2 := two hb1 hb2
  clear hb1 hb2
  go_wp2_with fail
  go_loopw [8, 9] (fun v8 v9 wr => StHead ls fs w wr v8 v9) (fun _ v9 _ => fs.length - (intOf v9).toNat)
  case atStart => exact ⟨0, [], by omega, rfl, rfl, by simp, own_no _ _ _ _, hB2⟩
  case round =>
    obtain ⟨k, zs, hk, rfl, hzs, hzl, hown, hbr⟩ := hrel
    have HZs := Lib.hid hzs
    have HO := Lib.hid hown
    clear hzs hown hB2
    by_cases hlt : k < fs.length
    rotate_left 1
    · have hfin : zs = strI ls 0 fs := by have := HZs.out; rw [drop_none hlt] at this; simpa [strI] using this
      have HFin := Lib.hid hfin
      clear hfin
      go_wp2_with fail
      refine bodyPost_ret (v := .tuple #[u8, .int .i64 0]) (by simp [results, Try.results37, go_sem, *]) rfl ⟨u8, ?_, ?_, hbr⟩
      · rw [HE.out.1]
      · rw [HE.out.2, ← HFin.out]; exact SlI.of HO.out (by omega)
    obtain ⟨bk, off, f, rfl, hb, hc, hat⟩ := HFs.out.at hlt
    obtain ⟨c0, c1, c2⟩ := FrAt.later hat (show Below w.heap.size w wr from hbr)
    obtain ⟨⟨fp0, fp1⟩, ⟨fs0, fs1⟩, fb0, fb1⟩ := Fr.bound (List.all_eq_true.1 HFo.out f (List.mem_of_getElem? hc))
    have hlt' : (k : Int) < (fs.length : Int) := by omega
    have hk0 : (0 : Int) ≤ (k : Int) := by omega
    have HC := Lib.hid hc
    have hsz := hbr.size
    obtain ⟨sa, hsa⟩ : ∃ x, (shearS f.p ls).1 = x := ⟨_, rfl⟩
    obtain ⟨sb, hsb⟩ : ∃ x, (shearS f.p ls).2 = x := ⟨_, rfl⟩
    obtain ⟨ba, hba⟩ : ∃ x, (bendS f.p ls).1 = x := ⟨_, rfl⟩
    obtain ⟨bb, hbb⟩ : ∃ x, (bendS f.p ls).2 = x := ⟨_, rfl⟩
    have HI := Lib.hid (And.intro hsa (And.intro hsb (And.intro hba hbb)))
    have HSt := Lib.hid (show strB ls f = true ↔ f.s < sb ∨ sa < -f.s ∨ f.b < bb ∨ ba < -f.b by rw [← hsa, ← hsb, ← hba, ← hbb]; exact str_iff ls f)
    have e1 : IntKind.i64.wrap (-f.s) = -f.s := IntWalk.i64_in _ ⟨by omega, by omega⟩
    have e2 : IntKind.i64.wrap (-f.b) = -f.b := IntWalk.i64_in _ ⟨by omega, by omega⟩
    have E12 := Lib.hid (And.intro e1 e2)
    clear hc hat hsa hsb hba hbb e1 e2
    go_wp2_with fail
    go_cut [11, 12] from 33 to 72 (fun v11 v12 wy => RsC w wy v11 v12 sa sb ba bb wr.heap.size f u8 zs)
    case first =>
      obtain ⟨W, hW⟩ : ∃ W, wr.alloc (.cells #[.int .i64 f.p, .int .i64 f.s, .int .i64 f.b] 102) = W := ⟨_, rfl⟩
      have hbW : Below wr.heap.size wr W := by subst hW; go_grown
      have HF3 := Lib.hid (show Three W wr.heap.size f.p f.s f.b by subst hW; exact ⟨by go_cell, by go_cell, by go_cell⟩)
      have hBW := hbr.trans (hbW.mono hbr.size)
      have HVW := Lib.hid (ldLater HV.out hBW)
      have HOW := Lib.hid (own_below HO.out hbW)
      rw [hW]
      clear hW hbW
      have hA : Below W.heap.size W W.drew := below_drewN (Below.refl _ _) 1
      refine AnyT.begin (fun w' => Below W.heap.size W w') 11 (by kernel_rfl) hA (fun hHeld => ?_)
      generalize World.drew W = wd at hA hHeld ⊢
      refine AnyT.take (i := 0) (oi := _) (v := ?_) rfl (by kernel_rfl) (by kernel_rfl) (by kernel_rfl) (by kernel_rfl) (fun _ _ _ h => h) (Or.inl ⟨by kernel_rfl, ?_⟩) (by assumption) ?_
      rotate_left 1
      · intro wz hSw; skip; go_simp; try with_reducible rfl
      try simp only [Act.put, List.setIfInBounds_toArray, List.set_cons_zero, List.set_cons_succ]
      refine AnyT.take (i := 1) (oi := _) (v := ?_) rfl (by kernel_rfl) (by kernel_rfl) (by kernel_rfl) (by kernel_rfl) (fun _ _ _ h => h) (Or.inl ⟨by kernel_rfl, ?_⟩) (by assumption) ?_
      rotate_left 1
      · intro wz hSw; skip; go_simp; try with_reducible rfl
      try simp only [Act.put, List.setIfInBounds_toArray, List.set_cons_zero, List.set_cons_succ]
      refine AnyT.take (i := 2) (oi := _) (v := ?_) rfl (by kernel_rfl) (by kernel_rfl) (by kernel_rfl) (by kernel_rfl) (fun _ _ _ h => h) (Or.inl ⟨by kernel_rfl, ?_⟩) (by assumption) ?_
      rotate_left 1
      · intro wz hSw; have h1 := (HF3.out.later hSw).c0; go_simp; try with_reducible rfl
      try simp only [Act.put, List.setIfInBounds_toArray, List.set_cons_zero, List.set_cons_succ]
      refine AnyT.take (i := 4) (oi := _) (v := ?_) rfl (by kernel_rfl) (by kernel_rfl) (by kernel_rfl) (by kernel_rfl) (fun _ _ _ h => h) (Or.inl ⟨by kernel_rfl, ?_⟩) (by assumption) ?_
      rotate_left 1
      · intro wz hSw; skip; go_simp; try with_reducible rfl
      try simp only [Act.put, List.setIfInBounds_toArray, List.set_cons_zero, List.set_cons_succ]
      refine AnyT.take (i := 5) (oi := _) (v := ?_) rfl (by kernel_rfl) (by kernel_rfl) (by kernel_rfl) (by kernel_rfl) (fun _ _ _ h => h) (Or.inl ⟨by kernel_rfl, ?_⟩) (by assumption) ?_
      rotate_left 1
      · intro wz hSw; skip; go_simp; try with_reducible rfl
      try simp only [Act.put, List.setIfInBounds_toArray, List.set_cons_zero, List.set_cons_succ]
      refine AnyT.take (i := 6) (oi := _) (v := ?_) rfl (by kernel_rfl) (by kernel_rfl) (by kernel_rfl) (by kernel_rfl) (fun _ _ _ h => h) (Or.inl ⟨by kernel_rfl, ?_⟩) (by assumption) ?_
      rotate_left 1
      · intro wz hSw; have h1 := (HF3.out.later hSw).c0; go_simp; try with_reducible rfl
      try simp only [Act.put, List.setIfInBounds_toArray, List.set_cons_zero, List.set_cons_succ]
      clear hHeld
      refine AnyT.some [3, 8, 9] (by kernel_rfl) (by simp) (fun i hi => ?_)
      simp only [List.mem_cons, List.not_mem_nil, or_false] at hi
      rcases hi with rfl | rfl | rfl
      · skip
        refine AnyT.step (o := _) rfl (fun K hK => ?_)
        go_simp
        refine (rshear_any f.p v ls _ (ldLater HVW.out hA) (by omega) HLa.out fp0 fp1).mono ?_
        rintro e w6 ⟨rfl, hb6⟩
        rw [show sumE _ ls = sa from HI.out.1, show sumE _ ls = sb from HI.out.2.1]
        try replace nb6 := nb6.later hb6
        try replace nb7 := nb7.later hb6
        replace hA := two hA hb6
        clear hb6
        go_wp2_with fail
        refine hK.out _ _ (fun _ => hA) ?_
        clear hK K
        try simp only [Act.put, List.setIfInBounds_toArray, List.set_cons_zero, List.set_cons_succ]
        refine AnyT.some [7, 8, 9] (by kernel_rfl) (by simp) (fun i hi => ?_)
        simp only [List.mem_cons, List.not_mem_nil, or_false] at hi
        rcases hi with rfl | rfl | rfl
        · skip
          refine AnyT.step (o := _) rfl (fun K hK => ?_)
          go_simp
          refine (rbend_any f.p v ls _ (ldLater HVW.out hA) (by omega) HLa.out fp0 fp1).mono ?_
          rintro e w6 ⟨rfl, hb6⟩
          rw [show sumE _ ls = ba from HI.out.2.2.1, show sumE _ ls = bb from HI.out.2.2.2]
          try replace nb6 := nb6.later hb6
          try replace nb7 := nb7.later hb6
          replace hA := two hA hb6
          clear hb6
          go_wp2_with fail
          refine hK.out _ _ (fun _ => hA) ?_
          clear hK K
          try simp only [Act.put, List.setIfInBounds_toArray, List.set_cons_zero, List.set_cons_succ]
          refine AnyT.some [8, 9] (by kernel_rfl) (by simp) (fun i hi => ?_)
          simp only [List.mem_cons, List.not_mem_nil, or_false] at hi
          rcases hi with rfl | rfl
          · skip
            refine AnyT.step (o := _) rfl (fun K hK => ?_)
            go_simp
            obtain ⟨w9, B6, e9, f9, hA9, hb9, nb6, ge6⟩ := box_new (t := 37) hA
            try have hne : B7 < B6 := (by have h0 := nb7.lt; omega)
            rw [e9, f9]
            clear e9 f9 hA
            have hA := hA9
            clear hA9
            try replace nb7 := nb7.later hb9
            clear hb9
            refine hK.out _ _ (fun _ => hA) ?_
            clear hK K
            try simp only [Act.put, List.setIfInBounds_toArray, List.set_cons_zero, List.set_cons_succ]
            refine AnyT.one (i := 9) (o := _) rfl (by kernel_rfl) (fun K hK => ?_)
            go_simp
            obtain ⟨w9, B7, e9, f9, hA9, hb9, nb7, ge7⟩ := box_new (t := 37) hA
            try have hne : B6 < B7 := (by have h0 := nb6.lt; omega)
            rw [e9, f9]
            clear e9 f9 hA
            have hA := hA9
            clear hA9
            try replace nb6 := nb6.later hb9
            clear hb9
            refine hK.out _ _ (fun _ => hA) ?_
            clear hK K
            try simp only [Act.put, List.setIfInBounds_toArray, List.set_cons_zero, List.set_cons_succ]
            obtain ⟨x0, x1, xf0, xf1⟩ := nb6
            obtain ⟨y0, y1, yf0, yf1⟩ := nb7
            have hne1 : B6 ≠ B7 := by omega
            have hne2 : B7 ≠ B6 := by omega
            refine AnyT.one (i := 10) (o := _) rfl (by kernel_rfl) (fun K hK => ?_)
            go_simp
            refine hK.out _ _ (fun _ => by go_grown) ?_
            clear hK K
            try simp only [Act.put, List.setIfInBounds_toArray, List.set_cons_zero, List.set_cons_succ]
            refine AnyT.one (i := 11) (o := _) rfl (by kernel_rfl) (fun K hK => ?_)
            go_simp
            refine hK.out _ _ (fun h => absurd rfl h) ?_
            clear hK K
            refine AnyT.done (by kernel_rfl) ?_
            try simp only [Act.put, List.setIfInBounds_toArray, List.set_cons_zero, List.set_cons_succ]
            go_wp2_with fail
            go_meet
            case rel => exact ⟨B6, B7, rfl, rfl, hBW.trans (Below.mono (by go_grown : Below W.heap.size W _) hBW.size), ⟨by go_cell, by go_cell⟩, ⟨by go_cell, by go_cell⟩, HF3.out.later (by go_grown), own_below HOW.out (by go_grown)⟩
          · skip
            refine AnyT.step (o := _) rfl (fun K hK => ?_)
            go_simp
            obtain ⟨w9, B7, e9, f9, hA9, hb9, nb7, ge7⟩ := box_new (t := 37) hA
            try have hne : B6 < B7 := (by have h0 := nb6.lt; omega)
            rw [e9, f9]
            clear e9 f9 hA
            have hA := hA9
            clear hA9
            try replace nb6 := nb6.later hb9
            clear hb9
            refine hK.out _ _ (fun _ => hA) ?_
            clear hK K
            try simp only [Act.put, List.setIfInBounds_toArray, List.set_cons_zero, List.set_cons_succ]
            refine AnyT.one (i := 8) (o := _) rfl (by kernel_rfl) (fun K hK => ?_)
            go_simp
            obtain ⟨w9, B6, e9, f9, hA9, hb9, nb6, ge6⟩ := box_new (t := 37) hA
            try have hne : B7 < B6 := (by have h0 := nb7.lt; omega)
            rw [e9, f9]
            clear e9 f9 hA
            have hA := hA9
            clear hA9
            try replace nb7 := nb7.later hb9
            clear hb9
            refine hK.out _ _ (fun _ => hA) ?_
            clear hK K
            try simp only [Act.put, List.setIfInBounds_toArray, List.set_cons_zero, List.set_cons_succ]
            obtain ⟨x0, x1, xf0, xf1⟩ := nb6
            obtain ⟨y0, y1, yf0, yf1⟩ := nb7
            have hne1 : B6 ≠ B7 := by omega
            have hne2 : B7 ≠ B6 := by omega
            refine AnyT.one (i := 10) (o := _) rfl (by kernel_rfl) (fun K hK => ?_)
            go_simp
            refine hK.out _ _ (fun _ => by go_grown) ?_
            clear hK K
            try simp only [Act.put, List.setIfInBounds_toArray, List.set_cons_zero, List.set_cons_succ]
            refine AnyT.one (i := 11) (o := _) rfl (by kernel_rfl) (fun K hK => ?_)
            go_simp
            refine hK.out _ _ (fun h => absurd rfl h) ?_
            clear hK K
            refine AnyT.done (by kernel_rfl) ?_
            try simp only [Act.put, List.setIfInBounds_toArray, List.set_cons_zero, List.set_cons_succ]
            go_wp2_with fail
            go_meet
            case rel => exact ⟨B6, B7, rfl, rfl, hBW.trans (Below.mono (by go_grown : Below W.heap.size W _) hBW.size), ⟨by go_cell, by go_cell⟩, ⟨by go_cell, by go_cell⟩, HF3.out.later (by go_grown), own_below HOW.out (by go_grown)⟩
        · skip
          refine AnyT.step (o := _) rfl (fun K hK => ?_)
          go_simp
          obtain ⟨w9, B6, e9, f9, hA9, hb9, nb6, ge6⟩ := box_new (t := 37) hA
          try have hne : B7 < B6 := (by have h0 := nb7.lt; omega)
          rw [e9, f9]
          clear e9 f9 hA
          have hA := hA9
          clear hA9
          try replace nb7 := nb7.later hb9
          clear hb9
          refine hK.out _ _ (fun _ => hA) ?_
          clear hK K
          try simp only [Act.put, List.setIfInBounds_toArray, List.set_cons_zero, List.set_cons_succ]
          refine AnyT.some [7, 9] (by kernel_rfl) (by simp) (fun i hi => ?_)
          simp only [List.mem_cons, List.not_mem_nil, or_false] at hi
          rcases hi with rfl | rfl
          · skip
            refine AnyT.step (o := _) rfl (fun K hK => ?_)
            go_simp
            refine (rbend_any f.p v ls _ (ldLater HVW.out hA) (by omega) HLa.out fp0 fp1).mono ?_
            rintro e w6 ⟨rfl, hb6⟩
            rw [show sumE _ ls = ba from HI.out.2.2.1, show sumE _ ls = bb from HI.out.2.2.2]
            try replace nb6 := nb6.later hb6
            try replace nb7 := nb7.later hb6
            replace hA := two hA hb6
            clear hb6
            go_wp2_with fail
            refine hK.out _ _ (fun _ => hA) ?_
            clear hK K
            try simp only [Act.put, List.setIfInBounds_toArray, List.set_cons_zero, List.set_cons_succ]
            refine AnyT.one (i := 9) (o := _) rfl (by kernel_rfl) (fun K hK => ?_)
            go_simp
            obtain ⟨w9, B7, e9, f9, hA9, hb9, nb7, ge7⟩ := box_new (t := 37) hA
            try have hne : B6 < B7 := (by have h0 := nb6.lt; omega)
            rw [e9, f9]
            clear e9 f9 hA
            have hA := hA9
            clear hA9
            try replace nb6 := nb6.later hb9
            clear hb9
            refine hK.out _ _ (fun _ => hA) ?_
            clear hK K
            try simp only [Act.put, List.setIfInBounds_toArray, List.set_cons_zero, List.set_cons_succ]
            obtain ⟨x0, x1, xf0, xf1⟩ := nb6
            obtain ⟨y0, y1, yf0, yf1⟩ := nb7
            have hne1 : B6 ≠ B7 := by omega
            have hne2 : B7 ≠ B6 := by omega
            refine AnyT.one (i := 10) (o := _) rfl (by kernel_rfl) (fun K hK => ?_)
            go_simp
            refine hK.out _ _ (fun _ => by go_grown) ?_
            clear hK K
            try simp only [Act.put, List.setIfInBounds_toArray, List.set_cons_zero, List.set_cons_succ]
            refine AnyT.one (i := 11) (o := _) rfl (by kernel_rfl) (fun K hK => ?_)
            go_simp
            refine hK.out _ _ (fun h => absurd rfl h) ?_
            clear hK K
            refine AnyT.done (by kernel_rfl) ?_
            try simp only [Act.put, List.setIfInBounds_toArray, List.set_cons_zero, List.set_cons_succ]
            go_wp2_with fail
            go_meet
            case rel => exact ⟨B6, B7, rfl, rfl, hBW.trans (Below.mono (by go_grown : Below W.heap.size W _) hBW.size), ⟨by go_cell, by go_cell⟩, ⟨by go_cell, by go_cell⟩, HF3.out.later (by go_grown), own_below HOW.out (by go_grown)⟩
          · skip
            refine AnyT.step (o := _) rfl (fun K hK => ?_)
            go_simp
            obtain ⟨w9, B7, e9, f9, hA9, hb9, nb7, ge7⟩ := box_new (t := 37) hA
            try have hne : B6 < B7 := (by have h0 := nb6.lt; omega)
            rw [e9, f9]
            clear e9 f9 hA
            have hA := hA9
            clear hA9
            try replace nb6 := nb6.later hb9
            clear hb9
            refine hK.out _ _ (fun _ => hA) ?_
            clear hK K
            try simp only [Act.put, List.setIfInBounds_toArray, List.set_cons_zero, List.set_cons_succ]
            refine AnyT.one (i := 7) (o := _) rfl (by kernel_rfl) (fun K hK => ?_)
            go_simp
            refine (rbend_any f.p v ls _ (ldLater HVW.out hA) (by omega) HLa.out fp0 fp1).mono ?_
            rintro e w6 ⟨rfl, hb6⟩
            rw [show sumE _ ls = ba from HI.out.2.2.1, show sumE _ ls = bb from HI.out.2.2.2]
            try replace nb6 := nb6.later hb6
            try replace nb7 := nb7.later hb6
            replace hA := two hA hb6
            clear hb6
            go_wp2_with fail
            refine hK.out _ _ (fun _ => hA) ?_
            clear hK K
            try simp only [Act.put, List.setIfInBounds_toArray, List.set_cons_zero, List.set_cons_succ]
            obtain ⟨x0, x1, xf0, xf1⟩ := nb6
            obtain ⟨y0, y1, yf0, yf1⟩ := nb7
            have hne1 : B6 ≠ B7 := by omega
            have hne2 : B7 ≠ B6 := by omega
            refine AnyT.one (i := 10) (o := _) rfl (by kernel_rfl) (fun K hK => ?_)
            go_simp
            refine hK.out _ _ (fun _ => by go_grown) ?_
            clear hK K
            try simp only [Act.put, List.setIfInBounds_toArray, List.set_cons_zero, List.set_cons_succ]
            refine AnyT.one (i := 11) (o := _) rfl (by kernel_rfl) (fun K hK => ?_)
            go_simp
            refine hK.out _ _ (fun h => absurd rfl h) ?_
            clear hK K
            refine AnyT.done (by kernel_rfl) ?_
            try simp only [Act.put, List.setIfInBounds_toArray, List.set_cons_zero, List.set_cons_succ]
            go_wp2_with fail
            go_meet
            case rel => exact ⟨B6, B7, rfl, rfl, hBW.trans (Below.mono (by go_grown : Below W.heap.size W _) hBW.size), ⟨by go_cell, by go_cell⟩, ⟨by go_cell, by go_cell⟩, HF3.out.later (by go_grown), own_below HOW.out (by go_grown)⟩
        · skip
          refine AnyT.step (o := _) rfl (fun K hK => ?_)
          go_simp
          obtain ⟨w9, B7, e9, f9, hA9, hb9, nb7, ge7⟩ := box_new (t := 37) hA
          try have hne : B6 < B7 := (by have h0 := nb6.lt; omega)
          rw [e9, f9]
          clear e9 f9 hA
          have hA := hA9
          clear hA9
          try replace nb6 := nb6.later hb9
          clear hb9
          refine hK.out _ _ (fun _ => hA) ?_
          clear hK K
          try simp only [Act.put, List.setIfInBounds_toArray, List.set_cons_zero, List.set_cons_succ]
          refine AnyT.some [7, 8] (by kernel_rfl) (by simp) (fun i hi => ?_)
          simp only [List.mem_cons, List.not_mem_nil, or_false] at hi
          rcases hi with rfl | rfl
          · skip
            refine AnyT.step (o := _) rfl (fun K hK => ?_)
            go_simp
            refine (rbend_any f.p v ls _ (ldLater HVW.out hA) (by omega) HLa.out fp0 fp1).mono ?_
            rintro e w6 ⟨rfl, hb6⟩
            rw [show sumE _ ls = ba from HI.out.2.2.1, show sumE _ ls = bb from HI.out.2.2.2]
            try replace nb6 := nb6.later hb6
            try replace nb7 := nb7.later hb6
            replace hA := two hA hb6
            clear hb6
            go_wp2_with fail
            refine hK.out _ _ (fun _ => hA) ?_
            clear hK K
            try simp only [Act.put, List.setIfInBounds_toArray, List.set_cons_zero, List.set_cons_succ]
            refine AnyT.one (i := 8) (o := _) rfl (by kernel_rfl) (fun K hK => ?_)
            go_simp
            obtain ⟨w9, B6, e9, f9, hA9, hb9, nb6, ge6⟩ := box_new (t := 37) hA
            try have hne : B7 < B6 := (by have h0 := nb7.lt; omega)
            rw [e9, f9]
            clear e9 f9 hA
            have hA := hA9
            clear hA9
            try replace nb7 := nb7.later hb9
            clear hb9
            refine hK.out _ _ (fun _ => hA) ?_
            clear hK K
            try simp only [Act.put, List.setIfInBounds_toArray, List.set_cons_zero, List.set_cons_succ]
            obtain ⟨x0, x1, xf0, xf1⟩ := nb6
            obtain ⟨y0, y1, yf0, yf1⟩ := nb7
            have hne1 : B6 ≠ B7 := by omega
            have hne2 : B7 ≠ B6 := by omega
            refine AnyT.one (i := 10) (o := _) rfl (by kernel_rfl) (fun K hK => ?_)
            go_simp
            refine hK.out _ _ (fun _ => by go_grown) ?_
            clear hK K
            try simp only [Act.put, List.setIfInBounds_toArray, List.set_cons_zero, List.set_cons_succ]
            refine AnyT.one (i := 11) (o := _) rfl (by kernel_rfl) (fun K hK => ?_)
            go_simp
            refine hK.out _ _ (fun h => absurd rfl h) ?_
            clear hK K
            refine AnyT.done (by kernel_rfl) ?_
            try simp only [Act.put, List.setIfInBounds_toArray, List.set_cons_zero, List.set_cons_succ]
            go_wp2_with fail
            go_meet
            case rel => exact ⟨B6, B7, rfl, rfl, hBW.trans (Below.mono (by go_grown : Below W.heap.size W _) hBW.size), ⟨by go_cell, by go_cell⟩, ⟨by go_cell, by go_cell⟩, HF3.out.later (by go_grown), own_below HOW.out (by go_grown)⟩
          · skip
            refine AnyT.step (o := _) rfl (fun K hK => ?_)
            go_simp
            obtain ⟨w9, B6, e9, f9, hA9, hb9, nb6, ge6⟩ := box_new (t := 37) hA
            try have hne : B7 < B6 := (by have h0 := nb7.lt; omega)
            rw [e9, f9]
            clear e9 f9 hA
            have hA := hA9
            clear hA9
            try replace nb7 := nb7.later hb9
            clear hb9
            refine hK.out _ _ (fun _ => hA) ?_
            clear hK K
            try simp only [Act.put, List.setIfInBounds_toArray, List.set_cons_zero, List.set_cons_succ]
            refine AnyT.one (i := 7) (o := _) rfl (by kernel_rfl) (fun K hK => ?_)
            go_simp
            refine (rbend_any f.p v ls _ (ldLater HVW.out hA) (by omega) HLa.out fp0 fp1).mono ?_
            rintro e w6 ⟨rfl, hb6⟩
            rw [show sumE _ ls = ba from HI.out.2.2.1, show sumE _ ls = bb from HI.out.2.2.2]
            try replace nb6 := nb6.later hb6
            try replace nb7 := nb7.later hb6
            replace hA := two hA hb6
            clear hb6
            go_wp2_with fail
            refine hK.out _ _ (fun _ => hA) ?_
            clear hK K
            try simp only [Act.put, List.setIfInBounds_toArray, List.set_cons_zero, List.set_cons_succ]
            obtain ⟨x0, x1, xf0, xf1⟩ := nb6
            obtain ⟨y0, y1, yf0, yf1⟩ := nb7
            have hne1 : B6 ≠ B7 := by omega
            have hne2 : B7 ≠ B6 := by omega
            refine AnyT.one (i := 10) (o := _) rfl (by kernel_rfl) (fun K hK => ?_)
            go_simp
            refine hK.out _ _ (fun _ => by go_grown) ?_
            clear hK K
            try simp only [Act.put, List.setIfInBounds_toArray, List.set_cons_zero, List.set_cons_succ]
            refine AnyT.one (i := 11) (o := _) rfl (by kernel_rfl) (fun K hK => ?_)
            go_simp
            refine hK.out _ _ (fun h => absurd rfl h) ?_
            clear hK K
            refine AnyT.done (by kernel_rfl) ?_
            try simp only [Act.put, List.setIfInBounds_toArray, List.set_cons_zero, List.set_cons_succ]
            go_wp2_with fail
            go_meet
            case rel => exact ⟨B6, B7, rfl, rfl, hBW.trans (Below.mono (by go_grown : Below W.heap.size W _) hBW.size), ⟨by go_cell, by go_cell⟩, ⟨by go_cell, by go_cell⟩, HF3.out.later (by go_grown), own_below HOW.out (by go_grown)⟩
      · skip
        refine AnyT.step (o := _) rfl (fun K hK => ?_)
        go_simp
        obtain ⟨w9, B6, e9, f9, hA9, hb9, nb6, ge6⟩ := box_new (t := 37) hA
        try have hne : B7 < B6 := (by have h0 := nb7.lt; omega)
        rw [e9, f9]
        clear e9 f9 hA
        have hA := hA9
        clear hA9
        try replace nb7 := nb7.later hb9
        clear hb9
        refine hK.out _ _ (fun _ => hA) ?_
        clear hK K
        try simp only [Act.put, List.setIfInBounds_toArray, List.set_cons_zero, List.set_cons_succ]
        refine AnyT.some [3, 9] (by kernel_rfl) (by simp) (fun i hi => ?_)
        simp only [List.mem_cons, List.not_mem_nil, or_false] at hi
        rcases hi with rfl | rfl
        · skip
          refine AnyT.step (o := _) rfl (fun K hK => ?_)
          go_simp
          refine (rshear_any f.p v ls _ (ldLater HVW.out hA) (by omega) HLa.out fp0 fp1).mono ?_
          rintro e w6 ⟨rfl, hb6⟩
          rw [show sumE _ ls = sa from HI.out.1, show sumE _ ls = sb from HI.out.2.1]
          try replace nb6 := nb6.later hb6
          try replace nb7 := nb7.later hb6
          replace hA := two hA hb6
          clear hb6
          go_wp2_with fail
          refine hK.out _ _ (fun _ => hA) ?_
          clear hK K
          try simp only [Act.put, List.setIfInBounds_toArray, List.set_cons_zero, List.set_cons_succ]
          refine AnyT.some [7, 9] (by kernel_rfl) (by simp) (fun i hi => ?_)
          simp only [List.mem_cons, List.not_mem_nil, or_false] at hi
          rcases hi with rfl | rfl
          · skip
            refine AnyT.step (o := _) rfl (fun K hK => ?_)
            go_simp
            refine (rbend_any f.p v ls _ (ldLater HVW.out hA) (by omega) HLa.out fp0 fp1).mono ?_
            rintro e w6 ⟨rfl, hb6⟩
            rw [show sumE _ ls = ba from HI.out.2.2.1, show sumE _ ls = bb from HI.out.2.2.2]
            try replace nb6 := nb6.later hb6
            try replace nb7 := nb7.later hb6
            replace hA := two hA hb6
            clear hb6
            go_wp2_with fail
            refine hK.out _ _ (fun _ => hA) ?_
            clear hK K
            try simp only [Act.put, List.setIfInBounds_toArray, List.set_cons_zero, List.set_cons_succ]
            refine AnyT.one (i := 9) (o := _) rfl (by kernel_rfl) (fun K hK => ?_)
            go_simp
            obtain ⟨w9, B7, e9, f9, hA9, hb9, nb7, ge7⟩ := box_new (t := 37) hA
            try have hne : B6 < B7 := (by have h0 := nb6.lt; omega)
            rw [e9, f9]
            clear e9 f9 hA
            have hA := hA9
            clear hA9
            try replace nb6 := nb6.later hb9
            clear hb9
            refine hK.out _ _ (fun _ => hA) ?_
            clear hK K
            try simp only [Act.put, List.setIfInBounds_toArray, List.set_cons_zero, List.set_cons_succ]
            obtain ⟨x0, x1, xf0, xf1⟩ := nb6
            obtain ⟨y0, y1, yf0, yf1⟩ := nb7
            have hne1 : B6 ≠ B7 := by omega
            have hne2 : B7 ≠ B6 := by omega
            refine AnyT.one (i := 10) (o := _) rfl (by kernel_rfl) (fun K hK => ?_)
            go_simp
            refine hK.out _ _ (fun _ => by go_grown) ?_
            clear hK K
            try simp only [Act.put, List.setIfInBounds_toArray, List.set_cons_zero, List.set_cons_succ]
            refine AnyT.one (i := 11) (o := _) rfl (by kernel_rfl) (fun K hK => ?_)
            go_simp
            refine hK.out _ _ (fun h => absurd rfl h) ?_
            clear hK K
            refine AnyT.done (by kernel_rfl) ?_
            try simp only [Act.put, List.setIfInBounds_toArray, List.set_cons_zero, List.set_cons_succ]
            go_wp2_with fail
            go_meet
            case rel => exact ⟨B6, B7, rfl, rfl, hBW.trans (Below.mono (by go_grown : Below W.heap.size W _) hBW.size), ⟨by go_cell, by go_cell⟩, ⟨by go_cell, by go_cell⟩, HF3.out.later (by go_grown), own_below HOW.out (by go_grown)⟩
          · skip
            refine AnyT.step (o := _) rfl (fun K hK => ?_)
            go_simp
            obtain ⟨w9, B7, e9, f9, hA9, hb9, nb7, ge7⟩ := box_new (t := 37) hA
            try have hne : B6 < B7 := (by have h0 := nb6.lt; omega)
            rw [e9, f9]
            clear e9 f9 hA
            have hA := hA9
            clear hA9
            try replace nb6 := nb6.later hb9
            clear hb9
            refine hK.out _ _ (fun _ => hA) ?_
            clear hK K
            try simp only [Act.put, List.setIfInBounds_toArray, List.set_cons_zero, List.set_cons_succ]
            refine AnyT.one (i := 7) (o := _) rfl (by kernel_rfl) (fun K hK => ?_)
            go_simp
            refine (rbend_any f.p v ls _ (ldLater HVW.out hA) (by omega) HLa.out fp0 fp1).mono ?_
            rintro e w6 ⟨rfl, hb6⟩
            rw [show sumE _ ls = ba from HI.out.2.2.1, show sumE _ ls = bb from HI.out.2.2.2]
            try replace nb6 := nb6.later hb6
            try replace nb7 := nb7.later hb6
            replace hA := two hA hb6
            clear hb6
            go_wp2_with fail
            refine hK.out _ _ (fun _ => hA) ?_
            clear hK K
            try simp only [Act.put, List.setIfInBounds_toArray, List.set_cons_zero, List.set_cons_succ]
            obtain ⟨x0, x1, xf0, xf1⟩ := nb6
            obtain ⟨y0, y1, yf0, yf1⟩ := nb7
            have hne1 : B6 ≠ B7 := by omega
            have hne2 : B7 ≠ B6 := by omega
            refine AnyT.one (i := 10) (o := _) rfl (by kernel_rfl) (fun K hK => ?_)
            go_simp
            refine hK.out _ _ (fun _ => by go_grown) ?_
            clear hK K
            try simp only [Act.put, List.setIfInBounds_toArray, List.set_cons_zero, List.set_cons_succ]
            refine AnyT.one (i := 11) (o := _) rfl (by kernel_rfl) (fun K hK => ?_)
            go_simp
            refine hK.out _ _ (fun h => absurd rfl h) ?_
            clear hK K
            refine AnyT.done (by kernel_rfl) ?_
            try simp only [Act.put, List.setIfInBounds_toArray, List.set_cons_zero, List.set_cons_succ]
            go_wp2_with fail
            go_meet
            case rel => exact ⟨B6, B7, rfl, rfl, hBW.trans (Below.mono (by go_grown : Below W.heap.size W _) hBW.size), ⟨by go_cell, by go_cell⟩, ⟨by go_cell, by go_cell⟩, HF3.out.later (by go_grown), own_below HOW.out (by go_grown)⟩
        · skip
          refine AnyT.step (o := _) rfl (fun K hK => ?_)
          go_simp
          obtain ⟨w9, B7, e9, f9, hA9, hb9, nb7, ge7⟩ := box_new (t := 37) hA
          try have hne : B6 < B7 := (by have h0 := nb6.lt; omega)
          rw [e9, f9]
          clear e9 f9 hA
          have hA := hA9
          clear hA9
          try replace nb6 := nb6.later hb9
          clear hb9
          refine hK.out _ _ (fun _ => hA) ?_
          clear hK K
          try simp only [Act.put, List.setIfInBounds_toArray, List.set_cons_zero, List.set_cons_succ]
          refine AnyT.one (i := 3) (o := _) rfl (by kernel_rfl) (fun K hK => ?_)
          go_simp
          refine (rshear_any f.p v ls _ (ldLater HVW.out hA) (by omega) HLa.out fp0 fp1).mono ?_
          rintro e w6 ⟨rfl, hb6⟩
          rw [show sumE _ ls = sa from HI.out.1, show sumE _ ls = sb from HI.out.2.1]
          try replace nb6 := nb6.later hb6
          try replace nb7 := nb7.later hb6
          replace hA := two hA hb6
          clear hb6
          go_wp2_with fail
          refine hK.out _ _ (fun _ => hA) ?_
          clear hK K
          try simp only [Act.put, List.setIfInBounds_toArray, List.set_cons_zero, List.set_cons_succ]
          refine AnyT.one (i := 7) (o := _) rfl (by kernel_rfl) (fun K hK => ?_)
          go_simp
          refine (rbend_any f.p v ls _ (ldLater HVW.out hA) (by omega) HLa.out fp0 fp1).mono ?_
          rintro e w6 ⟨rfl, hb6⟩
          rw [show sumE _ ls = ba from HI.out.2.2.1, show sumE _ ls = bb from HI.out.2.2.2]
          try replace nb6 := nb6.later hb6
          try replace nb7 := nb7.later hb6
          replace hA := two hA hb6
          clear hb6
          go_wp2_with fail
          refine hK.out _ _ (fun _ => hA) ?_
          clear hK K
          try simp only [Act.put, List.setIfInBounds_toArray, List.set_cons_zero, List.set_cons_succ]
          obtain ⟨x0, x1, xf0, xf1⟩ := nb6
          obtain ⟨y0, y1, yf0, yf1⟩ := nb7
          have hne1 : B6 ≠ B7 := by omega
          have hne2 : B7 ≠ B6 := by omega
          refine AnyT.one (i := 10) (o := _) rfl (by kernel_rfl) (fun K hK => ?_)
          go_simp
          refine hK.out _ _ (fun _ => by go_grown) ?_
          clear hK K
          try simp only [Act.put, List.setIfInBounds_toArray, List.set_cons_zero, List.set_cons_succ]
          refine AnyT.one (i := 11) (o := _) rfl (by kernel_rfl) (fun K hK => ?_)
          go_simp
          refine hK.out _ _ (fun h => absurd rfl h) ?_
          clear hK K
          refine AnyT.done (by kernel_rfl) ?_
          try simp only [Act.put, List.setIfInBounds_toArray, List.set_cons_zero, List.set_cons_succ]
          go_wp2_with fail
          go_meet
          case rel => exact ⟨B6, B7, rfl, rfl, hBW.trans (Below.mono (by go_grown : Below W.heap.size W _) hBW.size), ⟨by go_cell, by go_cell⟩, ⟨by go_cell, by go_cell⟩, HF3.out.later (by go_grown), own_below HOW.out (by go_grown)⟩
      · skip
        refine AnyT.step (o := _) rfl (fun K hK => ?_)
        go_simp
        obtain ⟨w9, B7, e9, f9, hA9, hb9, nb7, ge7⟩ := box_new (t := 37) hA
        try have hne : B6 < B7 := (by have h0 := nb6.lt; omega)
        rw [e9, f9]
        clear e9 f9 hA
        have hA := hA9
        clear hA9
        try replace nb6 := nb6.later hb9
        clear hb9
        refine hK.out _ _ (fun _ => hA) ?_
        clear hK K
        try simp only [Act.put, List.setIfInBounds_toArray, List.set_cons_zero, List.set_cons_succ]
        refine AnyT.some [3, 8] (by kernel_rfl) (by simp) (fun i hi => ?_)
        simp only [List.mem_cons, List.not_mem_nil, or_false] at hi
        rcases hi with rfl | rfl
        · skip
          refine AnyT.step (o := _) rfl (fun K hK => ?_)
          go_simp
          refine (rshear_any f.p v ls _ (ldLater HVW.out hA) (by omega) HLa.out fp0 fp1).mono ?_
          rintro e w6 ⟨rfl, hb6⟩
          rw [show sumE _ ls = sa from HI.out.1, show sumE _ ls = sb from HI.out.2.1]
          try replace nb6 := nb6.later hb6
          try replace nb7 := nb7.later hb6
          replace hA := two hA hb6
          clear hb6
          go_wp2_with fail
          refine hK.out _ _ (fun _ => hA) ?_
          clear hK K
          try simp only [Act.put, List.setIfInBounds_toArray, List.set_cons_zero, List.set_cons_succ]
          refine AnyT.some [7, 8] (by kernel_rfl) (by simp) (fun i hi => ?_)
          simp only [List.mem_cons, List.not_mem_nil, or_false] at hi
          rcases hi with rfl | rfl
          · skip
            refine AnyT.step (o := _) rfl (fun K hK => ?_)
            go_simp
            refine (rbend_any f.p v ls _ (ldLater HVW.out hA) (by omega) HLa.out fp0 fp1).mono ?_
            rintro e w6 ⟨rfl, hb6⟩
            rw [show sumE _ ls = ba from HI.out.2.2.1, show sumE _ ls = bb from HI.out.2.2.2]
            try replace nb6 := nb6.later hb6
            try replace nb7 := nb7.later hb6
            replace hA := two hA hb6
            clear hb6
            go_wp2_with fail
            refine hK.out _ _ (fun _ => hA) ?_
            clear hK K
            try simp only [Act.put, List.setIfInBounds_toArray, List.set_cons_zero, List.set_cons_succ]
            refine AnyT.one (i := 8) (o := _) rfl (by kernel_rfl) (fun K hK => ?_)
            go_simp
            obtain ⟨w9, B6, e9, f9, hA9, hb9, nb6, ge6⟩ := box_new (t := 37) hA
            try have hne : B7 < B6 := (by have h0 := nb7.lt; omega)
            rw [e9, f9]
            clear e9 f9 hA
            have hA := hA9
            clear hA9
            try replace nb7 := nb7.later hb9
            clear hb9
            refine hK.out _ _ (fun _ => hA) ?_
            clear hK K
            try simp only [Act.put, List.setIfInBounds_toArray, List.set_cons_zero, List.set_cons_succ]
            obtain ⟨x0, x1, xf0, xf1⟩ := nb6
            obtain ⟨y0, y1, yf0, yf1⟩ := nb7
            have hne1 : B6 ≠ B7 := by omega
            have hne2 : B7 ≠ B6 := by omega
            refine AnyT.one (i := 10) (o := _) rfl (by kernel_rfl) (fun K hK => ?_)
            go_simp
            refine hK.out _ _ (fun _ => by go_grown) ?_
            clear hK K
            try simp only [Act.put, List.setIfInBounds_toArray, List.set_cons_zero, List.set_cons_succ]
            refine AnyT.one (i := 11) (o := _) rfl (by kernel_rfl) (fun K hK => ?_)
            go_simp
            refine hK.out _ _ (fun h => absurd rfl h) ?_
            clear hK K
            refine AnyT.done (by kernel_rfl) ?_
            try simp only [Act.put, List.setIfInBounds_toArray, List.set_cons_zero, List.set_cons_succ]
            go_wp2_with fail
            go_meet
            case rel => exact ⟨B6, B7, rfl, rfl, hBW.trans (Below.mono (by go_grown : Below W.heap.size W _) hBW.size), ⟨by go_cell, by go_cell⟩, ⟨by go_cell, by go_cell⟩, HF3.out.later (by go_grown), own_below HOW.out (by go_grown)⟩
          · skip
            refine AnyT.step (o := _) rfl (fun K hK => ?_)
            go_simp
            obtain ⟨w9, B6, e9, f9, hA9, hb9, nb6, ge6⟩ := box_new (t := 37) hA
            try have hne : B7 < B6 := (by have h0 := nb7.lt; omega)
            rw [e9, f9]
            clear e9 f9 hA
            have hA := hA9
            clear hA9
            try replace nb7 := nb7.later hb9
            clear hb9
            refine hK.out _ _ (fun _ => hA) ?_
            clear hK K
            try simp only [Act.put, List.setIfInBounds_toArray, List.set_cons_zero, List.set_cons_succ]
            refine AnyT.one (i := 7) (o := _) rfl (by kernel_rfl) (fun K hK => ?_)
            go_simp
            refine (rbend_any f.p v ls _ (ldLater HVW.out hA) (by omega) HLa.out fp0 fp1).mono ?_
            rintro e w6 ⟨rfl, hb6⟩
            rw [show sumE _ ls = ba from HI.out.2.2.1, show sumE _ ls = bb from HI.out.2.2.2]
            try replace nb6 := nb6.later hb6
            try replace nb7 := nb7.later hb6
            replace hA := two hA hb6
            clear hb6
            go_wp2_with fail
            refine hK.out _ _ (fun _ => hA) ?_
            clear hK K
            try simp only [Act.put, List.setIfInBounds_toArray, List.set_cons_zero, List.set_cons_succ]
            obtain ⟨x0, x1, xf0, xf1⟩ := nb6
            obtain ⟨y0, y1, yf0, yf1⟩ := nb7
            have hne1 : B6 ≠ B7 := by omega
            have hne2 : B7 ≠ B6 := by omega
            refine AnyT.one (i := 10) (o := _) rfl (by kernel_rfl) (fun K hK => ?_)
            go_simp
            refine hK.out _ _ (fun _ => by go_grown) ?_
            clear hK K
            try simp only [Act.put, List.setIfInBounds_toArray, List.set_cons_zero, List.set_cons_succ]
            refine AnyT.one (i := 11) (o := _) rfl (by kernel_rfl) (fun K hK => ?_)
            go_simp
            refine hK.out _ _ (fun h => absurd rfl h) ?_
            clear hK K
            refine AnyT.done (by kernel_rfl) ?_
            try simp only [Act.put, List.setIfInBounds_toArray, List.set_cons_zero, List.set_cons_succ]
            go_wp2_with fail
            go_meet
            case rel => exact ⟨B6, B7, rfl, rfl, hBW.trans (Below.mono (by go_grown : Below W.heap.size W _) hBW.size), ⟨by go_cell, by go_cell⟩, ⟨by go_cell, by go_cell⟩, HF3.out.later (by go_grown), own_below HOW.out (by go_grown)⟩
        · skip
          refine AnyT.step (o := _) rfl (fun K hK => ?_)
          go_simp
          obtain ⟨w9, B6, e9, f9, hA9, hb9, nb6, ge6⟩ := box_new (t := 37) hA
          try have hne : B7 < B6 := (by have h0 := nb7.lt; omega)
          rw [e9, f9]
          clear e9 f9 hA
          have hA := hA9
          clear hA9
          try replace nb7 := nb7.later hb9
          clear hb9
          refine hK.out _ _ (fun _ => hA) ?_
          clear hK K
          try simp only [Act.put, List.setIfInBounds_toArray, List.set_cons_zero, List.set_cons_succ]
          refine AnyT.one (i := 3) (o := _) rfl (by kernel_rfl) (fun K hK => ?_)
          go_simp
          refine (rshear_any f.p v ls _ (ldLater HVW.out hA) (by omega) HLa.out fp0 fp1).mono ?_
          rintro e w6 ⟨rfl, hb6⟩
          rw [show sumE _ ls = sa from HI.out.1, show sumE _ ls = sb from HI.out.2.1]
          try replace nb6 := nb6.later hb6
          try replace nb7 := nb7.later hb6
          replace hA := two hA hb6
          clear hb6
          go_wp2_with fail
          refine hK.out _ _ (fun _ => hA) ?_
          clear hK K
          try simp only [Act.put, List.setIfInBounds_toArray, List.set_cons_zero, List.set_cons_succ]
          refine AnyT.one (i := 7) (o := _) rfl (by kernel_rfl) (fun K hK => ?_)
          go_simp
          refine (rbend_any f.p v ls _ (ldLater HVW.out hA) (by omega) HLa.out fp0 fp1).mono ?_
          rintro e w6 ⟨rfl, hb6⟩
          rw [show sumE _ ls = ba from HI.out.2.2.1, show sumE _ ls = bb from HI.out.2.2.2]
          try replace nb6 := nb6.later hb6
          try replace nb7 := nb7.later hb6
          replace hA := two hA hb6
          clear hb6
          go_wp2_with fail
          refine hK.out _ _ (fun _ => hA) ?_
          clear hK K
          try simp only [Act.put, List.setIfInBounds_toArray, List.set_cons_zero, List.set_cons_succ]
          obtain ⟨x0, x1, xf0, xf1⟩ := nb6
          obtain ⟨y0, y1, yf0, yf1⟩ := nb7
          have hne1 : B6 ≠ B7 := by omega
          have hne2 : B7 ≠ B6 := by omega
          refine AnyT.one (i := 10) (o := _) rfl (by kernel_rfl) (fun K hK => ?_)
          go_simp
          refine hK.out _ _ (fun _ => by go_grown) ?_
          clear hK K
          try simp only [Act.put, List.setIfInBounds_toArray, List.set_cons_zero, List.set_cons_succ]
          refine AnyT.one (i := 11) (o := _) rfl (by kernel_rfl) (fun K hK => ?_)
          go_simp
          refine hK.out _ _ (fun h => absurd rfl h) ?_
          clear hK K
          refine AnyT.done (by kernel_rfl) ?_
          try simp only [Act.put, List.setIfInBounds_toArray, List.set_cons_zero, List.set_cons_succ]
          go_wp2_with fail
          go_meet
          case rel => exact ⟨B6, B7, rfl, rfl, hBW.trans (Below.mono (by go_grown : Below W.heap.size W _) hBW.size), ⟨by go_cell, by go_cell⟩, ⟨by go_cell, by go_cell⟩, HF3.out.later (by go_grown), own_below HOW.out (by go_grown)⟩
    case rest =>
      obtain ⟨B, B', rfl, rfl, hBc, k1, k2, k3, hown2⟩ := hcut
      generalize wc = cur at *
      obtain ⟨p0, p1⟩ := k1
      obtain ⟨q0, q1⟩ := k2
      obtain ⟨x0, x1, x2⟩ := k3
      obtain ⟨e1, e2⟩ := E12.out
      by_cases h1 : f.s < sb
      · have HStr := Lib.hid (show strB ls f = true from HSt.out.2 (.inl h1))
        have hsc := hBc.size
        have hz9 : zs ++ [(k : Int)] ++ strI ls (k + 1) (fs.drop (k + 1)) = strI ls 0 fs := by
          rw [← HZs.out, drop_some HC.out, strI, HStr.out]
          simp
        have HZ9 := Lib.hid hz9
        clear hz9
        go_wp2_with (at_builtin; refine wpList_append_own _ rfl _ _ 63 rfl w.heap.size 3 i0 (.int .i64 0) 1 8 Try.underlying63 HI0.out HZ0.out HZ1.out HZ2.out rfl (by decide) _ _ _ rfl (hown2.alloc _) ⟨cur.heap.size, 0, none⟩ 1 1 [.int .i64 k] rfl rfl ?c1a ?c2a ?c3a ?c4a ?c5a ?_)
        try (case c1a => exact one_new _ _ _)
        case c2a => first | rfl | (intro x hx; simp at hx; subst hx; rfl)
        case c3a => first | (unfold maxLen; omega) | omega
        case c4a => omega
        case c5a => first | omega | (simp; omega)
        intro v' w2 hown' hgrow hnil
        obtain ⟨hb2, hz2⟩ := grown_below hown2 (Below.refl w.heap.size cur) hsc hgrow
        have hBf : Below w.heap.size w w2 := hBc.trans hb2
        have HOf : Hid (w2.ownsRow w.heap.size 3 1 v' (zs ++ [(k : Int)]).length (spI (zs ++ [(k : Int)]))) := Lib.hid (by rw [spI_app, List.length_append]; exact hown')
        clear hown' hgrow hnil hown2 hb2
        go_wp2_with fail
        go_roundw
        case rel => exact ⟨k + 1, zs ++ [(k : Int)], by omega, by go_num, HZ9.out, by rw [List.length_append]; simp; omega, HOf.out, hBf⟩
        case measure => simp [intOf]; omega
      by_cases h2 : sa < -f.s
      · have HStr := Lib.hid (show strB ls f = true from HSt.out.2 (.inr (.inl h2)))
        have hsc := hBc.size
        have hz9 : zs ++ [(k : Int)] ++ strI ls (k + 1) (fs.drop (k + 1)) = strI ls 0 fs := by
          rw [← HZs.out, drop_some HC.out, strI, HStr.out]
          simp
        have HZ9 := Lib.hid hz9
        clear hz9
        go_wp2_with (at_builtin; refine wpList_append_own _ rfl _ _ 63 rfl w.heap.size 3 i0 (.int .i64 0) 1 8 Try.underlying63 HI0.out HZ0.out HZ1.out HZ2.out rfl (by decide) _ _ _ rfl (hown2.alloc _) ⟨cur.heap.size, 0, none⟩ 1 1 [.int .i64 k] rfl rfl ?c1b ?c2b ?c3b ?c4b ?c5b ?_)
        try (case c1b => exact one_new _ _ _)
        case c2b => first | rfl | (intro x hx; simp at hx; subst hx; rfl)
        case c3b => first | (unfold maxLen; omega) | omega
        case c4b => omega
        case c5b => first | omega | (simp; omega)
        intro v' w2 hown' hgrow hnil
        obtain ⟨hb2, hz2⟩ := grown_below hown2 (Below.refl w.heap.size cur) hsc hgrow
        have hBf : Below w.heap.size w w2 := hBc.trans hb2
        have HOf : Hid (w2.ownsRow w.heap.size 3 1 v' (zs ++ [(k : Int)]).length (spI (zs ++ [(k : Int)]))) := Lib.hid (by rw [spI_app, List.length_append]; exact hown')
        clear hown' hgrow hnil hown2 hb2
        go_wp2_with fail
        go_roundw
        case rel => exact ⟨k + 1, zs ++ [(k : Int)], by omega, by go_num, HZ9.out, by rw [List.length_append]; simp; omega, HOf.out, hBf⟩
        case measure => simp [intOf]; omega
      by_cases h3 : f.b < bb
      · have HStr := Lib.hid (show strB ls f = true from HSt.out.2 (.inr (.inr (.inl h3))))
        have hsc := hBc.size
        have hz9 : zs ++ [(k : Int)] ++ strI ls (k + 1) (fs.drop (k + 1)) = strI ls 0 fs := by
          rw [← HZs.out, drop_some HC.out, strI, HStr.out]
          simp
        have HZ9 := Lib.hid hz9
        clear hz9
        go_wp2_with (at_builtin; refine wpList_append_own _ rfl _ _ 63 rfl w.heap.size 3 i0 (.int .i64 0) 1 8 Try.underlying63 HI0.out HZ0.out HZ1.out HZ2.out rfl (by decide) _ _ _ rfl (hown2.alloc _) ⟨cur.heap.size, 0, none⟩ 1 1 [.int .i64 k] rfl rfl ?c1c ?c2c ?c3c ?c4c ?c5c ?_)
        try (case c1c => exact one_new _ _ _)
        case c2c => first | rfl | (intro x hx; simp at hx; subst hx; rfl)
        case c3c => first | (unfold maxLen; omega) | omega
        case c4c => omega
        case c5c => first | omega | (simp; omega)
        intro v' w2 hown' hgrow hnil
        obtain ⟨hb2, hz2⟩ := grown_below hown2 (Below.refl w.heap.size cur) hsc hgrow
        have hBf : Below w.heap.size w w2 := hBc.trans hb2
        have HOf : Hid (w2.ownsRow w.heap.size 3 1 v' (zs ++ [(k : Int)]).length (spI (zs ++ [(k : Int)]))) := Lib.hid (by rw [spI_app, List.length_append]; exact hown')
        clear hown' hgrow hnil hown2 hb2
        go_wp2_with fail
        go_roundw
        case rel => exact ⟨k + 1, zs ++ [(k : Int)], by omega, by go_num, HZ9.out, by rw [List.length_append]; simp; omega, HOf.out, hBf⟩
        case measure => simp [intOf]; omega
      by_cases h4 : ba < -f.b
      · have HStr := Lib.hid (show strB ls f = true from HSt.out.2 (.inr (.inr (.inr h4))))
        have hsc := hBc.size
        have hz9 : zs ++ [(k : Int)] ++ strI ls (k + 1) (fs.drop (k + 1)) = strI ls 0 fs := by
          rw [← HZs.out, drop_some HC.out, strI, HStr.out]
          simp
        have HZ9 := Lib.hid hz9
        clear hz9
        go_wp2_with (at_builtin; refine wpList_append_own _ rfl _ _ 63 rfl w.heap.size 3 i0 (.int .i64 0) 1 8 Try.underlying63 HI0.out HZ0.out HZ1.out HZ2.out rfl (by decide) _ _ _ rfl (hown2.alloc _) ⟨cur.heap.size, 0, none⟩ 1 1 [.int .i64 k] rfl rfl ?c1d ?c2d ?c3d ?c4d ?c5d ?_)
        try (case c1d => exact one_new _ _ _)
        case c2d => first | rfl | (intro x hx; simp at hx; subst hx; rfl)
        case c3d => first | (unfold maxLen; omega) | omega
        case c4d => omega
        case c5d => first | omega | (simp; omega)
        intro v' w2 hown' hgrow hnil
        obtain ⟨hb2, hz2⟩ := grown_below hown2 (Below.refl w.heap.size cur) hsc hgrow
        have hBf : Below w.heap.size w w2 := hBc.trans hb2
        have HOf : Hid (w2.ownsRow w.heap.size 3 1 v' (zs ++ [(k : Int)]).length (spI (zs ++ [(k : Int)]))) := Lib.hid (by rw [spI_app, List.length_append]; exact hown')
        clear hown' hgrow hnil hown2 hb2
        go_wp2_with fail
        go_roundw
        case rel => exact ⟨k + 1, zs ++ [(k : Int)], by omega, by go_num, HZ9.out, by rw [List.length_append]; simp; omega, HOf.out, hBf⟩
        case measure => simp [intOf]; omega
      have hn : strB ls f = false := by
        cases hs : strB ls f with
        | false => rfl
        | true => exact absurd (HSt.out.1 hs) (by omega)
      have hz9 : zs ++ strI ls (k + 1) (fs.drop (k + 1)) = strI ls 0 fs := by
        rw [← HZs.out, drop_some HC.out, strI, hn]
        simp
      have HZ9 := Lib.hid hz9
      have HOf := Lib.hid hown2
      clear hz9 hown2 hn
      go_wp2_with fail
      go_roundw
      case rel => exact ⟨k + 1, zs, by omega, by go_num, HZ9.out, by omega, HOf.out, hBc⟩
      case measure => simp [intOf]; omega
end Go.Proofs.Ytmadkefpjoheeaa
