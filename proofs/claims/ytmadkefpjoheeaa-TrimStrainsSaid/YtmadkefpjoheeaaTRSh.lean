/- The reference of layer 4: shear, bend; Shear, Bend. -/
import Derived.Test.YtmadkefpjoheeaaTREx
import Derived.Test.YtmadkefpjoheeaaTStr
import Derived.Test.YtmadkefpjoheeaaTail2
namespace Go.Proofs.Ytmadkefpjoheeaa
open Go.RowKit

theorem ex_bd {a b c d : Int} (ha : -40000 ≤ a ∧ a ≤ 40000) (hb : -40000 ≤ b ∧ b ≤ 40000) (hc : -1073741824 ≤ c ∧ c ≤ 1073741824) (hd : -1073741824 ≤ d ∧ d ≤ 1073741824) :
    (-42949672960000 ≤ exLo a b c d ∧ exLo a b c d ≤ 42949672960000) ∧ (-42949672960000 ≤ exHi a b c d ∧ exHi a b c d ≤ 42949672960000) := by
  have m1 := mul_lim (m := 40000) (n := 1073741824) ha.1 ha.2 hc.1 hc.2
  have m2 := mul_lim (m := 40000) (n := 1073741824) ha.1 ha.2 hd.1 hd.2
  have m3 := mul_lim (m := 40000) (n := 1073741824) hb.1 hb.2 hc.1 hc.2
  have m4 := mul_lim (m := 40000) (n := 1073741824) hb.1 hb.2 hd.1 hd.2
  unfold exLo exHi
  omega
theorem ld_in {l : Ld} (h : l.ok = true) : (-20000 ≤ l.a0 ∧ l.a0 ≤ 20000) ∧ (-20000 ≤ l.a1 ∧ l.a1 ≤ 20000) ∧ (-1073741824 ≤ l.w0 ∧ l.w0 ≤ 1073741824) ∧ (-1073741824 ≤ l.w1 ∧ l.w1 ≤ 1073741824) := by
  unfold Ld.ok at h
  rw [Bool.and_eq_true, spB_iff, spB_iff] at h
  omega
theorem part_bd (at' : Int) (l : Ld) : (-40000 ≤ partLo at' l ∧ partLo at' l ≤ 40000) ∧ (-40000 ≤ partHi at' l ∧ partHi at' l ≤ 40000) := by
  unfold partLo partHi
  constructor <;> split <;> omega
theorem arm_bd {at' x : Int} (h0 : -20000 ≤ at') (h1 : at' ≤ 20000) (h2 : -20000 ≤ x) (h3 : x ≤ 20000) : -40000 ≤ arm at' x ∧ arm at' x ≤ 40000 := by
  unfold arm; omega
/-- What stands while spans are summed up: the result's box, then the sum's. -/
structure SuS (w wr : World) (n : Nat) (lo hi : Int) : Prop where
  below : Below w.heap.size w wr
  r : Box2 wr n 0 0
  s : Box2 wr (n + 1) lo hi
  le : w.heap.size ≤ n
section
variable {w wr w1 : World} {n : Nat} {lo hi : Int}
theorem SuS.later (k : SuS w wr n lo hi) (hb : Below wr.heap.size wr w1) : SuS w w1 n lo hi := ⟨k.below.trans (hb.mono k.below.size), k.r.later hb, k.s.later hb, k.le⟩
theorem SuS.lo' (k : SuS w wr n lo hi) (z : Int) : SuS w (wr.setCell ⟨n + 1, 0, none⟩ (.int .i64 z)) n z hi :=
  ⟨k.below.setCell (by have := k.le; simp; omega) _, k.r.far (by omega) _, k.s.set0 z, k.le⟩
theorem SuS.hi' (k : SuS w wr n lo hi) (z : Int) : SuS w (wr.setCell ⟨n + 1, 1, none⟩ (.int .i64 z)) n lo z :=
  ⟨k.below.setCell (by have := k.le; simp; omega) _, k.r.far (by omega) _, k.s.set1 z, k.le⟩
end
def SuHead (f g : Ld → Int) (ls : List Ld) (w wr : World) (v : Value) : Prop := ∃ k : Nat, k ≤ ls.length ∧ v = .int .i64 k ∧ SuS w wr w.heap.size (sumE f (ls.take k)) (sumE g (ls.take k))
theorem sh_bd (at' : Int) {l : Ld} (h : l.ok = true) : (-42949672960000 ≤ shLo at' l ∧ shLo at' l ≤ 42949672960000) ∧ (-42949672960000 ≤ shHi at' l ∧ shHi at' l ≤ 42949672960000) :=
  ex_bd (part_bd at' l).1 (part_bd at' l).2 (ld_in h).2.2.1 (ld_in h).2.2.2
theorem bd_bd {at' : Int} {l : Ld} (h0 : -20000 ≤ at') (h1 : at' ≤ 20000) (h : l.ok = true) : (-42949672960000 ≤ bdLo at' l ∧ bdLo at' l ≤ 42949672960000) ∧ (-42949672960000 ≤ bdHi at' l ∧ bdHi at' l ≤ 42949672960000) :=
  ex_bd (arm_bd h0 h1 (ld_in h).2.1.1 (ld_in h).2.1.2) (arm_bd h0 h1 (ld_in h).1.1 (ld_in h).1.2) (ld_in h).2.2.1 (ld_in h).2.2.2
/-- A part's box, made in a region of W. -/
theorem box_made {W cur : World} {t : TypeId} (hA : Below W.heap.size W cur) :
    ∃ w9 B, cur.alloc (.cells #[.int .i64 0, .int .i64 0] t) = w9 ∧ cur.heap.size = B ∧ Below W.heap.size W w9 ∧ Box2 w9 B 0 0 ∧ W.heap.size ≤ B :=
  ⟨_, _, rfl, rfl, hA.alloc hA.size _, ⟨by go_cell, by go_cell, by go_cell, by go_cell⟩, hA.size⟩
/-- Behind the region: the span's box. -/
def ShC (w wy : World) (v8 : Value) (P Q s0 s1 : Int) : Prop := ∃ B : Nat, v8 = .pointer (some ⟨B, 0, none⟩) ∧ SuS w wy w.heap.size s0 s1 ∧ Two2 wy B P Q ∧ w.heap.size + 1 < B
set_option linter.unusedSimpArgs false in
set_option maxRecDepth 100000 in
set_option maxHeartbeats 8000000 in
theorem rshear_any (at' : Int) (v : Value) (ls : List Ld) (w : World) (hv : SlLd w v ls) (h50 : ls.length ≤ 50) (hl : ∀ l, l ∈ ls → l.ok = true) (_h0 : -20000 ≤ at') (_h1 : at' ≤ 20000) :
    Calls Try.prog 78 #[v, .int .i64 at'] w fun e w' => e = .returned (sp (sumE (shLo at') ls) (sumE (shHi at') ls)) ∧ Below w.heap.size w w' := by
  obtain ⟨ad, cap, rfl, hlen, hcap⟩ := hv.form
  have HV := Lib.hid hv
  have HL := Lib.hid hl
  obtain ⟨E, hE⟩ : ∃ x, sumE (shLo at') ls = x := ⟨_, rfl⟩
  obtain ⟨F, hF⟩ : ∃ x, sumE (shHi at') ls = x := ⟨_, rfl⟩
  have HE := Lib.hid hE
  have HF := Lib.hid hF
  rw [hE, hF]
  clear hv hl hE hF
  go_enter Try.func78, Try.ntmps78
  go_wp2_with fail
  go_loopw [6] (fun v6 wr => SuHead (shLo at') (shHi at') ls w wr v6) (fun v6 _ => ls.length - (intOf v6).toNat)
  case atStart =>
    have hs9 : SuS w ((w.alloc (.cells #[.int .i64 0, .int .i64 0] 37)).alloc (.cells #[.int .i64 0, .int .i64 0] 37)) w.heap.size 0 0 := ⟨by go_grown, ⟨by go_cell, by go_cell, by go_cell, by go_cell⟩, ⟨by go_cell, by go_cell, by go_cell, by go_cell⟩, Nat.le_refl _⟩
    exact ⟨0, by omega, rfl, hs9⟩
  case round =>
    obtain ⟨k, hk, rfl, hS⟩ := hrel
    have HS := Lib.hid hS
    clear hS
    by_cases hlt : k < ls.length
    rotate_left 1
    · skip
      have hkk : ls.take k = ls := List.take_of_length_le (by omega)
      rw [hkk, HE.out, HF.out] at HS
      obtain ⟨s0, s1, sf0, sf1⟩ := HS.out.s
      obtain ⟨r0, r1, rf0, rf1⟩ := HS.out.r
      have hbe := HS.out.below
      have z0 := HS.out.r.lt
      clear hkk
      go_wp2_with fail
      exact bodyPost_ret (v := sp E F) (by simp [results, Try.results78, go_sem, *]) rfl ⟨rfl, by go_grown⟩
    obtain ⟨bk, off, c, rfl, hb, hc, hat⟩ := HV.out.at hlt
    obtain ⟨c0, c1, c2, c3⟩ := LdAt.later hat (show Below w.heap.size w wr from HS.out.below)
    have hzb := World.block_lt_of_cell? _ _ c0
    have hok := HL.out c (List.mem_of_getElem? hc)
    obtain ⟨la0, la1, lw0, lw1⟩ := ld_in hok
    have hlt' : (k : Int) < (ls.length : Int) := by omega
    have hk0 : (0 : Int) ≤ (k : Int) := by omega
    have hkt : ((k : Int).toNat) = k := by omega
    have T0 := Lib.hid (sum_take (f := shLo at') hc)
    have T1 := Lib.hid (sum_take (f := shHi at') hc)
    have b0 := sums_bd (f := shLo at') k (fun l hl => (sh_bd at' (HL.out l hl)).1) h50
    have b1 := sums_bd (f := shHi at') k (fun l hl => (sh_bd at' (HL.out l hl)).2) h50
    obtain ⟨s0, e0⟩ : ∃ X, sumE (shLo at') (ls.take k) = X := ⟨_, rfl⟩
    obtain ⟨s1, e1⟩ : ∃ X, sumE (shHi at') (ls.take k) = X := ⟨_, rfl⟩
    obtain ⟨⟨p0, p1⟩, p2, p3⟩ := sh_bd at' hok
    obtain ⟨P, hP⟩ : ∃ X, shLo at' c = X := ⟨_, rfl⟩
    obtain ⟨Q, hQ⟩ : ∃ X, shHi at' c = X := ⟨_, rfl⟩
    rw [e0] at b0 T0 HS
    rw [e1] at b1 T1 HS
    rw [hP] at p0 p1 T0
    rw [hQ] at p2 p3 T1
    obtain ⟨b00, b01⟩ := b0
    obtain ⟨b10, b11⟩ := b1
    have HP := Lib.hid (And.intro hP hQ)
    clear hat e0 e1 hP hQ hc
    have ho := ld_order hok
    have HAt := Lib.hid (LdAt.mk c0 c1 c2 c3)
    by_cases ha : c.a1 < at'
    · have hb : ¬ at' ≤ c.a0 := by omega
      have HEx := Lib.hid (show exLo 1 1 c.w0 c.w1 = P ∧ exHi 1 1 c.w0 c.w1 = Q by
        have e1 : partLo at' c = 1 := by unfold partLo; first | exact if_pos ha | exact if_neg ha
        have e2 : partHi at' c = 1 := by unfold partHi; first | exact if_pos hb | exact if_neg hb
        have := HP.out
        unfold shLo shHi at this
        rw [e1, e2] at this
        exact this)
      have HBd := Lib.hid (show (-40000 ≤ (1 : Int) ∧ (1 : Int) ≤ 40000) ∧ (-40000 ≤ (1 : Int) ∧ (1 : Int) ≤ 40000) ∧ (-1073741824 ≤ c.w0 ∧ c.w0 ≤ 1073741824) ∧ (-1073741824 ≤ c.w1 ∧ c.w1 ≤ 1073741824) from ⟨by omega, by omega, lw0, lw1⟩)
      go_wp2_with fail
      go_cut [8] from 34 to 52 (fun v8 wy => ShC w wy v8 P Q s0 s1)
      case first =>
        obtain ⟨W, hW⟩ : ∃ W, wr.alloc (.cells #[.int .i64 1, .int .i64 1] 37) = W := ⟨_, rfl⟩
        have hbW : Below wr.heap.size wr W := by subst hW; go_grown
        have HPt := Lib.hid (show Two2 W wr.heap.size 1 1 by subst hW; exact ⟨by go_cell, by go_cell⟩)
        have HSW := Lib.hid (HS.out.later hbW)
        have HAW := Lib.hid (LdAt.later HAt.out hbW)
        have hWz := HSW.out.s.lt
        rw [hW]
        clear hW hbW
        have hA : Below W.heap.size W W.drew := below_drewN (Below.refl _ _) 1
        refine AnyT.begin (fun w' => Below W.heap.size W w') 8 (by kernel_rfl) hA (fun hHeld => ?_)
        generalize World.drew W = wd at hA hHeld ⊢
        refine AnyT.take (i := 0) (oi := _) (v := ?_) rfl (by kernel_rfl) (by kernel_rfl) (by kernel_rfl) (by kernel_rfl) (fun _ _ _ h => h) (Or.inl ⟨by kernel_rfl, ?_⟩) (by assumption) ?_
        rotate_left 1
        · intro wz hSw; (have h1 := (HPt.out.later hSw).c0; have h2 := (HPt.out.later hSw).c1); go_simp; try with_reducible rfl
        try simp only [Act.put, List.setIfInBounds_toArray, List.set_cons_zero, List.set_cons_succ]
        refine AnyT.take (i := 1) (oi := _) (v := ?_) rfl (by kernel_rfl) (by kernel_rfl) (by kernel_rfl) (by kernel_rfl) (fun _ _ _ h => h) (Or.inl ⟨by kernel_rfl, ?_⟩) (by assumption) ?_
        rotate_left 1
        · intro wz hSw; skip; go_simp; try with_reducible rfl
        try simp only [Act.put, List.setIfInBounds_toArray, List.set_cons_zero, List.set_cons_succ]
        refine AnyT.take (i := 2) (oi := _) (v := ?_) rfl (by kernel_rfl) (by kernel_rfl) (by kernel_rfl) (by kernel_rfl) (fun _ _ _ h => h) (Or.inl ⟨by kernel_rfl, ?_⟩) (by assumption) ?_
        rotate_left 1
        · intro wz hSw; skip; go_simp; try with_reducible rfl
        try simp only [Act.put, List.setIfInBounds_toArray, List.set_cons_zero, List.set_cons_succ]
        refine AnyT.take (i := 3) (oi := _) (v := ?_) rfl (by kernel_rfl) (by kernel_rfl) (by kernel_rfl) (by kernel_rfl) (fun _ _ _ h => h) (Or.inl ⟨by kernel_rfl, ?_⟩) (by assumption) ?_
        rotate_left 1
        · intro wz hSw; skip; go_simp; try with_reducible rfl
        try simp only [Act.put, List.setIfInBounds_toArray, List.set_cons_zero, List.set_cons_succ]
        refine AnyT.take (i := 4) (oi := _) (v := ?_) rfl (by kernel_rfl) (by kernel_rfl) (by kernel_rfl) (by kernel_rfl) (fun _ _ _ h => h) (Or.inl ⟨by kernel_rfl, ?_⟩) (by assumption) ?_
        rotate_left 1
        · intro wz hSw; skip; go_simp; try with_reducible rfl
        try simp only [Act.put, List.setIfInBounds_toArray, List.set_cons_zero, List.set_cons_succ]
        refine AnyT.take (i := 5) (oi := _) (v := ?_) rfl (by kernel_rfl) (by kernel_rfl) (by kernel_rfl) (by kernel_rfl) (fun _ _ _ h => h) (Or.inl ⟨by kernel_rfl, ?_⟩) (by assumption) ?_
        rotate_left 1
        · intro wz hSw; (have h1 := (LdAt.later HAW.out hSw).c2; have h2 := (LdAt.later HAW.out hSw).c3); go_simp; try with_reducible rfl
        try simp only [Act.put, List.setIfInBounds_toArray, List.set_cons_zero, List.set_cons_succ]
        clear hHeld
        refine AnyT.some [6, 7] (by kernel_rfl) (by simp) (fun i hi => ?_)
        simp only [List.mem_cons, List.not_mem_nil, or_false] at hi
        rcases hi with rfl | rfl
        · skip
          refine AnyT.step (o := _) rfl (fun K hK => ?_)
          go_simp
          refine (rextremes_any _ _ c.w0 c.w1 _ HBd.out.1 HBd.out.2.1 HBd.out.2.2.1 HBd.out.2.2.2).mono ?_
          rintro e w6 ⟨rfl, hb6⟩
          rw [HEx.out.1, HEx.out.2]
          try replace nb := nb.later hb6
          replace hA := two hA hb6
          clear hb6
          go_wp2_with fail
          refine hK.out _ _ (fun _ => hA) ?_
          clear hK K
          try simp only [Act.put, List.setIfInBounds_toArray, List.set_cons_zero, List.set_cons_succ]
          refine AnyT.one (i := 7) (o := _) rfl (by kernel_rfl) (fun K hK => ?_)
          go_simp
          obtain ⟨w9, B9, e9, f9, hA9, nb, hn9⟩ := box_made (t := 37) hA
          rw [e9, f9]
          clear e9 f9 hA
          have hA := hA9
          clear hA9
          refine hK.out _ _ (fun _ => hA) ?_
          clear hK K
          try simp only [Act.put, List.setIfInBounds_toArray, List.set_cons_zero, List.set_cons_succ]
          obtain ⟨x0, x1, xf0, xf1⟩ := nb
          refine AnyT.one (i := 8) (o := _) rfl (by kernel_rfl) (fun K hK => ?_)
          go_simp
          refine hK.out _ _ (fun h => absurd rfl h) ?_
          clear hK K
          refine AnyT.done (by kernel_rfl) ?_
          try simp only [Act.put, List.setIfInBounds_toArray, List.set_cons_zero, List.set_cons_succ]
          go_wp2_with fail
          go_meet
          case rel => exact ⟨B9, rfl, HSW.out.later (by go_grown), ⟨by go_cell, by go_cell⟩, by omega⟩
        · skip
          refine AnyT.step (o := _) rfl (fun K hK => ?_)
          go_simp
          obtain ⟨w9, B9, e9, f9, hA9, nb, hn9⟩ := box_made (t := 37) hA
          rw [e9, f9]
          clear e9 f9 hA
          have hA := hA9
          clear hA9
          refine hK.out _ _ (fun _ => hA) ?_
          clear hK K
          try simp only [Act.put, List.setIfInBounds_toArray, List.set_cons_zero, List.set_cons_succ]
          refine AnyT.one (i := 6) (o := _) rfl (by kernel_rfl) (fun K hK => ?_)
          go_simp
          refine (rextremes_any _ _ c.w0 c.w1 _ HBd.out.1 HBd.out.2.1 HBd.out.2.2.1 HBd.out.2.2.2).mono ?_
          rintro e w6 ⟨rfl, hb6⟩
          rw [HEx.out.1, HEx.out.2]
          try replace nb := nb.later hb6
          replace hA := two hA hb6
          clear hb6
          go_wp2_with fail
          refine hK.out _ _ (fun _ => hA) ?_
          clear hK K
          try simp only [Act.put, List.setIfInBounds_toArray, List.set_cons_zero, List.set_cons_succ]
          obtain ⟨x0, x1, xf0, xf1⟩ := nb
          refine AnyT.one (i := 8) (o := _) rfl (by kernel_rfl) (fun K hK => ?_)
          go_simp
          refine hK.out _ _ (fun h => absurd rfl h) ?_
          clear hK K
          refine AnyT.done (by kernel_rfl) ?_
          try simp only [Act.put, List.setIfInBounds_toArray, List.set_cons_zero, List.set_cons_succ]
          go_wp2_with fail
          go_meet
          case rel => exact ⟨B9, rfl, HSW.out.later (by go_grown), ⟨by go_cell, by go_cell⟩, by omega⟩
      case rest =>
        obtain ⟨B, rfl, hs, k8, hlt9⟩ := hcut
        generalize wc = W at *
        have g0 : IntKind.i64.wrap (s0 + P) = s0 + P := IntWalk.i64_in _ ⟨by omega, by omega⟩
        have g1 : IntKind.i64.wrap (s1 + Q) = s1 + Q := IntWalk.i64_in _ ⟨by omega, by omega⟩
        have HS9 := Lib.hid ((hs.lo' (s0 + P)).hi' (s1 + Q))
        obtain ⟨y0, y1, yf0, yf1⟩ := hs.s
        obtain ⟨q0, q1⟩ := k8
        have n1 : w.heap.size + 1 ≠ B := by omega
        have n2 : B ≠ w.heap.size + 1 := by omega
        clear hs
        go_wp2_with fail
        go_roundw
        case rel => exact ⟨k + 1, by omega, by go_num, by rw [T0.out, T1.out]; exact HS9.out⟩
        case measure => simp [intOf]; omega
    · by_cases hb : at' ≤ c.a0
      · skip
        have HEx := Lib.hid (show exLo 0 0 c.w0 c.w1 = P ∧ exHi 0 0 c.w0 c.w1 = Q by
          have e1 : partLo at' c = 0 := by unfold partLo; first | exact if_pos ha | exact if_neg ha
          have e2 : partHi at' c = 0 := by unfold partHi; first | exact if_pos hb | exact if_neg hb
          have := HP.out
          unfold shLo shHi at this
          rw [e1, e2] at this
          exact this)
        have HBd := Lib.hid (show (-40000 ≤ (0 : Int) ∧ (0 : Int) ≤ 40000) ∧ (-40000 ≤ (0 : Int) ∧ (0 : Int) ≤ 40000) ∧ (-1073741824 ≤ c.w0 ∧ c.w0 ≤ 1073741824) ∧ (-1073741824 ≤ c.w1 ∧ c.w1 ≤ 1073741824) from ⟨by omega, by omega, lw0, lw1⟩)
        go_wp2_with fail
        go_cut [8] from 34 to 52 (fun v8 wy => ShC w wy v8 P Q s0 s1)
        case first =>
          obtain ⟨W, hW⟩ : ∃ W, wr.alloc (.cells #[.int .i64 0, .int .i64 0] 37) = W := ⟨_, rfl⟩
          have hbW : Below wr.heap.size wr W := by subst hW; go_grown
          have HPt := Lib.hid (show Two2 W wr.heap.size 0 0 by subst hW; exact ⟨by go_cell, by go_cell⟩)
          have HSW := Lib.hid (HS.out.later hbW)
          have HAW := Lib.hid (LdAt.later HAt.out hbW)
          have hWz := HSW.out.s.lt
          rw [hW]
          clear hW hbW
          have hA : Below W.heap.size W W.drew := below_drewN (Below.refl _ _) 1
          refine AnyT.begin (fun w' => Below W.heap.size W w') 8 (by kernel_rfl) hA (fun hHeld => ?_)
          generalize World.drew W = wd at hA hHeld ⊢
          refine AnyT.take (i := 0) (oi := _) (v := ?_) rfl (by kernel_rfl) (by kernel_rfl) (by kernel_rfl) (by kernel_rfl) (fun _ _ _ h => h) (Or.inl ⟨by kernel_rfl, ?_⟩) (by assumption) ?_
          rotate_left 1
          · intro wz hSw; (have h1 := (HPt.out.later hSw).c0; have h2 := (HPt.out.later hSw).c1); go_simp; try with_reducible rfl
          try simp only [Act.put, List.setIfInBounds_toArray, List.set_cons_zero, List.set_cons_succ]
          refine AnyT.take (i := 1) (oi := _) (v := ?_) rfl (by kernel_rfl) (by kernel_rfl) (by kernel_rfl) (by kernel_rfl) (fun _ _ _ h => h) (Or.inl ⟨by kernel_rfl, ?_⟩) (by assumption) ?_
          rotate_left 1
          · intro wz hSw; skip; go_simp; try with_reducible rfl
          try simp only [Act.put, List.setIfInBounds_toArray, List.set_cons_zero, List.set_cons_succ]
          refine AnyT.take (i := 2) (oi := _) (v := ?_) rfl (by kernel_rfl) (by kernel_rfl) (by kernel_rfl) (by kernel_rfl) (fun _ _ _ h => h) (Or.inl ⟨by kernel_rfl, ?_⟩) (by assumption) ?_
          rotate_left 1
          · intro wz hSw; skip; go_simp; try with_reducible rfl
          try simp only [Act.put, List.setIfInBounds_toArray, List.set_cons_zero, List.set_cons_succ]
          refine AnyT.take (i := 3) (oi := _) (v := ?_) rfl (by kernel_rfl) (by kernel_rfl) (by kernel_rfl) (by kernel_rfl) (fun _ _ _ h => h) (Or.inl ⟨by kernel_rfl, ?_⟩) (by assumption) ?_
          rotate_left 1
          · intro wz hSw; skip; go_simp; try with_reducible rfl
          try simp only [Act.put, List.setIfInBounds_toArray, List.set_cons_zero, List.set_cons_succ]
          refine AnyT.take (i := 4) (oi := _) (v := ?_) rfl (by kernel_rfl) (by kernel_rfl) (by kernel_rfl) (by kernel_rfl) (fun _ _ _ h => h) (Or.inl ⟨by kernel_rfl, ?_⟩) (by assumption) ?_
          rotate_left 1
          · intro wz hSw; skip; go_simp; try with_reducible rfl
          try simp only [Act.put, List.setIfInBounds_toArray, List.set_cons_zero, List.set_cons_succ]
          refine AnyT.take (i := 5) (oi := _) (v := ?_) rfl (by kernel_rfl) (by kernel_rfl) (by kernel_rfl) (by kernel_rfl) (fun _ _ _ h => h) (Or.inl ⟨by kernel_rfl, ?_⟩) (by assumption) ?_
          rotate_left 1
          · intro wz hSw; (have h1 := (LdAt.later HAW.out hSw).c2; have h2 := (LdAt.later HAW.out hSw).c3); go_simp; try with_reducible rfl
          try simp only [Act.put, List.setIfInBounds_toArray, List.set_cons_zero, List.set_cons_succ]
          clear hHeld
          refine AnyT.some [6, 7] (by kernel_rfl) (by simp) (fun i hi => ?_)
          simp only [List.mem_cons, List.not_mem_nil, or_false] at hi
          rcases hi with rfl | rfl
          · skip
            refine AnyT.step (o := _) rfl (fun K hK => ?_)
            go_simp
            refine (rextremes_any _ _ c.w0 c.w1 _ HBd.out.1 HBd.out.2.1 HBd.out.2.2.1 HBd.out.2.2.2).mono ?_
            rintro e w6 ⟨rfl, hb6⟩
            rw [HEx.out.1, HEx.out.2]
            try replace nb := nb.later hb6
            replace hA := two hA hb6
            clear hb6
            go_wp2_with fail
            refine hK.out _ _ (fun _ => hA) ?_
            clear hK K
            try simp only [Act.put, List.setIfInBounds_toArray, List.set_cons_zero, List.set_cons_succ]
            refine AnyT.one (i := 7) (o := _) rfl (by kernel_rfl) (fun K hK => ?_)
            go_simp
            obtain ⟨w9, B9, e9, f9, hA9, nb, hn9⟩ := box_made (t := 37) hA
            rw [e9, f9]
            clear e9 f9 hA
            have hA := hA9
            clear hA9
            refine hK.out _ _ (fun _ => hA) ?_
            clear hK K
            try simp only [Act.put, List.setIfInBounds_toArray, List.set_cons_zero, List.set_cons_succ]
            obtain ⟨x0, x1, xf0, xf1⟩ := nb
            refine AnyT.one (i := 8) (o := _) rfl (by kernel_rfl) (fun K hK => ?_)
            go_simp
            refine hK.out _ _ (fun h => absurd rfl h) ?_
            clear hK K
            refine AnyT.done (by kernel_rfl) ?_
            try simp only [Act.put, List.setIfInBounds_toArray, List.set_cons_zero, List.set_cons_succ]
            go_wp2_with fail
            go_meet
            case rel => exact ⟨B9, rfl, HSW.out.later (by go_grown), ⟨by go_cell, by go_cell⟩, by omega⟩
          · skip
            refine AnyT.step (o := _) rfl (fun K hK => ?_)
            go_simp
            obtain ⟨w9, B9, e9, f9, hA9, nb, hn9⟩ := box_made (t := 37) hA
            rw [e9, f9]
            clear e9 f9 hA
            have hA := hA9
            clear hA9
            refine hK.out _ _ (fun _ => hA) ?_
            clear hK K
            try simp only [Act.put, List.setIfInBounds_toArray, List.set_cons_zero, List.set_cons_succ]
            refine AnyT.one (i := 6) (o := _) rfl (by kernel_rfl) (fun K hK => ?_)
            go_simp
            refine (rextremes_any _ _ c.w0 c.w1 _ HBd.out.1 HBd.out.2.1 HBd.out.2.2.1 HBd.out.2.2.2).mono ?_
            rintro e w6 ⟨rfl, hb6⟩
            rw [HEx.out.1, HEx.out.2]
            try replace nb := nb.later hb6
            replace hA := two hA hb6
            clear hb6
            go_wp2_with fail
            refine hK.out _ _ (fun _ => hA) ?_
            clear hK K
            try simp only [Act.put, List.setIfInBounds_toArray, List.set_cons_zero, List.set_cons_succ]
            obtain ⟨x0, x1, xf0, xf1⟩ := nb
            refine AnyT.one (i := 8) (o := _) rfl (by kernel_rfl) (fun K hK => ?_)
            go_simp
            refine hK.out _ _ (fun h => absurd rfl h) ?_
            clear hK K
            refine AnyT.done (by kernel_rfl) ?_
            try simp only [Act.put, List.setIfInBounds_toArray, List.set_cons_zero, List.set_cons_succ]
            go_wp2_with fail
            go_meet
            case rel => exact ⟨B9, rfl, HSW.out.later (by go_grown), ⟨by go_cell, by go_cell⟩, by omega⟩
        case rest =>
          obtain ⟨B, rfl, hs, k8, hlt9⟩ := hcut
          generalize wc = W at *
          have g0 : IntKind.i64.wrap (s0 + P) = s0 + P := IntWalk.i64_in _ ⟨by omega, by omega⟩
          have g1 : IntKind.i64.wrap (s1 + Q) = s1 + Q := IntWalk.i64_in _ ⟨by omega, by omega⟩
          have HS9 := Lib.hid ((hs.lo' (s0 + P)).hi' (s1 + Q))
          obtain ⟨y0, y1, yf0, yf1⟩ := hs.s
          obtain ⟨q0, q1⟩ := k8
          have n1 : w.heap.size + 1 ≠ B := by omega
          have n2 : B ≠ w.heap.size + 1 := by omega
          clear hs
          go_wp2_with fail
          go_roundw
          case rel => exact ⟨k + 1, by omega, by go_num, by rw [T0.out, T1.out]; exact HS9.out⟩
          case measure => simp [intOf]; omega
      · skip
        have HEx := Lib.hid (show exLo 0 1 c.w0 c.w1 = P ∧ exHi 0 1 c.w0 c.w1 = Q by
          have e1 : partLo at' c = 0 := by unfold partLo; first | exact if_pos ha | exact if_neg ha
          have e2 : partHi at' c = 1 := by unfold partHi; first | exact if_pos hb | exact if_neg hb
          have := HP.out
          unfold shLo shHi at this
          rw [e1, e2] at this
          exact this)
        have HBd := Lib.hid (show (-40000 ≤ (0 : Int) ∧ (0 : Int) ≤ 40000) ∧ (-40000 ≤ (1 : Int) ∧ (1 : Int) ≤ 40000) ∧ (-1073741824 ≤ c.w0 ∧ c.w0 ≤ 1073741824) ∧ (-1073741824 ≤ c.w1 ∧ c.w1 ≤ 1073741824) from ⟨by omega, by omega, lw0, lw1⟩)
        go_wp2_with fail
        go_cut [8] from 34 to 52 (fun v8 wy => ShC w wy v8 P Q s0 s1)
        case first =>
          obtain ⟨W, hW⟩ : ∃ W, wr.alloc (.cells #[.int .i64 0, .int .i64 1] 37) = W := ⟨_, rfl⟩
          have hbW : Below wr.heap.size wr W := by subst hW; go_grown
          have HPt := Lib.hid (show Two2 W wr.heap.size 0 1 by subst hW; exact ⟨by go_cell, by go_cell⟩)
          have HSW := Lib.hid (HS.out.later hbW)
          have HAW := Lib.hid (LdAt.later HAt.out hbW)
          have hWz := HSW.out.s.lt
          rw [hW]
          clear hW hbW
          have hA : Below W.heap.size W W.drew := below_drewN (Below.refl _ _) 1
          refine AnyT.begin (fun w' => Below W.heap.size W w') 8 (by kernel_rfl) hA (fun hHeld => ?_)
          generalize World.drew W = wd at hA hHeld ⊢
          refine AnyT.take (i := 0) (oi := _) (v := ?_) rfl (by kernel_rfl) (by kernel_rfl) (by kernel_rfl) (by kernel_rfl) (fun _ _ _ h => h) (Or.inl ⟨by kernel_rfl, ?_⟩) (by assumption) ?_
          rotate_left 1
          · intro wz hSw; (have h1 := (HPt.out.later hSw).c0; have h2 := (HPt.out.later hSw).c1); go_simp; try with_reducible rfl
          try simp only [Act.put, List.setIfInBounds_toArray, List.set_cons_zero, List.set_cons_succ]
          refine AnyT.take (i := 1) (oi := _) (v := ?_) rfl (by kernel_rfl) (by kernel_rfl) (by kernel_rfl) (by kernel_rfl) (fun _ _ _ h => h) (Or.inl ⟨by kernel_rfl, ?_⟩) (by assumption) ?_
          rotate_left 1
          · intro wz hSw; skip; go_simp; try with_reducible rfl
          try simp only [Act.put, List.setIfInBounds_toArray, List.set_cons_zero, List.set_cons_succ]
          refine AnyT.take (i := 2) (oi := _) (v := ?_) rfl (by kernel_rfl) (by kernel_rfl) (by kernel_rfl) (by kernel_rfl) (fun _ _ _ h => h) (Or.inl ⟨by kernel_rfl, ?_⟩) (by assumption) ?_
          rotate_left 1
          · intro wz hSw; skip; go_simp; try with_reducible rfl
          try simp only [Act.put, List.setIfInBounds_toArray, List.set_cons_zero, List.set_cons_succ]
          refine AnyT.take (i := 3) (oi := _) (v := ?_) rfl (by kernel_rfl) (by kernel_rfl) (by kernel_rfl) (by kernel_rfl) (fun _ _ _ h => h) (Or.inl ⟨by kernel_rfl, ?_⟩) (by assumption) ?_
          rotate_left 1
          · intro wz hSw; skip; go_simp; try with_reducible rfl
          try simp only [Act.put, List.setIfInBounds_toArray, List.set_cons_zero, List.set_cons_succ]
          refine AnyT.take (i := 4) (oi := _) (v := ?_) rfl (by kernel_rfl) (by kernel_rfl) (by kernel_rfl) (by kernel_rfl) (fun _ _ _ h => h) (Or.inl ⟨by kernel_rfl, ?_⟩) (by assumption) ?_
          rotate_left 1
          · intro wz hSw; skip; go_simp; try with_reducible rfl
          try simp only [Act.put, List.setIfInBounds_toArray, List.set_cons_zero, List.set_cons_succ]
          refine AnyT.take (i := 5) (oi := _) (v := ?_) rfl (by kernel_rfl) (by kernel_rfl) (by kernel_rfl) (by kernel_rfl) (fun _ _ _ h => h) (Or.inl ⟨by kernel_rfl, ?_⟩) (by assumption) ?_
          rotate_left 1
          · intro wz hSw; (have h1 := (LdAt.later HAW.out hSw).c2; have h2 := (LdAt.later HAW.out hSw).c3); go_simp; try with_reducible rfl
          try simp only [Act.put, List.setIfInBounds_toArray, List.set_cons_zero, List.set_cons_succ]
          clear hHeld
          refine AnyT.some [6, 7] (by kernel_rfl) (by simp) (fun i hi => ?_)
          simp only [List.mem_cons, List.not_mem_nil, or_false] at hi
          rcases hi with rfl | rfl
          · skip
            refine AnyT.step (o := _) rfl (fun K hK => ?_)
            go_simp
            refine (rextremes_any _ _ c.w0 c.w1 _ HBd.out.1 HBd.out.2.1 HBd.out.2.2.1 HBd.out.2.2.2).mono ?_
            rintro e w6 ⟨rfl, hb6⟩
            rw [HEx.out.1, HEx.out.2]
            try replace nb := nb.later hb6
            replace hA := two hA hb6
            clear hb6
            go_wp2_with fail
            refine hK.out _ _ (fun _ => hA) ?_
            clear hK K
            try simp only [Act.put, List.setIfInBounds_toArray, List.set_cons_zero, List.set_cons_succ]
            refine AnyT.one (i := 7) (o := _) rfl (by kernel_rfl) (fun K hK => ?_)
            go_simp
            obtain ⟨w9, B9, e9, f9, hA9, nb, hn9⟩ := box_made (t := 37) hA
            rw [e9, f9]
            clear e9 f9 hA
            have hA := hA9
            clear hA9
            refine hK.out _ _ (fun _ => hA) ?_
            clear hK K
            try simp only [Act.put, List.setIfInBounds_toArray, List.set_cons_zero, List.set_cons_succ]
            obtain ⟨x0, x1, xf0, xf1⟩ := nb
            refine AnyT.one (i := 8) (o := _) rfl (by kernel_rfl) (fun K hK => ?_)
            go_simp
            refine hK.out _ _ (fun h => absurd rfl h) ?_
            clear hK K
            refine AnyT.done (by kernel_rfl) ?_
            try simp only [Act.put, List.setIfInBounds_toArray, List.set_cons_zero, List.set_cons_succ]
            go_wp2_with fail
            go_meet
            case rel => exact ⟨B9, rfl, HSW.out.later (by go_grown), ⟨by go_cell, by go_cell⟩, by omega⟩
          · skip
            refine AnyT.step (o := _) rfl (fun K hK => ?_)
            go_simp
            obtain ⟨w9, B9, e9, f9, hA9, nb, hn9⟩ := box_made (t := 37) hA
            rw [e9, f9]
            clear e9 f9 hA
            have hA := hA9
            clear hA9
            refine hK.out _ _ (fun _ => hA) ?_
            clear hK K
            try simp only [Act.put, List.setIfInBounds_toArray, List.set_cons_zero, List.set_cons_succ]
            refine AnyT.one (i := 6) (o := _) rfl (by kernel_rfl) (fun K hK => ?_)
            go_simp
            refine (rextremes_any _ _ c.w0 c.w1 _ HBd.out.1 HBd.out.2.1 HBd.out.2.2.1 HBd.out.2.2.2).mono ?_
            rintro e w6 ⟨rfl, hb6⟩
            rw [HEx.out.1, HEx.out.2]
            try replace nb := nb.later hb6
            replace hA := two hA hb6
            clear hb6
            go_wp2_with fail
            refine hK.out _ _ (fun _ => hA) ?_
            clear hK K
            try simp only [Act.put, List.setIfInBounds_toArray, List.set_cons_zero, List.set_cons_succ]
            obtain ⟨x0, x1, xf0, xf1⟩ := nb
            refine AnyT.one (i := 8) (o := _) rfl (by kernel_rfl) (fun K hK => ?_)
            go_simp
            refine hK.out _ _ (fun h => absurd rfl h) ?_
            clear hK K
            refine AnyT.done (by kernel_rfl) ?_
            try simp only [Act.put, List.setIfInBounds_toArray, List.set_cons_zero, List.set_cons_succ]
            go_wp2_with fail
            go_meet
            case rel => exact ⟨B9, rfl, HSW.out.later (by go_grown), ⟨by go_cell, by go_cell⟩, by omega⟩
        case rest =>
          obtain ⟨B, rfl, hs, k8, hlt9⟩ := hcut
          generalize wc = W at *
          have g0 : IntKind.i64.wrap (s0 + P) = s0 + P := IntWalk.i64_in _ ⟨by omega, by omega⟩
          have g1 : IntKind.i64.wrap (s1 + Q) = s1 + Q := IntWalk.i64_in _ ⟨by omega, by omega⟩
          have HS9 := Lib.hid ((hs.lo' (s0 + P)).hi' (s1 + Q))
          obtain ⟨y0, y1, yf0, yf1⟩ := hs.s
          obtain ⟨q0, q1⟩ := k8
          have n1 : w.heap.size + 1 ≠ B := by omega
          have n2 : B ≠ w.heap.size + 1 := by omega
          clear hs
          go_wp2_with fail
          go_roundw
          case rel => exact ⟨k + 1, by omega, by go_num, by rw [T0.out, T1.out]; exact HS9.out⟩
          case measure => simp [intOf]; omega
set_option linter.unusedSimpArgs false in
set_option maxRecDepth 100000 in
set_option maxHeartbeats 8000000 in
theorem rbend_any (at' : Int) (v : Value) (ls : List Ld) (w : World) (hv : SlLd w v ls) (h50 : ls.length ≤ 50) (hl : ∀ l, l ∈ ls → l.ok = true) (h0 : -20000 ≤ at') (h1 : at' ≤ 20000) :
    Calls Try.prog 79 #[v, .int .i64 at'] w fun e w' => e = .returned (sp (sumE (bdLo at') ls) (sumE (bdHi at') ls)) ∧ Below w.heap.size w w' := by
  obtain ⟨ad, cap, rfl, hlen, hcap⟩ := hv.form
  have HV := Lib.hid hv
  have HL := Lib.hid hl
  obtain ⟨E, hE⟩ : ∃ x, sumE (bdLo at') ls = x := ⟨_, rfl⟩
  obtain ⟨F, hF⟩ : ∃ x, sumE (bdHi at') ls = x := ⟨_, rfl⟩
  have HE := Lib.hid hE
  have HF := Lib.hid hF
  rw [hE, hF]
  clear hv hl hE hF
  go_enter Try.func79, Try.ntmps79
  go_wp2_with fail
  go_loopw [6] (fun v6 wr => SuHead (bdLo at') (bdHi at') ls w wr v6) (fun v6 _ => ls.length - (intOf v6).toNat)
  case atStart =>
    have hs9 : SuS w ((w.alloc (.cells #[.int .i64 0, .int .i64 0] 37)).alloc (.cells #[.int .i64 0, .int .i64 0] 37)) w.heap.size 0 0 := ⟨by go_grown, ⟨by go_cell, by go_cell, by go_cell, by go_cell⟩, ⟨by go_cell, by go_cell, by go_cell, by go_cell⟩, Nat.le_refl _⟩
    exact ⟨0, by omega, rfl, hs9⟩
  case round =>
    obtain ⟨k, hk, rfl, hS⟩ := hrel
    have HS := Lib.hid hS
    clear hS
    by_cases hlt : k < ls.length
    rotate_left 1
    · skip
      have hkk : ls.take k = ls := List.take_of_length_le (by omega)
      rw [hkk, HE.out, HF.out] at HS
      obtain ⟨s0, s1, sf0, sf1⟩ := HS.out.s
      obtain ⟨r0, r1, rf0, rf1⟩ := HS.out.r
      have hbe := HS.out.below
      have z0 := HS.out.r.lt
      clear hkk
      go_wp2_with fail
      exact bodyPost_ret (v := sp E F) (by simp [results, Try.results79, go_sem, *]) rfl ⟨rfl, by go_grown⟩
    obtain ⟨bk, off, c, rfl, hb, hc, hat⟩ := HV.out.at hlt
    obtain ⟨c0, c1, c2, c3⟩ := LdAt.later hat (show Below w.heap.size w wr from HS.out.below)
    have hzb := World.block_lt_of_cell? _ _ c0
    have hok := HL.out c (List.mem_of_getElem? hc)
    obtain ⟨la0, la1, lw0, lw1⟩ := ld_in hok
    have hlt' : (k : Int) < (ls.length : Int) := by omega
    have hk0 : (0 : Int) ≤ (k : Int) := by omega
    have hkt : ((k : Int).toNat) = k := by omega
    have T0 := Lib.hid (sum_take (f := bdLo at') hc)
    have T1 := Lib.hid (sum_take (f := bdHi at') hc)
    have b0 := sums_bd (f := bdLo at') k (fun l hl => (bd_bd h0 h1 (HL.out l hl)).1) h50
    have b1 := sums_bd (f := bdHi at') k (fun l hl => (bd_bd h0 h1 (HL.out l hl)).2) h50
    obtain ⟨s0, e0⟩ : ∃ X, sumE (bdLo at') (ls.take k) = X := ⟨_, rfl⟩
    obtain ⟨s1, e1⟩ : ∃ X, sumE (bdHi at') (ls.take k) = X := ⟨_, rfl⟩
    obtain ⟨⟨p0, p1⟩, p2, p3⟩ := bd_bd h0 h1 hok
    obtain ⟨P, hP⟩ : ∃ X, bdLo at' c = X := ⟨_, rfl⟩
    obtain ⟨Q, hQ⟩ : ∃ X, bdHi at' c = X := ⟨_, rfl⟩
    rw [e0] at b0 T0 HS
    rw [e1] at b1 T1 HS
    rw [hP] at p0 p1 T0
    rw [hQ] at p2 p3 T1
    obtain ⟨b00, b01⟩ := b0
    obtain ⟨b10, b11⟩ := b1
    have HP := Lib.hid (And.intro hP hQ)
    clear hat e0 e1 hP hQ hc
    have HAt := Lib.hid (LdAt.mk c0 c1 c2 c3)
    have hza := arm_bd h0 h1 la0.1 la0.2
    have hzb' := arm_bd h0 h1 la1.1 la1.2
    obtain ⟨X, hX⟩ : ∃ x, arm at' c.a1 = x := ⟨_, rfl⟩
    obtain ⟨Y, hY⟩ : ∃ x, arm at' c.a0 = x := ⟨_, rfl⟩
    rw [hY] at hza
    rw [hX] at hzb'
    have HEx := Lib.hid (show exLo X Y c.w0 c.w1 = P ∧ exHi X Y c.w0 c.w1 = Q by rw [← hX, ← hY]; exact HP.out)
    have hX' : max 0 (at' - c.a1) = X := by rw [← hX]; unfold arm; omega
    have hY' : max 0 (at' - c.a0) = Y := by rw [← hY]; unfold arm; omega
    have g1 : IntKind.i64.wrap (at' - c.a1) = at' - c.a1 := IntWalk.i64_in _ ⟨by omega, by omega⟩
    have g2 : IntKind.i64.wrap (at' - c.a0) = at' - c.a0 := IntWalk.i64_in _ ⟨by omega, by omega⟩
    have HBd := Lib.hid (And.intro hzb' (And.intro hza (And.intro lw0 lw1)))
    clear hX hY hza hzb'
    go_wp2_with fail
    go_cut [7] from 14 to 50 (fun v7 wy => ShC w wy v7 P Q s0 s1)
    case first =>
      have HSW := Lib.hid HS.out
      have hWz := HS.out.s.lt
      have hA : Below wr.heap.size wr wr.drew := below_drewN (Below.refl _ _) 1
      generalize wr = W at *
      refine AnyT.begin (fun w' => Below W.heap.size W w') 26 (by kernel_rfl) hA (fun hHeld => ?_)
      generalize World.drew W = wd at hA hHeld ⊢
      refine AnyT.take (i := 0) (oi := _) (v := ?_) rfl (by kernel_rfl) (by kernel_rfl) (by kernel_rfl) (by kernel_rfl) (fun _ _ _ h => h) (Or.inl ⟨by kernel_rfl, ?_⟩) (by assumption) ?_
      rotate_left 1
      · intro wz hSw; skip; go_simp; try with_reducible rfl
      try simp only [Act.put, List.setIfInBounds_toArray, List.set_cons_zero, List.set_cons_succ]
      refine AnyT.take (i := 1) (oi := _) (v := ?_) rfl (by kernel_rfl) (by kernel_rfl) (by kernel_rfl) (by kernel_rfl) (fun _ _ _ h => h) (Or.inl ⟨by kernel_rfl, ?_⟩) (by assumption) ?_
      rotate_left 1
      · intro wz hSw; skip; go_simp; try with_reducible rfl
      try simp only [Act.put, List.setIfInBounds_toArray, List.set_cons_zero, List.set_cons_succ]
      refine AnyT.take (i := 2) (oi := _) (v := ?_) rfl (by kernel_rfl) (by kernel_rfl) (by kernel_rfl) (by kernel_rfl) (fun _ _ _ h => h) (Or.inl ⟨by kernel_rfl, ?_⟩) (by assumption) ?_
      rotate_left 1
      · intro wz hSw; skip; go_simp; try with_reducible rfl
      try simp only [Act.put, List.setIfInBounds_toArray, List.set_cons_zero, List.set_cons_succ]
      refine AnyT.take (i := 3) (oi := _) (v := ?_) rfl (by kernel_rfl) (by kernel_rfl) (by kernel_rfl) (by kernel_rfl) (fun _ _ _ h => h) (Or.inl ⟨by kernel_rfl, ?_⟩) (by assumption) ?_
      rotate_left 1
      · intro wz hSw; skip; go_simp; try with_reducible rfl
      try simp only [Act.put, List.setIfInBounds_toArray, List.set_cons_zero, List.set_cons_succ]
      refine AnyT.take (i := 4) (oi := _) (v := ?_) rfl (by kernel_rfl) (by kernel_rfl) (by kernel_rfl) (by kernel_rfl) (fun _ _ _ h => h) (Or.inl ⟨by kernel_rfl, ?_⟩) (by assumption) ?_
      rotate_left 1
      · intro wz hSw; skip; go_simp; try with_reducible rfl
      try simp only [Act.put, List.setIfInBounds_toArray, List.set_cons_zero, List.set_cons_succ]
      refine AnyT.take (i := 5) (oi := _) (v := ?_) rfl (by kernel_rfl) (by kernel_rfl) (by kernel_rfl) (by kernel_rfl) (fun _ _ _ h => h) (Or.inl ⟨by kernel_rfl, ?_⟩) (by assumption) ?_
      rotate_left 1
      · intro wz hSw; skip; go_simp; try with_reducible rfl
      try simp only [Act.put, List.setIfInBounds_toArray, List.set_cons_zero, List.set_cons_succ]
      refine AnyT.take (i := 6) (oi := _) (v := ?_) rfl (by kernel_rfl) (by kernel_rfl) (by kernel_rfl) (by kernel_rfl) (fun _ _ _ h => h) (Or.inl ⟨by kernel_rfl, ?_⟩) (by assumption) ?_
      rotate_left 1
      · intro wz hSw; have h1 := (LdAt.later HAt.out hSw).c1; go_simp; try with_reducible rfl
      try simp only [Act.put, List.setIfInBounds_toArray, List.set_cons_zero, List.set_cons_succ]
      refine AnyT.take (i := 7) (oi := _) (v := ?_) rfl (by kernel_rfl) (by kernel_rfl) (by kernel_rfl) (by kernel_rfl) (fun _ _ _ h => h) (Or.inl ⟨by kernel_rfl, ?_⟩) (by assumption) ?_
      rotate_left 1
      · intro wz hSw; skip; go_simp; try with_reducible rfl
      try simp only [Act.put, List.setIfInBounds_toArray, List.set_cons_zero, List.set_cons_succ]
      refine AnyT.take (i := 8) (oi := _) (v := ?_) rfl (by kernel_rfl) (by kernel_rfl) (by kernel_rfl) (by kernel_rfl) (fun _ _ _ h => h) (Or.inl ⟨by kernel_rfl, ?_⟩) (by assumption) ?_
      rotate_left 1
      · intro wz hSw; skip; go_simp; try with_reducible rfl
      try simp only [Act.put, List.setIfInBounds_toArray, List.set_cons_zero, List.set_cons_succ]
      refine AnyT.take (i := 9) (oi := _) (v := ?_) rfl (by kernel_rfl) (by kernel_rfl) (by kernel_rfl) (by kernel_rfl) (fun _ _ _ h => h) (Or.inl ⟨by kernel_rfl, ?_⟩) (by assumption) ?_
      rotate_left 1
      · intro wz hSw; skip; go_simp; try with_reducible rfl
      try simp only [Act.put, List.setIfInBounds_toArray, List.set_cons_zero, List.set_cons_succ]
      refine AnyT.take (i := 10) (oi := _) (v := ?_) rfl (by kernel_rfl) (by kernel_rfl) (by kernel_rfl) (by kernel_rfl) (fun _ _ _ h => h) (Or.inl ⟨by kernel_rfl, ?_⟩) (by assumption) ?_
      rotate_left 1
      · intro wz hSw; skip; go_simp; try with_reducible rfl
      try simp only [Act.put, List.setIfInBounds_toArray, List.set_cons_zero, List.set_cons_succ]
      refine AnyT.take (i := 11) (oi := _) (v := ?_) rfl (by kernel_rfl) (by kernel_rfl) (by kernel_rfl) (by kernel_rfl) (fun _ _ _ h => h) (Or.inl ⟨by kernel_rfl, ?_⟩) (by assumption) ?_
      rotate_left 1
      · intro wz hSw; skip; go_simp; try with_reducible rfl
      try simp only [Act.put, List.setIfInBounds_toArray, List.set_cons_zero, List.set_cons_succ]
      refine AnyT.take (i := 12) (oi := _) (v := ?_) rfl (by kernel_rfl) (by kernel_rfl) (by kernel_rfl) (by kernel_rfl) (fun _ _ _ h => h) (Or.inl ⟨by kernel_rfl, ?_⟩) (by assumption) ?_
      rotate_left 1
      · intro wz hSw; skip; go_simp; try with_reducible rfl
      try simp only [Act.put, List.setIfInBounds_toArray, List.set_cons_zero, List.set_cons_succ]
      refine AnyT.take (i := 13) (oi := _) (v := ?_) rfl (by kernel_rfl) (by kernel_rfl) (by kernel_rfl) (by kernel_rfl) (fun _ _ _ h => h) (Or.inl ⟨by kernel_rfl, ?_⟩) (by assumption) ?_
      rotate_left 1
      · intro wz hSw; skip; go_simp; try with_reducible rfl
      try simp only [Act.put, List.setIfInBounds_toArray, List.set_cons_zero, List.set_cons_succ]
      refine AnyT.take (i := 14) (oi := _) (v := ?_) rfl (by kernel_rfl) (by kernel_rfl) (by kernel_rfl) (by kernel_rfl) (fun _ _ _ h => h) (Or.inl ⟨by kernel_rfl, ?_⟩) (by assumption) ?_
      rotate_left 1
      · intro wz hSw; skip; go_simp; try with_reducible rfl
      try simp only [Act.put, List.setIfInBounds_toArray, List.set_cons_zero, List.set_cons_succ]
      refine AnyT.take (i := 15) (oi := _) (v := ?_) rfl (by kernel_rfl) (by kernel_rfl) (by kernel_rfl) (by kernel_rfl) (fun _ _ _ h => h) (Or.inl ⟨by kernel_rfl, ?_⟩) (by assumption) ?_
      rotate_left 1
      · intro wz hSw; have h1 := (LdAt.later HAt.out hSw).c0; go_simp; try with_reducible rfl
      try simp only [Act.put, List.setIfInBounds_toArray, List.set_cons_zero, List.set_cons_succ]
      refine AnyT.take (i := 16) (oi := _) (v := ?_) rfl (by kernel_rfl) (by kernel_rfl) (by kernel_rfl) (by kernel_rfl) (fun _ _ _ h => h) (Or.inl ⟨by kernel_rfl, ?_⟩) (by assumption) ?_
      rotate_left 1
      · intro wz hSw; skip; go_simp; try with_reducible rfl
      try simp only [Act.put, List.setIfInBounds_toArray, List.set_cons_zero, List.set_cons_succ]
      refine AnyT.take (i := 17) (oi := _) (v := ?_) rfl (by kernel_rfl) (by kernel_rfl) (by kernel_rfl) (by kernel_rfl) (fun _ _ _ h => h) (Or.inl ⟨by kernel_rfl, ?_⟩) (by assumption) ?_
      rotate_left 1
      · intro wz hSw; skip; go_simp; try with_reducible rfl
      try simp only [Act.put, List.setIfInBounds_toArray, List.set_cons_zero, List.set_cons_succ]
      refine AnyT.take (i := 18) (oi := _) (v := ?_) rfl (by kernel_rfl) (by kernel_rfl) (by kernel_rfl) (by kernel_rfl) (fun _ _ _ h => h) (Or.inl ⟨by kernel_rfl, ?_⟩) (by assumption) ?_
      rotate_left 1
      · intro wz hSw; skip; go_simp; try with_reducible rfl
      try simp only [Act.put, List.setIfInBounds_toArray, List.set_cons_zero, List.set_cons_succ]
      refine AnyT.take (i := 19) (oi := _) (v := ?_) rfl (by kernel_rfl) (by kernel_rfl) (by kernel_rfl) (by kernel_rfl) (fun _ _ _ h => h) (Or.inl ⟨by kernel_rfl, ?_⟩) (by assumption) ?_
      rotate_left 1
      · intro wz hSw; skip; go_simp; try with_reducible rfl
      try simp only [Act.put, List.setIfInBounds_toArray, List.set_cons_zero, List.set_cons_succ]
      refine AnyT.take (i := 20) (oi := _) (v := ?_) rfl (by kernel_rfl) (by kernel_rfl) (by kernel_rfl) (by kernel_rfl) (fun _ _ _ h => h) (Or.inl ⟨by kernel_rfl, ?_⟩) (by assumption) ?_
      rotate_left 1
      · intro wz hSw; skip; go_simp; try with_reducible rfl
      try simp only [Act.put, List.setIfInBounds_toArray, List.set_cons_zero, List.set_cons_succ]
      refine AnyT.take (i := 21) (oi := _) (v := ?_) rfl (by kernel_rfl) (by kernel_rfl) (by kernel_rfl) (by kernel_rfl) (fun _ _ _ h => h) (Or.inl ⟨by kernel_rfl, ?_⟩) (by assumption) ?_
      rotate_left 1
      · intro wz hSw; skip; go_simp; try with_reducible rfl
      try simp only [Act.put, List.setIfInBounds_toArray, List.set_cons_zero, List.set_cons_succ]
      refine AnyT.take (i := 22) (oi := _) (v := ?_) rfl (by kernel_rfl) (by kernel_rfl) (by kernel_rfl) (by kernel_rfl) (fun _ _ _ h => h) (Or.inl ⟨by kernel_rfl, ?_⟩) (by assumption) ?_
      rotate_left 1
      · intro wz hSw; skip; go_simp; try with_reducible rfl
      try simp only [Act.put, List.setIfInBounds_toArray, List.set_cons_zero, List.set_cons_succ]
      refine AnyT.take (i := 23) (oi := _) (v := ?_) rfl (by kernel_rfl) (by kernel_rfl) (by kernel_rfl) (by kernel_rfl) (fun _ _ _ h => h) (Or.inl ⟨by kernel_rfl, ?_⟩) (by assumption) ?_
      rotate_left 1
      · intro wz hSw; (have h1 := (LdAt.later HAt.out hSw).c2; have h2 := (LdAt.later HAt.out hSw).c3); go_simp; try with_reducible rfl
      try simp only [Act.put, List.setIfInBounds_toArray, List.set_cons_zero, List.set_cons_succ]
      clear hHeld
      refine AnyT.some [24, 25] (by kernel_rfl) (by simp) (fun i hi => ?_)
      simp only [List.mem_cons, List.not_mem_nil, or_false] at hi
      rcases hi with rfl | rfl
      · skip
        refine AnyT.step (o := _) rfl (fun K hK => ?_)
        go_simp
        refine (rextremes_any _ _ c.w0 c.w1 _ HBd.out.1 HBd.out.2.1 HBd.out.2.2.1 HBd.out.2.2.2).mono ?_
        rintro e w6 ⟨rfl, hb6⟩
        rw [HEx.out.1, HEx.out.2]
        try replace nb := nb.later hb6
        replace hA := two hA hb6
        clear hb6
        go_wp2_with fail
        refine hK.out _ _ (fun _ => hA) ?_
        clear hK K
        try simp only [Act.put, List.setIfInBounds_toArray, List.set_cons_zero, List.set_cons_succ]
        refine AnyT.one (i := 25) (o := _) rfl (by kernel_rfl) (fun K hK => ?_)
        go_simp
        obtain ⟨w9, B9, e9, f9, hA9, nb, hn9⟩ := box_made (t := 37) hA
        rw [e9, f9]
        clear e9 f9 hA
        have hA := hA9
        clear hA9
        refine hK.out _ _ (fun _ => hA) ?_
        clear hK K
        try simp only [Act.put, List.setIfInBounds_toArray, List.set_cons_zero, List.set_cons_succ]
        obtain ⟨x0, x1, xf0, xf1⟩ := nb
        refine AnyT.one (i := 26) (o := _) rfl (by kernel_rfl) (fun K hK => ?_)
        go_simp
        refine hK.out _ _ (fun h => absurd rfl h) ?_
        clear hK K
        refine AnyT.done (by kernel_rfl) ?_
        try simp only [Act.put, List.setIfInBounds_toArray, List.set_cons_zero, List.set_cons_succ]
        go_wp2_with fail
        go_meet
        case rel => exact ⟨B9, rfl, HSW.out.later (by go_grown), ⟨by go_cell, by go_cell⟩, by omega⟩
      · skip
        refine AnyT.step (o := _) rfl (fun K hK => ?_)
        go_simp
        obtain ⟨w9, B9, e9, f9, hA9, nb, hn9⟩ := box_made (t := 37) hA
        rw [e9, f9]
        clear e9 f9 hA
        have hA := hA9
        clear hA9
        refine hK.out _ _ (fun _ => hA) ?_
        clear hK K
        try simp only [Act.put, List.setIfInBounds_toArray, List.set_cons_zero, List.set_cons_succ]
        refine AnyT.one (i := 24) (o := _) rfl (by kernel_rfl) (fun K hK => ?_)
        go_simp
        refine (rextremes_any _ _ c.w0 c.w1 _ HBd.out.1 HBd.out.2.1 HBd.out.2.2.1 HBd.out.2.2.2).mono ?_
        rintro e w6 ⟨rfl, hb6⟩
        rw [HEx.out.1, HEx.out.2]
        try replace nb := nb.later hb6
        replace hA := two hA hb6
        clear hb6
        go_wp2_with fail
        refine hK.out _ _ (fun _ => hA) ?_
        clear hK K
        try simp only [Act.put, List.setIfInBounds_toArray, List.set_cons_zero, List.set_cons_succ]
        obtain ⟨x0, x1, xf0, xf1⟩ := nb
        refine AnyT.one (i := 26) (o := _) rfl (by kernel_rfl) (fun K hK => ?_)
        go_simp
        refine hK.out _ _ (fun h => absurd rfl h) ?_
        clear hK K
        refine AnyT.done (by kernel_rfl) ?_
        try simp only [Act.put, List.setIfInBounds_toArray, List.set_cons_zero, List.set_cons_succ]
        go_wp2_with fail
        go_meet
        case rel => exact ⟨B9, rfl, HSW.out.later (by go_grown), ⟨by go_cell, by go_cell⟩, by omega⟩
    case rest =>
      obtain ⟨B, rfl, hs, k8, hlt9⟩ := hcut
      generalize wc = W at *
      have g0 : IntKind.i64.wrap (s0 + P) = s0 + P := IntWalk.i64_in _ ⟨by omega, by omega⟩
      have g1 : IntKind.i64.wrap (s1 + Q) = s1 + Q := IntWalk.i64_in _ ⟨by omega, by omega⟩
      have HS9 := Lib.hid ((hs.lo' (s0 + P)).hi' (s1 + Q))
      obtain ⟨y0, y1, yf0, yf1⟩ := hs.s
      obtain ⟨q0, q1⟩ := k8
      have n1 : w.heap.size + 1 ≠ B := by omega
      have n2 : B ≠ w.heap.size + 1 := by omega
      clear hs
      go_wp2_with fail
      go_roundw
      case rel => exact ⟨k + 1, by omega, by go_num, by rw [T0.out, T1.out]; exact HS9.out⟩
      case measure => simp [intOf]; omega
end Go.Proofs.Ytmadkefpjoheeaa
