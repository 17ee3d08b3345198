/- TrimWorst: the walk. -/
import Derived.Test.YtldnpnplgfkebaaWTEnds
namespace Go.Proofs.Ytldnpnplgfkebaa
open Go.RowKit

set_option maxHeartbeats 2000000 in
theorem trimWorst_great (a0 : Option Addr) (l0 c0 : Nat) (x : Li) (a2 : Option Addr) (l2 c2 : Nat) (w : World) (hg : 50 < l0) :
    Calls Try.prog 10 #[.slice a0 l0 c0, liV x, .slice a2 l2 c2] w fun e w' => e = .returned (.bool true) ∧ Below w.heap.size w w' := by
  go_enter Try.func10, Try.ntmps10
  go_wp2_with fail
  refine (alive_any _).mono ?_
  rintro e w1 ⟨rfl, hb1⟩
  have hB1 : Below w.heap.size w w1 := (after (w := w) (by go_grown) hb1).1
  obtain ⟨x0, x1, x2⟩ : Three w1 w.heap.size x.a x.b x.c := Three.later ⟨by go_cell, by go_cell, by go_cell⟩ hb1
  clear hb1
  go_wp2_with fail
  refine (valid_great a0 l0 c0 _ 1 1 _ (.inl hg)).mono ?_
  rintro e w2 ⟨rfl, hb2⟩
  have hB2 : Below w.heap.size w w2 := hB1.trans ((two (W := w1) (by go_grown) hb2).mono hB1.size)
  clear hb2
  go_wp2_with fail
  go_returns
  exact ⟨rfl, hB2⟩
theorem mostE_ok {a b : Int} {l : Ld} (hs : ScB a b) (h : l.ok = true) : -21475910221824000 ≤ mostE a b l ∧ mostE a b l ≤ 21475910221824000 := by
  obtain ⟨a0, a1, b0, b1⟩ := hs
  obtain ⟨g0, g1, g2, g3⟩ := worst_in a b h
  unfold Ld.ok at h
  rw [Bool.and_eq_true, spB_iff, spB_iff] at h
  unfold mostE valE
  have h1 := mul_lim (m := 1000) (n := 20000) (x := b) (y := (worstP a b l).p) b0 b1 (by omega) (by omega)
  have h2 := mul_lim (m := 1073741824) (n := 20001000) (x := (worstP a b l).w) (y := a + b * (worstP a b l).p) (by omega) (by omega) (by omega) (by omega)
  omega
theorem mostL_ok {a b : Int} {ls : List Ld} (hs : ScB a b) (h : loadsN ls = 0) : -900000000000000000 ≤ mostL a b ls ∧ mostL a b ls ≤ 900000000000000000 := by
  have h40 := (loadsN_ok h).1
  have := sum_bound (f := mostE a b) (m := 21475910221824000) ls (fun l hl => mostE_ok hs (all_ok h l hl))
  unfold mostL
  omega
theorem both_one {ls : List Ld} {x : Li} {C : Int} (h : loadsN ls = 0) (hx : x.ok = true) (h0 : -1000000000000000000 ≤ C) (h1 : C ≤ 1000000000000000000) : bothN ls [⟨x.a, x.b, C⟩] = 0 := by
  have hc : (⟨x.a, x.b, C⟩ : Li).ok = true := by
    unfold Li.ok at hx ⊢
    rw [Bool.and_eq_true, Bool.and_eq_true] at hx ⊢
    exact ⟨hx.1, inB_iff.2 ⟨h0, h1⟩⟩
  unfold bothN limitsN listN
  rw [if_pos h]
  simp [hc]
/-- A limit that is just as much is kept, and one of 1 less is not. -/
theorem breach_at (v u : Value) (ls : List Ld) (x : Li) (C : Int) (w : World) (hv : SlLd w v ls) (hu : SlLi w u [⟨x.a, x.b, C⟩]) (h : bothN ls [⟨x.a, x.b, C⟩] = 0) (hC : mostL x.a x.b ls = C) :
    Calls Try.prog 28 #[v, u] w fun e w' => e = .returned (.tuple #[brV 0 (.slice none 0 0), .int .i64 6]) ∧ Below w.heap.size w w' :=
  (breach_any v u ls _ w hv hu).mono fun e w' hP => by
    have hbk : brk ls 0 [⟨x.a, x.b, C⟩] = -1 := by
      unfold brk brk
      rw [if_neg (by simp only; omega)]
    rcases hP with ⟨h1, _⟩ | ⟨_, _, h1, h2⟩ | ⟨_, k, y, z, _, h1, _⟩
    · exact absurd h h1
    · exact ⟨h1, h2⟩
    · rw [hbk] at h1
      exact absurd h1 (by omega)
theorem breach_below (v u : Value) (ls : List Ld) (x : Li) (C : Int) (w : World) (hv : SlLd w v ls) (hu : SlLi w u [⟨x.a, x.b, C⟩]) (h : bothN ls [⟨x.a, x.b, C⟩] = 0) (hC : C < mostL x.a x.b ls) :
    Calls Try.prog 28 #[v, u] w fun e w' => ∃ (a : Option Addr) (n c : Nat), e = .returned (.tuple #[brV 0 (.slice a n c), .int .i64 0]) ∧ Below w.heap.size w w' :=
  (breach_any v u ls _ w hv hu).mono fun e w' hP => by
    have hbk : brk ls 0 [⟨x.a, x.b, C⟩] = 0 := by
      unfold brk
      rw [if_pos hC]
      rfl
    rcases hP with ⟨h1, _⟩ | ⟨_, h1, _⟩ | ⟨_, k, y, z, _, h1, h2, h4, h3⟩
    · exact absurd h h1
    · rw [hbk] at h1
      exact absurd h1 (by omega)
    · rw [hbk] at h1
      obtain rfl : k = 0 := by omega
      obtain ⟨a, c, rfl, _, _⟩ := h4.form
      exact ⟨a, _, c, h2, h3⟩
/-- A box of a limit that may be written. -/
structure LimBox (w : World) (B : Nat) (a b c : Int) : Prop where
  c0 : w.cell? ⟨B, 0, none⟩ = some (.int .i64 a)
  c1 : w.cell? ⟨B, 1, none⟩ = some (.int .i64 b)
  c2 : w.cell? ⟨B, 2, none⟩ = some (.int .i64 c)
  f0 : w.frozen? ⟨B, 0, none⟩ = false
  f1 : w.frozen? ⟨B, 1, none⟩ = false
  f2 : w.frozen? ⟨B, 2, none⟩ = false
theorem LimBox.lt {w : World} {B : Nat} {a b c : Int} (k : LimBox w B a b c) : B < w.heap.size := World.block_lt_of_cell? _ _ k.c0
theorem LimBox.later {w w1 : World} {B : Nat} {a b c : Int} (k : LimBox w B a b c) (hb : Below w.heap.size w w1) : LimBox w1 B a b c :=
  have hz := World.block_lt_of_cell? _ _ k.c0
  ⟨cell_later hb k.c0, cell_later hb k.c1, cell_later hb k.c2, by rw [(bcell hb).2 _ _ hz]; exact k.f0, by rw [(bcell hb).2 _ _ hz]; exact k.f1, by rw [(bcell hb).2 _ _ hz]; exact k.f2⟩
theorem LimBox.new (w : World) (t : TypeId) : LimBox (w.alloc (.cells #[.int .i64 0, .int .i64 0, .int .i64 0] t)) w.heap.size 0 0 0 := ⟨by go_cell, by go_cell, by go_cell, by go_cell, by go_cell, by go_cell⟩
def WwHead (n : Nat) (w wr : World) (v50 : Value) : Prop := ∃ k : Nat, k ≤ n ∧ v50 = .int .i64 k ∧ Below w.heap.size w wr
set_option linter.unusedSimpArgs false in
set_option maxRecDepth 100000 in
set_option maxHeartbeats 8000000 in
theorem trimWorst_walk (v : Value) (ls : List Ld) (x : Li) (a2 : Option Addr) (l2 c2 : Nat) (w : World) (hv : SlLd w v ls) (hby : ByAt w a2 l2) (h50 : ls.length ≤ 50) :
    Calls Try.prog 10 #[v, liV x, .slice a2 l2 c2] w fun e w' => e = .returned (.bool true) ∧ Below w.heap.size w w' := by
  obtain ⟨a0, cap0, rfl, hl0, hc0⟩ := hv.form
  have HV := Lib.hid hv
  have HBy := Lib.hid hby
  clear hv hby
  go_enter Try.func10, Try.ntmps10
  go_wp2_with fail
  refine (alive_any _).mono ?_
  rintro e w1 ⟨rfl, hb1⟩
  have hB1 : Below w.heap.size w w1 := (after (w := w) (by go_grown) hb1).1
  have HX := Lib.hid (show Three w1 w.heap.size x.a x.b x.c from Three.later ⟨by go_cell, by go_cell, by go_cell⟩ hb1)
  clear hb1
  obtain ⟨x0, x1, x2⟩ := HX.out
  go_wp2_with fail
  refine (valid_any _ _ ls [x] _ (ldLater HV.out (by have := hB1.size; go_grown)) (one_limit (x := x) ⟨by go_cell, by go_cell, by go_cell⟩ (by omega)) h50 (by simp)).mono ?_
  rintro e w2 ⟨rfl, hb2⟩
  have hb22 : Below w1.heap.size w1 w2 := two (W := w1) (by go_grown) hb2
  have hB2 : Below w.heap.size w w2 := hB1.trans (hb22.mono hB1.size)
  replace HX := Lib.hid (HX.out.later hb22)
  clear hb2 hb22 x0 x1 x2 hB1
  by_cases hval : okayB ls [x] = true
  rotate_left 1
  · have hval' : okayB ls [x] = false := by simpa using hval
    rw [hval']
    clear hval hval'
    go_wp2_with fail
    go_returns
    exact ⟨rfl, hB2⟩
  obtain ⟨h0, hx0⟩ := okay_loads hval
  have HN := Lib.hid h0
  have HOk := Lib.hid (all_ok h0)
  have hbo : bothN ls [x] = 0 := by unfold bothN; rw [if_pos h0]; exact hx0
  have HXk := Lib.hid (show x.ok = true by simpa using (bothN_ok hbo).2.2.2)
  have HSc := Lib.hid (Li.bound HXk.out).1
  have HBo := Lib.hid hbo
  rw [hval]
  clear hval h0 hx0 hbo
  obtain ⟨x0, x1, x2⟩ := HX.out
  go_wp2_with fail
  refine (worstOf_any _ ls x _ (ldLater HV.out hB2)).mono ?_
  rintro e w3 (⟨_, g, rfl, hg, hb3⟩ | ⟨hne, _, _⟩)
  rotate_left 1
  · exact absurd HBo.out hne
  replace HX := Lib.hid (HX.out.later hb3)
  have hB3 := two hB2 hb3
  have HG := Lib.hid hg
  obtain ⟨V, hV⟩ : ∃ V, mostL x.a x.b ls = V := ⟨_, rfl⟩
  rw [hV]
  have HVm := Lib.hid hV
  clear hb3 hB2 hg hV x0 x1 x2
  go_wp2_with fail
  go_loopw [50] (fun v50 wr => WwHead ls.length w3 wr v50) (fun v50 _ => ls.length - (intOf v50).toNat)
  case atStart => exact ⟨0, by omega, rfl, Below.refl _ _⟩
  case round =>
    obtain ⟨k, hk, rfl, hbr⟩ := hrel
    have hBr := hB3.trans (hbr.mono hB3.size)
    replace HX := Lib.hid (HX.out.later hbr)
    replace HG := Lib.hid (puLater HG.out hbr)
    by_cases hlt : k < ls.length
    · obtain ⟨bk, off, l, rfl, hb, hl, hat⟩ := HV.out.at hlt
      have HLd := Lib.hid (LdAt.later hat hBr)
      have hgat := HG.out
      have hmap : (ls.map (worstP x.a x.b))[k]? = some (worstP x.a x.b l) := by rw [List.getElem?_map, hl]; rfl
      have hpat : PuAt wr g (0 + k * 2) (worstP x.a x.b l) := by
        rcases hgat with ⟨e1, _⟩ | ⟨b', o', cap', e1, _, _, _, e2⟩
        · rw [e1] at hmap
          simp at hmap
        · injection e1 with e3 e4 e5
          injection e3 with e3
          injection e3 with e3 e6
          subst e3 e6
          exact e2 k _ hmap
      obtain ⟨c0, c1⟩ := hpat
      rw [Nat.zero_add] at c0 c1
      have hin := worst_in x.a x.b (HOk.out l (List.mem_of_getElem? hl))
      have hlt' : (k : Int) < (ls.length : Int) := by omega
      have hk0 : (0 : Int) ≤ (k : Int) := by omega
      obtain ⟨c, hc⟩ : ∃ c, worstP x.a x.b l = c := ⟨_, rfl⟩
      rw [hc] at c0 c1 hin
      obtain ⟨i0, i1, i2, i3⟩ := hin
      have n0 : ¬ c.p < l.a0 := by omega
      have n1 : ¬ l.a1 < c.p := by omega
      have n2 : ¬ c.w < l.w0 := by omega
      have n3 : ¬ l.w1 < c.w := by omega
      have hsz := hbr.size
      clear hgat hmap hc hl hat i0 i1 i2 i3
      go_wp2_with fail
      obtain ⟨W, hW⟩ : ∃ W, wr.alloc (.cells #[.int .i64 c.p, .int .i64 c.w] 89) = W := ⟨_, rfl⟩
      obtain ⟨q0, q1⟩ := show Two2 W wr.heap.size c.p c.w by subst hW; exact ⟨by go_cell, by go_cell⟩
      have hbW : Below wr.heap.size wr W := by subst hW; go_grown
      obtain ⟨r0, r1, r2, r3⟩ := LdAt.later HLd.out hbW
      rw [hW]
      clear hW c0 c1
      go_quiet (fail)
      have hbQ : Below wr.heap.size wr (W.drewN nq) := below_drewN hbW _
      go_wp2_with fail
      go_roundw
      case rel => exact ⟨k + 1, by omega, by go_num, hbr.trans (hbQ.mono hbr.size)⟩
      case measure => simp [intOf]; omega
    have hpl : (ls.map (worstP x.a x.b)).length ≤ 50 := by simp; omega
    have hL := loads_bound (loadsN_ok HN.out).2
    go_wp2_with fail
    refine (sums_any _ (ls.map (worstP x.a x.b)) _ HG.out hpl (worsts_bound hL)).mono ?_
    rintro e w4 ⟨rfl, hb4⟩
    obtain ⟨⟨a0, a1⟩, b0, b1⟩ := sums_bound (ls.map (worstP x.a x.b)).length (worsts_bound (a := x.a) (b := x.b) hL) hpl
    rw [List.take_length] at a0 a1 b0 b1
    have hlin := lin_sum x.a x.b (ls.map (worstP x.a x.b))
    rw [sum_worst, HVm.out] at hlin
    obtain ⟨h, hh⟩ : ∃ h, heavE (ls.map (worstP x.a x.b)) = h := ⟨_, rfl⟩
    obtain ⟨m, hm⟩ : ∃ h, momsE (ls.map (worstP x.a x.b)) = h := ⟨_, rfl⟩
    rw [hh] at a0 a1 hlin
    rw [hm] at b0 b1 hlin
    rw [hh, hm]
    have hB4 := two hBr hb4
    replace HX := Lib.hid (HX.out.later hb4)
    clear hb4 hBr hh hm HG hbr hB3 hL
    go_wp2_with fail
    refine (chosen_any _ a2 l2 c2 ls _ (ldLater HV.out hB4) (HBy.out.later hB4) h50 HOk.out).mono ?_
    rintro e w5 ⟨u, ps, rfl, hps, hch, hb5⟩
    have hpl2 : ps.length ≤ 50 := by have := hch.len; omega
    have hpb := ChoP.bound (fun l hl => Ld.bound (HOk.out l hl)) hch
    have hle := cho_le (a := x.a) (b := x.b) hch
    rw [show sumE (mostE x.a x.b) ls = V from HVm.out] at hle
    have hB5 := two hB4 hb5
    replace HX := Lib.hid (HX.out.later hb5)
    clear hb5 hB4
    go_wp2_with fail
    refine (sums_any _ ps _ hps hpl2 hpb).mono ?_
    rintro e w6 ⟨rfl, hb6⟩
    obtain ⟨⟨d0, d1⟩, e0, e1⟩ := sums_bound ps.length hpb hpl2
    rw [List.take_length] at d0 d1 e0 e1
    rw [lin_sum] at hle
    generalize heavE ps = i at *
    generalize momsE ps = n at *
    have hB6 := two hB5 hb6
    replace HX := Lib.hid (HX.out.later hb6)
    clear hb6 hB5 hps hch hpb
    obtain ⟨s0, s1, s2, s3⟩ := HSc.out
    have hp1 := mul_lim (m := 1000) (n := 53687091200) (x := x.a) (y := h) s0 s1 (by omega) (by omega)
    have hp2 := mul_lim (m := 1000) (n := 2147483648000000) (x := x.b) (y := m) s2 s3 (by omega) (by omega)
    have hp3 := mul_lim (m := 1000) (n := 53687091200) (x := x.a) (y := i) s0 s1 (by omega) (by omega)
    have hp4 := mul_lim (m := 1000) (n := 2147483648000000) (x := x.b) (y := n) s2 s3 (by omega) (by omega)
    obtain ⟨P1, hP1⟩ : ∃ p, x.a * h = p := ⟨_, rfl⟩
    obtain ⟨P2, hP2⟩ : ∃ p, x.b * m = p := ⟨_, rfl⟩
    obtain ⟨P3, hP3⟩ : ∃ p, x.a * i = p := ⟨_, rfl⟩
    obtain ⟨P4, hP4⟩ : ∃ p, x.b * n = p := ⟨_, rfl⟩
    rw [hP1] at hp1 hlin
    rw [hP2] at hp2 hlin
    rw [hP3] at hp3 hle
    rw [hP4] at hp4 hle
    have hlin' : P1 + P2 = V := hlin.symm
    have hle' : ¬ V < P3 + P4 := by omega
    obtain ⟨x0, x1, x2⟩ := HX.out
    obtain ⟨v0, v1⟩ := mostL_ok HSc.out HN.out
    rw [HVm.out] at v0 v1
    clear hlin hle
    go_wp2_with fail
    clear hP1 hP2 hP3 hP4 hp1 hp2 hp3 hp4 hlin' hle' x0 x1 x2 a0 a1 b0 b1 d0 d1 e0 e1 s0 s1 s2 s3
    have hA : Below w6.heap.size w6 w6.drew := below_drewN (Below.refl _ _) 1
    have hS := HX.out.later hA
    have hzw := hB6.size
    have hwl : w.heap.size < w6.heap.size := World.block_lt_of_cell? _ _ HX.out.c0
    refine AnyV.start (Two 5 (fun w' => Three w' w.heap.size x.a x.b x.c) 5 (fun _ => True)) 6 #[false, false, false, false, false, false] (by kernel_rfl) (by kernel_rfl) (by kernel_rfl) (fun _ => ⟨fun _ => hS, fun _ => trivial⟩) (fun _ => ?_)
    generalize World.drew w6 = wd at hA hS ⊢
    refine AnyV.take 5 6 (i := 0) (oi := _) (v := ?_) rfl (by kernel_rfl) (by kernel_rfl) (by kernel_rfl) (by kernel_rfl) (by kernel_rfl) (fun _ _ _ h => h) (Two.other (by decide)) (Or.inl ⟨by kernel_rfl, ?_⟩) (Two.till (fun _ => hS) (fun _ => trivial)) (fun _ => ?_)
    rotate_left 1
    · intro wz hSw'; have hSw := hSw'.1 rfl; clear hSw'; have h0 := hSw.c0; have h1 := hSw.c1; have h2 := hSw.c2; go_simp; try with_reducible rfl
    try simp only [Act.put, List.setIfInBounds_toArray, List.set_cons_zero, List.set_cons_succ]
    refine AnyV.take 5 6 (i := 1) (oi := _) (v := ?_) rfl (by kernel_rfl) (by kernel_rfl) (by kernel_rfl) (by kernel_rfl) (by kernel_rfl) (fun _ _ _ h => h) (Two.other (by decide)) (Or.inl ⟨by kernel_rfl, ?_⟩) (Two.till (fun _ => hS) (fun _ => trivial)) (fun _ => ?_)
    rotate_left 1
    · intro wz hSw'; have hSw := hSw'.1 rfl; clear hSw'; have h0 := hSw.c0; have h1 := hSw.c1; have h2 := hSw.c2; go_simp; try with_reducible rfl
    try simp only [Act.put, List.setIfInBounds_toArray, List.set_cons_zero, List.set_cons_succ]
    refine AnyV.some [2, 3] (by kernel_rfl) (by simp) (fun i hi => ?_)
    simp only [List.mem_cons, List.not_mem_nil, or_false] at hi
    rcases hi with rfl | rfl
    · skip
      refine AnyV.step (o := _) rfl (fun K hK => ?_)
      go_simp
      have K17 := Lib.hid (LimBox.new wd 35)
      have hb9 := (Below.refl wd.heap.size wd).alloc (Nat.le_refl _) (.cells #[.int .i64 0, .int .i64 0, .int .i64 0] 35)
      obtain ⟨wd1, hw9⟩ : ∃ W, wd.alloc (.cells #[.int .i64 0, .int .i64 0, .int .i64 0] 35) = W := ⟨_, rfl⟩
      obtain ⟨B17, hB9⟩ : ∃ b, wd.heap.size = b := ⟨_, rfl⟩
      rw [hw9] at hb9 ⊢
      try rw [hw9] at K17
      try rw [hw9] at K18
      have hA9 := two hA hb9
      have hlow := hA.size
      replace hS := hS.later hb9
      rw [hB9] at K17 hlow ⊢
      try rw [hB9] at hlt1
      clear hw9 hb9 hA
      have hA := hA9
      clear hA9
      refine hK.out _ _ (Two.till (fun _ => hS) (fun _ => trivial)) ?_
      clear hK K
      try simp only [Act.put, List.setIfInBounds_toArray, List.set_cons_zero, List.set_cons_succ]
      refine AnyV.one (i := 3) (o := _) rfl (by kernel_rfl) (fun K hK => ?_)
      go_simp
      have hb10 := (Below.refl wd1.heap.size wd1).alloc (Nat.le_refl _) (.cells #[.int .i64 0, .int .i64 0, .int .i64 0] 35)
      have hlt1 : B17 < wd1.heap.size := K17.out.lt
      replace K17 := Lib.hid (K17.out.later hb10)
      clear hb10
      have K18 := Lib.hid (LimBox.new wd1 35)
      have hb9 := (Below.refl wd1.heap.size wd1).alloc (Nat.le_refl _) (.cells #[.int .i64 0, .int .i64 0, .int .i64 0] 35)
      obtain ⟨wd2, hw9⟩ : ∃ W, wd1.alloc (.cells #[.int .i64 0, .int .i64 0, .int .i64 0] 35) = W := ⟨_, rfl⟩
      obtain ⟨B18, hB9⟩ : ∃ b, wd1.heap.size = b := ⟨_, rfl⟩
      rw [hw9] at hb9 ⊢
      try rw [hw9] at K17
      try rw [hw9] at K18
      have hA9 := two hA hb9
      have hlow := hA.size
      replace hS := hS.later hb9
      rw [hB9] at K18 hlow ⊢
      try rw [hB9] at hlt1
      clear hw9 hb9 hA
      have hA := hA9
      clear hA9
      refine hK.out _ _ (Two.till (fun _ => hS) (fun _ => trivial)) ?_
      clear hK K
      try simp only [Act.put, List.setIfInBounds_toArray, List.set_cons_zero, List.set_cons_succ]
      obtain ⟨xc0, xc1, xc2, xf0, xf1, xf2⟩ := K17.out
      obtain ⟨yc0, yc1, yc2, yf0, yf1, yf2⟩ := K18.out
      have hz17 := K17.out.lt
      have hz18 := K18.out.lt
      have hw17 : w.heap.size ≠ B17 := by omega
      have hw18 : w.heap.size ≠ B18 := by omega
      have hne1 : B17 ≠ B18 := by omega
      have hne2 : B18 ≠ B17 := by omega
      refine AnyV.one (i := 4) (o := _) rfl (by kernel_rfl) (fun K hK => ?_)
      go_simp
      refine hK.out _ _ (Two.till (fun _ => ⟨by rw [cell_far _ _ hw17, cell_far _ _ hw17, cell_far _ _ hw17]; exact hS.c0, by rw [cell_far _ _ hw17, cell_far _ _ hw17, cell_far _ _ hw17]; exact hS.c1, by rw [cell_far _ _ hw17, cell_far _ _ hw17, cell_far _ _ hw17]; exact hS.c2⟩) (fun _ => trivial)) ?_
      clear hK K
      try simp only [Act.put, List.setIfInBounds_toArray, List.set_cons_zero, List.set_cons_succ]
      refine AnyV.one (i := 5) (o := _) rfl (by kernel_rfl) (fun K hK => ?_)
      go_simp
      refine hK.out _ _ (Two.till (fun h => absurd h (by decide)) (fun _ => trivial)) ?_
      clear hK K
      refine AnyV.done (by kernel_rfl) ?_
      try simp only [Act.put, List.setIfInBounds_toArray, List.set_cons_zero, List.set_cons_succ]
      obtain ⟨W9, hW9⟩ : ∃ W, (((((wd2.setCell ⟨B17, 0, none⟩ (.int .i64 x.a)).setCell ⟨B17, 1, none⟩ (.int .i64 x.b)).setCell ⟨B17, 2, none⟩ (.int .i64 x.c)).setCell ⟨B18, 0, none⟩ (.int .i64 x.a)).setCell ⟨B18, 1, none⟩ (.int .i64 x.b)).setCell ⟨B18, 2, none⟩ (.int .i64 x.c) = W := ⟨_, rfl⟩
      have hw9B : w.heap.size ≤ B17 ∧ w.heap.size ≤ B18 := by omega
      obtain ⟨hl17, hl18⟩ := hw9B
      have hBd := hB6.trans (hA.mono hB6.size)
      have KA := Lib.hid (show LimBox W9 B17 x.a x.b x.c by subst hW9; exact ⟨by go_cell, by go_cell, by go_cell, by go_cell, by go_cell, by go_cell⟩)
      have KB := Lib.hid (show LimBox W9 B18 x.a x.b x.c by subst hW9; exact ⟨by go_cell, by go_cell, by go_cell, by go_cell, by go_cell, by go_cell⟩)
      have hB9 : Below w.heap.size w W9 := by subst hW9; go_grown
      rw [hW9]
      clear hW9 K17 K18 hBd hA hS xc0 xc1 xc2 xf0 xf1 xf2 yc0 yc1 yc2 yf0 yf1 yf2 hw17 hw18 hz17 hz18
      obtain ⟨xc0, xc1, xc2, xf0, xf1, xf2⟩ := KA.out
      obtain ⟨yc0, yc1, yc2, yf0, yf1, yf2⟩ := KB.out
      have hz17 := KA.out.lt
      have hz18 := KB.out.lt
      go_wp2_with fail
      have hbo1 := both_one (C := V) HN.out HXk.out (by omega) (by omega)
      have hbo2 := both_one (C := V - 1) HN.out HXk.out (by omega) (by omega)
      refine (breach_at _ _ ls x V _ (ldLater HV.out (by go_grown)) (one_limit (x := ⟨x.a, x.b, V⟩) ⟨by go_cell, by go_cell, by go_cell⟩ (by omega)) hbo1 HVm.out).mono ?_
      rintro e w10 ⟨rfl, hb10⟩
      have hB10 : Below w.heap.size w w10 := (after (w := w) (by go_grown) hb10).1
      obtain ⟨z0, z1, z2⟩ : Three w10 B18 x.a x.b (V - 1) := Three.later ⟨by go_cell, by go_cell, by go_cell⟩ hb10
      have hz10 : B18 < w10.heap.size := World.block_lt_of_cell? _ _ z0
      clear hb10 xc0 xc1 xc2 xf0 xf1 xf2 yc0 yc1 yc2 yf0 yf1 yf2 hB9 hz17 hz18 KA KB
      go_wp2_with fail
      refine (breach_below _ _ ls x (V - 1) _ (ldLater HV.out (by have := hB10.size; go_grown)) (one_limit (x := ⟨x.a, x.b, V - 1⟩) ⟨by go_cell, by go_cell, by go_cell⟩ (by omega)) hbo2 (by rw [HVm.out]; omega)).mono ?_
      rintro e w11 ⟨ba, bn, bc, rfl, hb11⟩
      have hB11 : Below w.heap.size w w11 := (after (w := w) (by have := hB10.size; go_grown) hb11).1
      clear hb11 z0 z1 z2 hB10
      go_wp2_with fail
      go_returns
      exact ⟨rfl, by have := hB11.size; go_grown⟩
    · skip
      refine AnyV.step (o := _) rfl (fun K hK => ?_)
      go_simp
      have K18 := Lib.hid (LimBox.new wd 35)
      have hb9 := (Below.refl wd.heap.size wd).alloc (Nat.le_refl _) (.cells #[.int .i64 0, .int .i64 0, .int .i64 0] 35)
      obtain ⟨wd1, hw9⟩ : ∃ W, wd.alloc (.cells #[.int .i64 0, .int .i64 0, .int .i64 0] 35) = W := ⟨_, rfl⟩
      obtain ⟨B18, hB9⟩ : ∃ b, wd.heap.size = b := ⟨_, rfl⟩
      rw [hw9] at hb9 ⊢
      try rw [hw9] at K17
      try rw [hw9] at K18
      have hA9 := two hA hb9
      have hlow := hA.size
      replace hS := hS.later hb9
      rw [hB9] at K18 hlow ⊢
      try rw [hB9] at hlt1
      clear hw9 hb9 hA
      have hA := hA9
      clear hA9
      refine hK.out _ _ (Two.till (fun _ => hS) (fun _ => trivial)) ?_
      clear hK K
      try simp only [Act.put, List.setIfInBounds_toArray, List.set_cons_zero, List.set_cons_succ]
      refine AnyV.one (i := 2) (o := _) rfl (by kernel_rfl) (fun K hK => ?_)
      go_simp
      have hb10 := (Below.refl wd1.heap.size wd1).alloc (Nat.le_refl _) (.cells #[.int .i64 0, .int .i64 0, .int .i64 0] 35)
      have hlt1 : B18 < wd1.heap.size := K18.out.lt
      replace K18 := Lib.hid (K18.out.later hb10)
      clear hb10
      have K17 := Lib.hid (LimBox.new wd1 35)
      have hb9 := (Below.refl wd1.heap.size wd1).alloc (Nat.le_refl _) (.cells #[.int .i64 0, .int .i64 0, .int .i64 0] 35)
      obtain ⟨wd2, hw9⟩ : ∃ W, wd1.alloc (.cells #[.int .i64 0, .int .i64 0, .int .i64 0] 35) = W := ⟨_, rfl⟩
      obtain ⟨B17, hB9⟩ : ∃ b, wd1.heap.size = b := ⟨_, rfl⟩
      rw [hw9] at hb9 ⊢
      try rw [hw9] at K17
      try rw [hw9] at K18
      have hA9 := two hA hb9
      have hlow := hA.size
      replace hS := hS.later hb9
      rw [hB9] at K17 hlow ⊢
      try rw [hB9] at hlt1
      clear hw9 hb9 hA
      have hA := hA9
      clear hA9
      refine hK.out _ _ (Two.till (fun _ => hS) (fun _ => trivial)) ?_
      clear hK K
      try simp only [Act.put, List.setIfInBounds_toArray, List.set_cons_zero, List.set_cons_succ]
      obtain ⟨xc0, xc1, xc2, xf0, xf1, xf2⟩ := K17.out
      obtain ⟨yc0, yc1, yc2, yf0, yf1, yf2⟩ := K18.out
      have hz17 := K17.out.lt
      have hz18 := K18.out.lt
      have hw17 : w.heap.size ≠ B17 := by omega
      have hw18 : w.heap.size ≠ B18 := by omega
      have hne1 : B17 ≠ B18 := by omega
      have hne2 : B18 ≠ B17 := by omega
      refine AnyV.one (i := 4) (o := _) rfl (by kernel_rfl) (fun K hK => ?_)
      go_simp
      refine hK.out _ _ (Two.till (fun _ => ⟨by rw [cell_far _ _ hw17, cell_far _ _ hw17, cell_far _ _ hw17]; exact hS.c0, by rw [cell_far _ _ hw17, cell_far _ _ hw17, cell_far _ _ hw17]; exact hS.c1, by rw [cell_far _ _ hw17, cell_far _ _ hw17, cell_far _ _ hw17]; exact hS.c2⟩) (fun _ => trivial)) ?_
      clear hK K
      try simp only [Act.put, List.setIfInBounds_toArray, List.set_cons_zero, List.set_cons_succ]
      refine AnyV.one (i := 5) (o := _) rfl (by kernel_rfl) (fun K hK => ?_)
      go_simp
      refine hK.out _ _ (Two.till (fun h => absurd h (by decide)) (fun _ => trivial)) ?_
      clear hK K
      refine AnyV.done (by kernel_rfl) ?_
      try simp only [Act.put, List.setIfInBounds_toArray, List.set_cons_zero, List.set_cons_succ]
      obtain ⟨W9, hW9⟩ : ∃ W, (((((wd2.setCell ⟨B17, 0, none⟩ (.int .i64 x.a)).setCell ⟨B17, 1, none⟩ (.int .i64 x.b)).setCell ⟨B17, 2, none⟩ (.int .i64 x.c)).setCell ⟨B18, 0, none⟩ (.int .i64 x.a)).setCell ⟨B18, 1, none⟩ (.int .i64 x.b)).setCell ⟨B18, 2, none⟩ (.int .i64 x.c) = W := ⟨_, rfl⟩
      have hw9B : w.heap.size ≤ B17 ∧ w.heap.size ≤ B18 := by omega
      obtain ⟨hl17, hl18⟩ := hw9B
      have hBd := hB6.trans (hA.mono hB6.size)
      have KA := Lib.hid (show LimBox W9 B17 x.a x.b x.c by subst hW9; exact ⟨by go_cell, by go_cell, by go_cell, by go_cell, by go_cell, by go_cell⟩)
      have KB := Lib.hid (show LimBox W9 B18 x.a x.b x.c by subst hW9; exact ⟨by go_cell, by go_cell, by go_cell, by go_cell, by go_cell, by go_cell⟩)
      have hB9 : Below w.heap.size w W9 := by subst hW9; go_grown
      rw [hW9]
      clear hW9 K17 K18 hBd hA hS xc0 xc1 xc2 xf0 xf1 xf2 yc0 yc1 yc2 yf0 yf1 yf2 hw17 hw18 hz17 hz18
      obtain ⟨xc0, xc1, xc2, xf0, xf1, xf2⟩ := KA.out
      obtain ⟨yc0, yc1, yc2, yf0, yf1, yf2⟩ := KB.out
      have hz17 := KA.out.lt
      have hz18 := KB.out.lt
      go_wp2_with fail
      have hbo1 := both_one (C := V) HN.out HXk.out (by omega) (by omega)
      have hbo2 := both_one (C := V - 1) HN.out HXk.out (by omega) (by omega)
      refine (breach_at _ _ ls x V _ (ldLater HV.out (by go_grown)) (one_limit (x := ⟨x.a, x.b, V⟩) ⟨by go_cell, by go_cell, by go_cell⟩ (by omega)) hbo1 HVm.out).mono ?_
      rintro e w10 ⟨rfl, hb10⟩
      have hB10 : Below w.heap.size w w10 := (after (w := w) (by go_grown) hb10).1
      obtain ⟨z0, z1, z2⟩ : Three w10 B18 x.a x.b (V - 1) := Three.later ⟨by go_cell, by go_cell, by go_cell⟩ hb10
      have hz10 : B18 < w10.heap.size := World.block_lt_of_cell? _ _ z0
      clear hb10 xc0 xc1 xc2 xf0 xf1 xf2 yc0 yc1 yc2 yf0 yf1 yf2 hB9 hz17 hz18 KA KB
      go_wp2_with fail
      refine (breach_below _ _ ls x (V - 1) _ (ldLater HV.out (by have := hB10.size; go_grown)) (one_limit (x := ⟨x.a, x.b, V - 1⟩) ⟨by go_cell, by go_cell, by go_cell⟩ (by omega)) hbo2 (by rw [HVm.out]; omega)).mono ?_
      rintro e w11 ⟨ba, bn, bc, rfl, hb11⟩
      have hB11 : Below w.heap.size w w11 := (after (w := w) (by have := hB10.size; go_grown) hb11).1
      clear hb11 z0 z1 z2 hB10
      go_wp2_with fail
      go_returns
      exact ⟨rfl, by have := hB11.size; go_grown⟩
end Go.Proofs.Ytldnpnplgfkebaa
