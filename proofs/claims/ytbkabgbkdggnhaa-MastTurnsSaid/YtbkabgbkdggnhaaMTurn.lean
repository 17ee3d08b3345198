/- Package mast: Turn. -/
import Derived.Test.YtbkabgbkdggnhaaMAx
import Derived.Test.YtbkabgbkdggnhaaMRef
namespace Go.Proofs.Ytbkabgbkdggnhaa
open Go.RowKit

/-- The axis so many steps on, and back. -/
def nxI (n p s : Nat) : Nat := (p + s) % n
def bfI (n p s : Nat) : Nat := (p + (n - s)) % n
/-- Neither axis is calm at so many steps. -/
def NoS (n p : Nat) (C : Nat → Bool) (s : Nat) : Prop := C (nxI n p s) = false ∧ C (bfI n p s) = false
/-- What is found at so many steps. -/
def AtS (n p : Nat) (C : Nat → Bool) (s : Nat) (r : Int × Int × Int) : Prop := (C (nxI n p s) = true ∧ r = (((nxI n p s : Nat) : Int), ((s : Nat) : Int), 0)) ∨ (C (nxI n p s) = false ∧ C (bfI n p s) = true ∧ r = (((bfI n p s : Nat) : Int), ((s : Nat) : Int), 0))
def TurnOut (n p : Nat) (C : Nat → Bool) (r : Int × Int × Int) : Prop := (∃ s : Nat, s ≤ n / 2 ∧ (∀ t, t < s → NoS n p C t) ∧ AtS n p C s r) ∨ ((∀ t, t ≤ n / 2 → NoS n p C t) ∧ r = (0, 0, 6))
theorem AtS.not {n p : Nat} {C : Nat → Bool} {s : Nat} {r : Int × Int × Int} (h : AtS n p C s r) (k : NoS n p C s) : False := by
  rcases h with ⟨h1, _⟩ | ⟨_, h1, _⟩
  · rw [k.1] at h1; cases h1
  · rw [k.2] at h1; cases h1
theorem AtS.uniq {n p : Nat} {C : Nat → Bool} {s : Nat} {r r' : Int × Int × Int} (h : AtS n p C s r) (h' : AtS n p C s r') : r = r' := by
  rcases h with ⟨h1, rfl⟩ | ⟨h0, h1, rfl⟩ <;> rcases h' with ⟨k1, rfl⟩ | ⟨k0, k1, rfl⟩
  · rfl
  · rw [h1] at k0; cases k0
  · rw [h0] at k1; cases k1
  · rfl
theorem TurnOut.uniq {n p : Nat} {C : Nat → Bool} {r r' : Int × Int × Int} (h : TurnOut n p C r) (h' : TurnOut n p C r') : r = r' := by
  rcases h with ⟨s, h1, h2, h3⟩ | ⟨h2, rfl⟩ <;> rcases h' with ⟨s', k1, k2, k3⟩ | ⟨k2, rfl⟩
  · rcases Nat.lt_trichotomy s s' with e | e | e
    · exact (h3.not (k2 s e)).elim
    · subst e; exact h3.uniq k3
    · exact (k3.not (h2 s' e)).elim
  · exact (h3.not (k2 s h1)).elim
  · exact (k3.not (h2 s' k1)).elim
  · rfl
/-- Beyond half way around there is nothing that is not nearer. -/
theorem NoS.far {n p : Nat} {C : Nat → Bool} {s : Nat} (hs : s < n) (h2 : n / 2 < s) (h : ∀ t, t < s → NoS n p C t) : NoS n p C s := by
  have hk := h (n - s) (by omega)
  unfold NoS nxI bfI at hk ⊢
  rw [show n - (n - s) = s by omega] at hk
  exact ⟨hk.2, hk.1⟩
theorem TurnOut.found {n p : Nat} {C : Nat → Bool} {s : Nat} {r : Int × Int × Int} (hs : s < n) (h : ∀ t, t < s → NoS n p C t) (k : AtS n p C s r) : TurnOut n p C r := by
  by_cases h2 : s ≤ n / 2
  · exact .inl ⟨s, h2, h, k⟩
  · exact (k.not (NoS.far hs (by omega) h)).elim

/-- Whether an axis of a list is calm. -/
def calmI (l : List Pr) (a b c d m : Int) (i : Nat) : Bool := calmB a b c d (l.getD i default).a (l.getD i default).b m
/-- What Turn returns. -/
def TurnR (l : List Pr) (p a b c d m : Int) (r : Int × Int × Int) : Prop :=
  (axesB l = false ∧ r = (0, 0, 72)) ∨ (axesB l = true ∧ windB a b c d = false ∧ r = (0, 0, 71)) ∨ (axesB l = true ∧ windB a b c d = true ∧ (inB p 0 (l.length - 1) && inB m 0 2000) = false ∧ r = (0, 0, 2)) ∨
  (axesB l = true ∧ windB a b c d = true ∧ (inB p 0 (l.length - 1) && inB m 0 2000) = true ∧ TurnOut l.length p.toNat (calmI l a b c d m) r)
theorem TurnR.uniq {l : List Pr} {p a b c d m : Int} {r r' : Int × Int × Int} (h : TurnR l p a b c d m r) (h' : TurnR l p a b c d m r') : r = r' := by
  rcases h with ⟨x, rfl⟩ | ⟨x, y, rfl⟩ | ⟨x, y, z, rfl⟩ | ⟨x, y, z, u⟩ <;> rcases h' with ⟨x', rfl⟩ | ⟨x', y', rfl⟩ | ⟨x', y', z', rfl⟩ | ⟨x', y', z', u'⟩
  all_goals first
    | rfl
    | exact u.uniq u'
    | (rw [x] at x'; cases x'; done)
    | (rw [y] at y'; cases y'; done)
    | (rw [z] at z'; cases z'; done)
def TurnE (l : List Pr) (p a b c d m : Int) (e : Ending) : Prop := ∃ x y z : Int, e = .returned (.tuple #[.int .i64 x, .int .i64 y, .int .i64 z]) ∧ TurnR l p a b c d m (x, y, z)
theorem TurnE.uniq {l : List Pr} {p a b c d m : Int} {e e' : Ending} (h : TurnE l p a b c d m e) (h' : TurnE l p a b c d m e') : e = e' := by
  obtain ⟨x, y, z, rfl, h1⟩ := h
  obtain ⟨x', y', z', rfl, h2⟩ := h'
  have := h1.uniq h2
  injection this with e1 e2
  injection e2 with e2 e3
  subst e1 e2 e3
  rfl
theorem nx_int {n p s : Nat} : ((p : Int) + s).tmod n = (nxI n p s : Nat) := by
  rw [Int.tmod_eq_emod_of_nonneg (by omega)]
  unfold nxI
  rw [Int.natCast_emod, Int.natCast_add]
theorem bf_int {n p s : Nat} (hs : s ≤ n) : ((p : Int) - s + n).tmod n = (bfI n p s : Nat) := by
  rw [Int.tmod_eq_emod_of_nonneg (by omega)]
  unfold bfI
  rw [show (p : Int) - s + n = ((p + (n - s) : Nat) : Int) by omega, Int.natCast_emod]
theorem nx_lt {n p s : Nat} (hn : 0 < n) : nxI n p s < n := Nat.mod_lt _ hn
theorem bf_lt {n p s : Nat} (hn : 0 < n) : bfI n p s < n := Nat.mod_lt _ hn
theorem all_ax {l : List Pr} (h : axesB l = true) {i : Nat} {c : Pr} (hc : l[i]? = some c) : axisB c.a c.b = true := by
  unfold axesB at h
  rw [Bool.and_eq_true] at h
  exact List.all_eq_true.1 h.2 c (List.mem_of_getElem? hc)
theorem calmI_at {l : List Pr} {a b c d m : Int} {i : Nat} {x : Pr} (hx : l[i]? = some x) : calmI l a b c d m i = calmB a b c d x.a x.b m := by
  unfold calmI
  rw [List.getD_eq_getElem?_getD, hx]
  rfl

set_option maxRecDepth 100000 in
theorem arr_0 (x y : Int) (w : World) : Sem.run Try.prog (Instr.index 114 (.agg #[.int .i64 x, .int .i64 y]) (.int .i64 0)) w = .ok (.int .i64 x) w := by
  simp [Instr.index, go_sem]
set_option maxRecDepth 100000 in
theorem arr_1 (x y : Int) (w : World) : Sem.run Try.prog (Instr.index 114 (.agg #[.int .i64 x, .int .i64 y]) (.int .i64 1)) w = .ok (.int .i64 y) w := by
  simp [Instr.index, go_sem]
/-- The heads of the two loops. -/
def TuHead (n p : Nat) (C : Nat → Bool) (a b c d : Int) (w wr : World) (v : Value) : Prop := ∃ s : Nat, s ≤ n / 2 + 1 ∧ v = .int .i64 s ∧ (∀ t, t < s → NoS n p C t) ∧ Below w.heap.size w wr ∧ Four wr w.heap.size a b c d
def TvHead (n p s : Nat) (C : Nat → Bool) (a b c d : Int) (w wr : World) (v : Value) : Prop :=
  (v = .int .i64 0 ∨ (v = .int .i64 1 ∧ C (nxI n p s) = false) ∨ (v = .int .i64 2 ∧ NoS n p C s)) ∧ Below w.heap.size w wr ∧ Four wr w.heap.size a b c d

set_option linter.unusedSimpArgs false in
set_option maxRecDepth 100000 in
set_option maxHeartbeats 8000000 in
theorem turn_any (v : Value) (l : List Pr) (p a b c d m : Int) (w : World) (hs : SlPr w v l) :
    Calls Try.prog 18 #[v, .int .i64 p, wd a b c d, .int .i64 m] w fun e w' => TurnE l p a b c d m e ∧ Below w.heap.size w w' := by
  obtain ⟨ad, cap, rfl, hlen, hcap⟩ := hs.form
  have HS := Lib.hid hs
  clear hs
  have ha0 := arr_0
  have ha1 := arr_1
  go_enter Try.func18, Try.ntmps18
  go_wp2_with fail
  refine (areAxes_any _ l _ (prLater HS.out (by go_grown))).mono ?_
  rintro e w1 ⟨rfl, hb1⟩
  have hB1 : Below w.heap.size w w1 := (after (w := w) (by go_grown) hb1).1
  have k1 : Four w1 w.heap.size a b c d := Four.later ⟨by go_cell, by go_cell, by go_cell, by go_cell⟩ hb1
  clear hb1
  have F1 := Lib.hid k1
  obtain ⟨a0, a1, a2, a3⟩ := k1
  have hz1 := World.block_lt_of_cell? _ _ a0
  cases hx : axesB l
  · have HX := Lib.hid hx
    clear hx
    go_wp2_with fail
    go_returns
    exact ⟨⟨0, 0, 72, rfl, .inl ⟨HX.out, rfl⟩⟩, hB1⟩
  have HX := Lib.hid hx
  clear hx
  go_wp2_with fail
  refine (checkWind_any a b c d _).mono ?_
  rintro e w2 ⟨rfl, hb2⟩
  have hB2 : Below w.heap.size w w2 := hB1.trans (hb2.mono hB1.size)
  have F2 := Lib.hid (F1.out.later hb2)
  clear hb2 hB1 a0 a1 a2 a3 hz1 F1
  cases hw : windB a b c d
  · rw [show windN a b c d = 71 by unfold windN; rw [hw]; rfl]
    have HW := Lib.hid hw
    clear hw
    go_wp2_with fail
    go_returns
    exact ⟨⟨0, 0, 71, rfl, .inr (.inl ⟨HX.out, HW.out, rfl⟩)⟩, hB2⟩
  rw [show windN a b c d = 0 by unfold windN; rw [hw]; rfl]
  have HW := Lib.hid hw
  clear hw
  go_wp2_with fail
  refine (isIndex_any p l.length _ (by omega) (by omega)).mono ?_
  rintro e w3 ⟨rfl, hb3⟩
  have hB3 : Below w.heap.size w w3 := hB2.trans (hb3.mono hB2.size)
  have F3 := Lib.hid (F2.out.later hb3)
  clear hb3 hB2 F2
  cases hp : inB p 0 (l.length - 1)
  · have HP := Lib.hid hp
    clear hp
    go_wp2_with fail
    go_returns
    exact ⟨⟨0, 0, 2, rfl, .inr (.inr (.inl ⟨HX.out, HW.out, by rw [HP.out]; rfl, rfl⟩))⟩, hB3⟩
  have HP := Lib.hid hp
  clear hp
  go_wp2_with fail
  refine (isCross_any m _).mono ?_
  rintro e w4 ⟨rfl, hb4⟩
  have hB4 : Below w.heap.size w w4 := hB3.trans (hb4.mono hB3.size)
  have F4 := Lib.hid (F3.out.later hb4)
  clear hb4 hB3 F3
  cases hm : inB m 0 2000
  · have HM := Lib.hid hm
    clear hm
    go_wp2_with fail
    go_returns
    exact ⟨⟨0, 0, 2, rfl, .inr (.inr (.inl ⟨HX.out, HW.out, by rw [HP.out, HM.out]; rfl, rfl⟩))⟩, hB4⟩
  have HM := Lib.hid hm
  have hm0 : 0 ≤ m := by simp [inB] at hm; omega
  obtain ⟨p, rfl⟩ : ∃ k : Nat, p = k := ⟨p.toNat, by have := HP.out; simp [inB] at this; omega⟩
  have hpn : p < l.length := by have := HP.out; simp [inB] at this; omega
  have hl32 : l.length ≤ 32 := by have := HX.out; simp [axesB, inB] at this; omega
  have hn0 : 0 < l.length := by omega
  obtain ⟨n, hn⟩ : ∃ n, l.length = n := ⟨_, rfl⟩
  have hq : ((n : Nat) : Int).tdiv 2 = ((n / 2 : Nat) : Int) := by rw [Int.tdiv_eq_ediv_of_nonneg (by omega)]; omega
  have HIn : Hid ((inB (p : Int) 0 (l.length - 1) && inB m 0 2000) = true) := Lib.hid (by rw [HP.out, HM.out]; rfl)
  rw [hn] at hpn hl32 hn0 hlen hcap
  have HN := Lib.hid hn
  clear hm
  rw [hn]
  have fq : IntKind.i64.wrap ((n / 2 : Nat) : Int) = ((n / 2 : Nat) : Int) := IntWalk.i64_in _ ⟨by omega, by omega⟩
  have fq1 : IntKind.i64.wrap (((n / 2 : Nat) : Int) + 1) = ((n / 2 : Nat) : Int) + 1 := IntWalk.i64_in _ ⟨by omega, by omega⟩
  clear hn
  go_wp2_with fail
  go_loopw [39] (fun v39 wr => TuHead n p (calmI l a b c d m) a b c d w wr v39) (fun v39 _ => n + 1 - (intOf v39).toNat)
  case atStart => exact ⟨0, by omega, rfl, fun t ht => absurd ht (by omega), hB4, F4.out⟩
  case round =>
    obtain ⟨s, hs, rfl, hno, hbr, hF⟩ := hrel
    have HNo := Lib.hid hno
    have HF := Lib.hid hF
    clear hno hF
    by_cases hlt : s ≤ n / 2
    · have hlt' : (s : Int) < ((n / 2 : Nat) : Int) + 1 := by omega
      have e1 := nx_int (n := n) (p := p) (s := s)
      have e2 := bf_int (n := n) (p := p) (s := s) (by omega)
      have b1 := nx_lt (p := p) (s := s) hn0
      have b2 := bf_lt (p := p) (s := s) hn0
      obtain ⟨X, hX⟩ : ∃ X, nxI n p s = X := ⟨_, rfl⟩
      obtain ⟨Y, hY⟩ : ∃ Y, bfI n p s = Y := ⟨_, rfl⟩
      rw [hX] at e1 b1
      rw [hY] at e2 b2
      have HXY := Lib.hid (And.intro hX hY)
      clear hX hY
      have f1 : IntKind.i64.wrap ((p : Int) + s) = (p : Int) + s := IntWalk.i64_in _ ⟨by omega, by omega⟩
      have f2 : IntKind.i64.wrap ((p : Int) - s) = (p : Int) - s := IntWalk.i64_in _ ⟨by omega, by omega⟩
      have f3 : IntKind.i64.wrap ((p : Int) - s + n) = (p : Int) - s + n := IntWalk.i64_in _ ⟨by omega, by omega⟩
      have f4 : IntKind.i64.wrap (X : Int) = (X : Int) := IntWalk.i64_in _ ⟨by omega, by omega⟩
      have f5 : IntKind.i64.wrap (Y : Int) = (Y : Int) := IntWalk.i64_in _ ⟨by omega, by omega⟩
      have hne : ¬ (n : Int) = 0 := by omega
      go_wp2_with fail
      go_quiet (fail)
      have hbr2 := below_drewN hbr nq
      have F5 := Lib.hid (show Four (wr.drewN nq) w.heap.size a b c d from HF.out.later (below_drewN (Below.refl _ _) nq))
      go_wp2_with fail
      have HLt := Lib.hid hlt
      have hd40 : decide ((s : Int) < (n : Int) / 2 + 1) = true := by simp; omega
      rw [hd40]
      clear hlt hlt' hd40
      go_loopw [60] (fun v60 wq => TvHead n p s (calmI l a b c d m) a b c d w wq v60) (fun v60 _ => 2 - (intOf v60).toNat)
      case atStart => exact ⟨.inl rfl, hbr2, F5.out⟩
      case round =>
        obtain ⟨hv, hbq, hF⟩ := hrel
        have HF6 := Lib.hid hF
        clear hF e1 e2 f1 f2 f3 f4 f5
        generalize wr = wq at *
        rcases hv with rfl | ⟨rfl, hc1⟩ | ⟨rfl, hc1⟩
        · skip
          have hX0 : (0 : Int) ≤ (X : Int) := by omega
          have hX1 : (X : Int) < (n : Int) := by omega
          obtain ⟨bb, off, x, rfl, hb, hc, hat⟩ := HS.out.at (i := X) (by rw [HN.out]; exact b1)
          have HAt := Lib.hid (show PrAt wq bb (off + X * 2) x from PrAt.later hat hbq)
          have HC := Lib.hid hc
          clear hat hc
          go_wp2_with fail
          have hA : Below wq.heap.size wq wq.drew := below_drewN (Below.refl _ _) 1
          refine AnyV.start (Two 6 (fun w' => Below wq.heap.size wq w') 6 (fun _ => True)) 7 #[false, false, false, false, false, false, false] (by kernel_rfl) (by kernel_rfl) (by kernel_rfl) (fun _ => ⟨fun _ => hA, fun _ => trivial⟩) (fun _ => ?_)
          generalize World.drew wq = wd at hA ⊢
          refine AnyV.take 6 7 (i := 0) (oi := _) (v := ?_) rfl (by kernel_rfl) (by kernel_rfl) (by kernel_rfl) (by kernel_rfl) (by kernel_rfl) (fun _ _ _ h => h) (Two.other (by decide)) (Or.inl ⟨by kernel_rfl, ?_⟩) (Two.till (fun _ => hA) (fun _ => trivial)) (fun _ => ?_)
          rotate_left 1
          · intro wz hSw'; have hSw := hSw'.1 rfl; clear hSw'; (have h1 := (HF6.out.later hSw).c0; have h2 := (HF6.out.later hSw).c1; have h3 := (HF6.out.later hSw).c2; have h4 := (HF6.out.later hSw).c3); go_simp; try with_reducible rfl
          try simp only [Act.put, List.setIfInBounds_toArray, List.set_cons_zero, List.set_cons_succ]
          refine AnyV.take 6 7 (i := 1) (oi := _) (v := ?_) rfl (by kernel_rfl) (by kernel_rfl) (by kernel_rfl) (by kernel_rfl) (by kernel_rfl) (fun _ _ _ h => h) (Two.other (by decide)) (Or.inl ⟨by kernel_rfl, ?_⟩) (Two.till (fun _ => hA) (fun _ => trivial)) (fun _ => ?_)
          rotate_left 1
          · intro wz hSw'; have hSw := hSw'.1 rfl; clear hSw'; skip; go_simp; try with_reducible rfl
          try simp only [Act.put, List.setIfInBounds_toArray, List.set_cons_zero, List.set_cons_succ]
          refine AnyV.take 6 7 (i := 2) (oi := _) (v := ?_) rfl (by kernel_rfl) (by kernel_rfl) (by kernel_rfl) (by kernel_rfl) (by kernel_rfl) (fun _ _ _ h => h) (Two.other (by decide)) (Or.inl ⟨by kernel_rfl, ?_⟩) (Two.till (fun _ => hA) (fun _ => trivial)) (fun _ => ?_)
          rotate_left 1
          · intro wz hSw'; have hSw := hSw'.1 rfl; clear hSw'; skip; go_simp; try with_reducible rfl
          try simp only [Act.put, List.setIfInBounds_toArray, List.set_cons_zero, List.set_cons_succ]
          refine AnyV.take 6 7 (i := 3) (oi := _) (v := ?_) rfl (by kernel_rfl) (by kernel_rfl) (by kernel_rfl) (by kernel_rfl) (by kernel_rfl) (fun _ _ _ h => h) (Two.other (by decide)) (Or.inl ⟨by kernel_rfl, ?_⟩) (Two.till (fun _ => hA) (fun _ => trivial)) (fun _ => ?_)
          rotate_left 1
          · intro wz hSw'; have hSw := hSw'.1 rfl; clear hSw'; skip; go_simp; try with_reducible rfl
          try simp only [Act.put, List.setIfInBounds_toArray, List.set_cons_zero, List.set_cons_succ]
          refine AnyV.take 6 7 (i := 4) (oi := _) (v := ?_) rfl (by kernel_rfl) (by kernel_rfl) (by kernel_rfl) (by kernel_rfl) (by kernel_rfl) (fun _ _ _ h => h) (Two.other (by decide)) (Or.inl ⟨by kernel_rfl, ?_⟩) (Two.till (fun _ => hA) (fun _ => trivial)) (fun _ => ?_)
          rotate_left 1
          · intro wz hSw'; have hSw := hSw'.1 rfl; clear hSw'; (have h1 := (PrAt.later HAt.out hSw).c0; have h2 := (PrAt.later HAt.out hSw).c1); go_simp; try with_reducible rfl
          try simp only [Act.put, List.setIfInBounds_toArray, List.set_cons_zero, List.set_cons_succ]
          refine AnyV.take 6 7 (i := 5) (oi := _) (v := ?_) rfl (by kernel_rfl) (by kernel_rfl) (by kernel_rfl) (by kernel_rfl) (by kernel_rfl) (fun _ _ _ h => h) (Two.other (by decide)) (Or.inl ⟨by kernel_rfl, ?_⟩) (Two.till (fun _ => hA) (fun _ => trivial)) (fun _ => ?_)
          rotate_left 1
          · intro wz hSw'; have hSw := hSw'.1 rfl; clear hSw'; skip; go_simp; try with_reducible rfl
          try simp only [Act.put, List.setIfInBounds_toArray, List.set_cons_zero, List.set_cons_succ]
          refine AnyV.one (i := 6) (o := _) rfl (by kernel_rfl) (fun K hK => ?_)
          go_simp
          refine (isCalm_any a b c d x.a x.b m _ HW.out (all_ax HX.out HC.out) hm0).mono ?_
          rintro e w7 ⟨rfl, hb7⟩
          replace hA := two hA hb7
          have hB7 : Below w.heap.size w w7 := hbq.trans (hA.mono hbq.size)
          have F7 := Lib.hid (HF6.out.later hA)
          have HU := Lib.hid (calmI_at (a := a) (b := b) (c := c) (d := d) (m := m) HC.out)
          obtain ⟨u, hu⟩ : ∃ u, calmB a b c d x.a x.b m = u := ⟨_, rfl⟩
          rw [hu]
          have HU2 := Lib.hid hu
          clear hu
          go_wp2_with fail
          refine hK.out _ _ (Two.till (fun h => absurd h (by decide)) (fun _ => trivial)) ?_
          clear hK K hb7
          refine AnyV.done (by kernel_rfl) ?_
          try simp only [Act.put, List.setIfInBounds_toArray, List.set_cons_zero, List.set_cons_succ]
          clear hA
          cases u
          · have HV : Hid (calmI l a b c d m X = false) := Lib.hid (by rw [HU.out, HU2.out])
            clear HU HU2
            go_wp2_with fail
            (go_roundw; (case rel => exact ⟨.inr (.inl ⟨rfl, by rw [HXY.out.1]; exact HV.out⟩), hB7, F7.out⟩); (case measure => simp [intOf]))
          · have HV : Hid (calmI l a b c d m X = true) := Lib.hid (by rw [HU.out, HU2.out])
            clear HU HU2
            go_wp2_with fail
            (go_returns; exact ⟨⟨X, s, 0, rfl, .inr (.inr (.inr ⟨HX.out, HW.out, HIn.out, by rw [HN.out]; show TurnOut n p _ _; exact .inl ⟨s, HLt.out, HNo.out, .inl ⟨by rw [HXY.out.1]; exact HV.out, by rw [HXY.out.1]⟩⟩⟩))⟩, hB7⟩)
        · have HC1 := Lib.hid hc1
          clear hc1
          have hX0 : (0 : Int) ≤ (Y : Int) := by omega
          have hX1 : (Y : Int) < (n : Int) := by omega
          obtain ⟨bb, off, x, rfl, hb, hc, hat⟩ := HS.out.at (i := Y) (by rw [HN.out]; exact b2)
          have HAt := Lib.hid (show PrAt wq bb (off + Y * 2) x from PrAt.later hat hbq)
          have HC := Lib.hid hc
          clear hat hc
          go_wp2_with fail
          have hA : Below wq.heap.size wq wq.drew := below_drewN (Below.refl _ _) 1
          refine AnyV.start (Two 6 (fun w' => Below wq.heap.size wq w') 6 (fun _ => True)) 7 #[false, false, false, false, false, false, false] (by kernel_rfl) (by kernel_rfl) (by kernel_rfl) (fun _ => ⟨fun _ => hA, fun _ => trivial⟩) (fun _ => ?_)
          generalize World.drew wq = wd at hA ⊢
          refine AnyV.take 6 7 (i := 0) (oi := _) (v := ?_) rfl (by kernel_rfl) (by kernel_rfl) (by kernel_rfl) (by kernel_rfl) (by kernel_rfl) (fun _ _ _ h => h) (Two.other (by decide)) (Or.inl ⟨by kernel_rfl, ?_⟩) (Two.till (fun _ => hA) (fun _ => trivial)) (fun _ => ?_)
          rotate_left 1
          · intro wz hSw'; have hSw := hSw'.1 rfl; clear hSw'; (have h1 := (HF6.out.later hSw).c0; have h2 := (HF6.out.later hSw).c1; have h3 := (HF6.out.later hSw).c2; have h4 := (HF6.out.later hSw).c3); go_simp; try with_reducible rfl
          try simp only [Act.put, List.setIfInBounds_toArray, List.set_cons_zero, List.set_cons_succ]
          refine AnyV.take 6 7 (i := 1) (oi := _) (v := ?_) rfl (by kernel_rfl) (by kernel_rfl) (by kernel_rfl) (by kernel_rfl) (by kernel_rfl) (fun _ _ _ h => h) (Two.other (by decide)) (Or.inl ⟨by kernel_rfl, ?_⟩) (Two.till (fun _ => hA) (fun _ => trivial)) (fun _ => ?_)
          rotate_left 1
          · intro wz hSw'; have hSw := hSw'.1 rfl; clear hSw'; skip; go_simp; try with_reducible rfl
          try simp only [Act.put, List.setIfInBounds_toArray, List.set_cons_zero, List.set_cons_succ]
          refine AnyV.take 6 7 (i := 2) (oi := _) (v := ?_) rfl (by kernel_rfl) (by kernel_rfl) (by kernel_rfl) (by kernel_rfl) (by kernel_rfl) (fun _ _ _ h => h) (Two.other (by decide)) (Or.inl ⟨by kernel_rfl, ?_⟩) (Two.till (fun _ => hA) (fun _ => trivial)) (fun _ => ?_)
          rotate_left 1
          · intro wz hSw'; have hSw := hSw'.1 rfl; clear hSw'; skip; go_simp; try with_reducible rfl
          try simp only [Act.put, List.setIfInBounds_toArray, List.set_cons_zero, List.set_cons_succ]
          refine AnyV.take 6 7 (i := 3) (oi := _) (v := ?_) rfl (by kernel_rfl) (by kernel_rfl) (by kernel_rfl) (by kernel_rfl) (by kernel_rfl) (fun _ _ _ h => h) (Two.other (by decide)) (Or.inl ⟨by kernel_rfl, ?_⟩) (Two.till (fun _ => hA) (fun _ => trivial)) (fun _ => ?_)
          rotate_left 1
          · intro wz hSw'; have hSw := hSw'.1 rfl; clear hSw'; skip; go_simp; try with_reducible rfl
          try simp only [Act.put, List.setIfInBounds_toArray, List.set_cons_zero, List.set_cons_succ]
          refine AnyV.take 6 7 (i := 4) (oi := _) (v := ?_) rfl (by kernel_rfl) (by kernel_rfl) (by kernel_rfl) (by kernel_rfl) (by kernel_rfl) (fun _ _ _ h => h) (Two.other (by decide)) (Or.inl ⟨by kernel_rfl, ?_⟩) (Two.till (fun _ => hA) (fun _ => trivial)) (fun _ => ?_)
          rotate_left 1
          · intro wz hSw'; have hSw := hSw'.1 rfl; clear hSw'; (have h1 := (PrAt.later HAt.out hSw).c0; have h2 := (PrAt.later HAt.out hSw).c1); go_simp; try with_reducible rfl
          try simp only [Act.put, List.setIfInBounds_toArray, List.set_cons_zero, List.set_cons_succ]
          refine AnyV.take 6 7 (i := 5) (oi := _) (v := ?_) rfl (by kernel_rfl) (by kernel_rfl) (by kernel_rfl) (by kernel_rfl) (by kernel_rfl) (fun _ _ _ h => h) (Two.other (by decide)) (Or.inl ⟨by kernel_rfl, ?_⟩) (Two.till (fun _ => hA) (fun _ => trivial)) (fun _ => ?_)
          rotate_left 1
          · intro wz hSw'; have hSw := hSw'.1 rfl; clear hSw'; skip; go_simp; try with_reducible rfl
          try simp only [Act.put, List.setIfInBounds_toArray, List.set_cons_zero, List.set_cons_succ]
          refine AnyV.one (i := 6) (o := _) rfl (by kernel_rfl) (fun K hK => ?_)
          go_simp
          refine (isCalm_any a b c d x.a x.b m _ HW.out (all_ax HX.out HC.out) hm0).mono ?_
          rintro e w7 ⟨rfl, hb7⟩
          replace hA := two hA hb7
          have hB7 : Below w.heap.size w w7 := hbq.trans (hA.mono hbq.size)
          have F7 := Lib.hid (HF6.out.later hA)
          have HU := Lib.hid (calmI_at (a := a) (b := b) (c := c) (d := d) (m := m) HC.out)
          obtain ⟨u, hu⟩ : ∃ u, calmB a b c d x.a x.b m = u := ⟨_, rfl⟩
          rw [hu]
          have HU2 := Lib.hid hu
          clear hu
          go_wp2_with fail
          refine hK.out _ _ (Two.till (fun h => absurd h (by decide)) (fun _ => trivial)) ?_
          clear hK K hb7
          refine AnyV.done (by kernel_rfl) ?_
          try simp only [Act.put, List.setIfInBounds_toArray, List.set_cons_zero, List.set_cons_succ]
          clear hA
          cases u
          · have HV : Hid (calmI l a b c d m Y = false) := Lib.hid (by rw [HU.out, HU2.out])
            clear HU HU2
            go_wp2_with fail
            (go_roundw; (case rel => exact ⟨.inr (.inr ⟨rfl, HC1.out, by rw [HXY.out.2]; exact HV.out⟩), hB7, F7.out⟩); (case measure => simp [intOf]))
          · have HV : Hid (calmI l a b c d m Y = true) := Lib.hid (by rw [HU.out, HU2.out])
            clear HU HU2
            go_wp2_with fail
            (go_returns; exact ⟨⟨Y, s, 0, rfl, .inr (.inr (.inr ⟨HX.out, HW.out, HIn.out, by rw [HN.out]; show TurnOut n p _ _; exact .inl ⟨s, HLt.out, HNo.out, .inr ⟨HC1.out, by rw [HXY.out.2]; exact HV.out, by rw [HXY.out.2]⟩⟩⟩))⟩, hB7⟩)
        · have HNS := Lib.hid hc1
          clear hc1
          go_wp2_with fail
          go_roundw
          case rel => exact ⟨s + 1, by have := HLt.out; omega, by go_num, fun t ht => by rcases Nat.lt_succ_iff_lt_or_eq.1 ht with h | h; exact HNo.out t h; (subst h; exact HNS.out), hbq, HF6.out⟩
          case measure => simp [intOf]; have := HLt.out; omega
    · have hlt' : ¬ (s : Int) < ((n / 2 : Nat) : Int) + 1 := by omega
      have hall : ∀ t, t ≤ n / 2 → NoS n p (calmI l a b c d m) t := fun t ht => HNo.out t (by omega)
      have HAll := Lib.hid hall
      clear hall
      go_wp2_with fail
      go_returns
      exact ⟨⟨0, 0, 6, rfl, .inr (.inr (.inr ⟨HX.out, HW.out, HIn.out, by rw [HN.out]; show TurnOut n p _ _; exact .inr ⟨HAll.out, rfl⟩⟩))⟩, hbr⟩
end Go.Proofs.Ytbkabgbkdggnhaa
