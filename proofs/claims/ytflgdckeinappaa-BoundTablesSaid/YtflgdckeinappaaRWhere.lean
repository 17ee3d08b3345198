/- The reference's where. -/
import Derived.Test.YtflgdckeinappaaRUp
import Derived.Test.YtflgdckeinappaaRLines
import Derived.Test.YtflgdckeinappaaTail4
import Derived.Test.YtflgdckeinappaaMay
namespace Go.Proofs.Ytflgdckeinappaa
open Go.RowKit

/-- A box for a span that may be written. -/
structure BY (n : Nat) (w : World) (x y : Int) : Prop where
  c0 : w.cell? ⟨n, 0, none⟩ = some (.int .i64 x)
  c1 : w.cell? ⟨n, 1, none⟩ = some (.int .i64 y)
  f0 : w.frozen? ⟨n, 0, none⟩ = false
  f1 : w.frozen? ⟨n, 1, none⟩ = false
  lt : n < w.heap.size
theorem BY.later {n : Nat} {w w1 : World} {x y : Int} (k : BY n w x y) (hb : Below w.heap.size w w1) : BY n w1 x y :=
  ⟨cell_later hb k.c0, cell_later hb k.c1, ((bcell hb).2 _ 0 k.lt).trans k.f0, ((bcell hb).2 _ 1 k.lt).trans k.f1, Nat.lt_of_lt_of_le k.lt hb.size⟩
theorem BY.put {n : Nat} {w : World} {x y : Int} (k : BY n w x y) (x' y' : Int) : BY n ((w.setCell ⟨n, 0, none⟩ (.int .i64 x')).setCell ⟨n, 1, none⟩ (.int .i64 y')) x' y' := by
  obtain ⟨c0, c1, f0, f1, lt⟩ := k
  exact ⟨by go_cell, by go_cell, by go_cell, by go_cell, by simpa using lt⟩
theorem BY.other {n m o : Nat} {w : World} {x y : Int} {v : Value} (k : BY n w x y) (h : m ≠ n) : BY n (w.setCell ⟨m, o, none⟩ v) x y := by
  obtain ⟨c0, c1, f0, f1, lt⟩ := k
  exact ⟨by rw [World.cell?_setCell_other _ _ _ _ (by simp <;> omega)]; exact c0, by rw [World.cell?_setCell_other _ _ _ _ (by simp <;> omega)]; exact c1, by go_cell, by go_cell, by simpa using lt⟩
theorem below_put {B m : Nat} {w w1 : World} (h : Below B w w1) (hm : B ≤ m) (x y : Value) : Below B w ((w1.setCell ⟨m, 0, none⟩ x).setCell ⟨m, 1, none⟩ y) := by go_grown
theorem by_step {W cur : World} (hA : Below W.heap.size W cur) :
    ∃ w9 B, cur.alloc (.cells #[.int .i64 0, .int .i64 0] 23) = w9 ∧ cur.heap.size = B ∧ Below W.heap.size W w9 ∧ BY B w9 0 0 ∧ W.heap.size ≤ B ∧ Below cur.heap.size cur w9 :=
  ⟨_, _, rfl, rfl, hA.alloc hA.size _, ⟨by go_cell, by go_cell, by go_cell, by go_cell, by simp⟩, hA.size, below_box _ _⟩
theorem by_box (w : World) (x y : Int) (t : TypeId) : BY w.heap.size (w.alloc (.cells #[.int .i64 x, .int .i64 y] t)) x y := ⟨by go_cell, by go_cell, by go_cell, by go_cell, by simp⟩

/-- What both conditions leave of a segment. -/
def upl (D v1 u1 v2 u2 most least : Int) : Int × Int := upS (upS 0 D (u1 - v1) ((most - v1) * D)).1 (upS 0 D (u1 - v1) ((most - v1) * D)).2 (v2 - u2) ((v2 - least) * D)
theorem upS_bd {lo hi s m X : Int} (h1 : -X ≤ lo) (h2 : lo ≤ X) (h3 : -X ≤ hi) (h4 : hi ≤ X) (h5 : -4611686020574871552 ≤ m) (h6 : m ≤ 4611686020574871552) (hX : 4611686020574871552 ≤ X) :
    -X ≤ (upS lo hi s m).1 ∧ (upS lo hi s m).1 ≤ X + 1 ∧ -X ≤ (upS lo hi s m).2 ∧ (upS lo hi s m).2 ≤ X := by
  unfold upS
  split
  · have := quo_bd m s (by omega) h5 h6
    simp only; omega
  · split
    · have := quo_bd m (-s) (by omega) h5 h6
      simp only; omega
    · split <;> (simp only; omega)

/-- The loop's head. -/
def RWHead (L : Nat → List (Int × Int)) (n : Nat) (w wr : World) (v9 v10 : Value) : Prop := ∃ k : Nat, k + 1 ≤ n ∧ v10 = .int .i64 k ∧ wr.ownsRow w.heap.size 23 2 v9 (L k).length (spV (L k)) ∧ Below w.heap.size w wr
/-- Behind the copies of both spans. -/
def RB (wr wy : World) (v12 v13 : Value) (x y x' y' : Int) : Prop := ∃ B C : Nat, v12 = .pointer (some ⟨B, 0, none⟩) ∧ v13 = .pointer (some ⟨C, 0, none⟩) ∧ Below wr.heap.size wr wy ∧ wr.heap.size ≤ B ∧ wr.heap.size ≤ C ∧ B ≠ C ∧ BY B wy x y ∧ BY C wy x' y'



set_option linter.unusedSimpArgs false in
set_option linter.unusedVariables false in
set_option maxHeartbeats 16000000 in
set_option maxRecDepth 100000 in
theorem rwhere_may (v : Value) (ks : List (Int × Int × Int)) (most least : Int) (L : Nat → List (Int × Int)) (w : World) (hs : SlK w v ks) (ht : tableB ks = true)
    (hm0 : -1073741825 ≤ most) (hm1 : most ≤ 1073741825) (hl0 : -1073741825 ≤ least) (hl1 : least ≤ 1073741825) (hL0 : L 0 = [])
    (hSeg : ∀ k, k + 1 < ks.length → joinS (L k) (atOf ks k + (upl (atOf ks (k + 1) - atOf ks k) (loOf ks k) (loOf ks (k + 1)) (hiOf ks k) (hiOf ks (k + 1)) most least).1) (atOf ks k + (upl (atOf ks (k + 1) - atOf ks k) (loOf ks k) (loOf ks (k + 1)) (hiOf ks k) (hiOf ks (k + 1)) most least).2) = L (k + 1))
    (hIn : ∀ k, k + 1 ≤ ks.length → (L k).length ≤ 1000 ∧ ∀ x y, (x, y) ∈ L k → -1099511627776 ≤ y ∧ y ≤ 1099511627776) :
    Calls Try.prog 88 #[v, .int .i64 most, .int .i64 least, .bool true] w fun e w' => WhR w w' e (L (ks.length - 1)) := by
  have hlen : 2 ≤ ks.length ∧ ks.length ≤ 32 := by unfold tableB at ht; simp at ht; omega
  rcases hs with ⟨e1, _⟩ | ⟨b, off, cap, rfl, hcap, hmax, hb, hcells⟩
  · rw [e1] at hlen; simp at hlen
  obtain ⟨l1, l2⟩ := hlen
  have HC := Lib.hid hcells
  have HT := Lib.hid ht
  have HSeg := Lib.hid hSeg
  have HIn := Lib.hid hIn
  have HL0 := Lib.hid hL0
  clear hcells ht hSeg hIn hL0
  go_enter Try.func88, Try.ntmps88
  go_wp2_with fail
  go_loopw [9, 10] (fun v9 v10 wr => RWHead L ks.length w wr v9 v10) (fun _ v10 _ => ks.length - (intOf v10).toNat)
  case atStart => exact ⟨0, by omega, rfl, by rw [HL0.out]; exact World.ownsRow_nil _ _ _ _, Below.refl _ _⟩
  case round =>
    obtain ⟨k, hk, rfl, hown, hbr⟩ := hrel
    have HOwn := Lib.hid hown
    have HBr := Lib.hid hbr
    by_cases hlt : k + 1 < ks.length
    · have hg := knot_get (show k < ks.length by omega)
      have hg' := knot_get hlt
      obtain ⟨c0, c1, c2⟩ := HC.out _ _ _ _ hg
      obtain ⟨d0, d1, d2⟩ := HC.out _ _ _ _ hg'
      have hbl : ∀ o, wr.cell? ⟨b, o, none⟩ = w.cell? ⟨b, o, none⟩ := fun o => hbr.cell (by simpa using hb)
      rw [← hbl] at c0 c1 c2 d0 d1 d2
      have t0 : (0 : Int) ≤ (k : Int) := by omega
      have t1 : ((k : Int) + 1).toNat = k + 1 := by omega
      have t2 : (k : Int) + 1 < (ks.length : Int) := by omega
      have t3 : (k : Int) < (ks.length : Int) := by omega
      have t4 : (0 : Int) ≤ (k : Int) + 1 := by omega
      have t5 : IntKind.i64.wrap ((k : Int) + 1) = (k : Int) + 1 := IntWalk.i64_in _ ⟨by omega, by omega⟩
      have hbr2 : b < wr.heap.size := by have := hbr.size; omega
      obtain ⟨⟨s1, s2, s3, s4, s5⟩, ⟨s6, s7, s8, s9, s10⟩, s11⟩ := seg_of HT.out hlt
      have HPair := Lib.hid (HSeg.out k hlt)
      have HLen := Lib.hid (HIn.out k (by omega)).1
      have HIn2 := Lib.hid (HIn.out k (by omega)).2
      unfold upl at HPair
      obtain ⟨a, ha⟩ : ∃ a, atOf ks k = a := ⟨_, rfl⟩
      obtain ⟨a', ha'⟩ : ∃ a, atOf ks (k + 1) = a := ⟨_, rfl⟩
      obtain ⟨l, hl⟩ : ∃ a, loOf ks k = a := ⟨_, rfl⟩
      obtain ⟨h, hh⟩ : ∃ a, hiOf ks k = a := ⟨_, rfl⟩
      obtain ⟨l', hl'⟩ : ∃ a, loOf ks (k + 1) = a := ⟨_, rfl⟩
      obtain ⟨h', hh'⟩ : ∃ a, hiOf ks (k + 1) = a := ⟨_, rfl⟩
      rw [ha] at c0 s1 s2 s11 HPair
      rw [ha'] at d0 s6 s7 s11 HPair
      rw [hl] at c1 s3 s4 HPair
      rw [hh] at c2 s4 s5 HPair
      rw [hl'] at d1 s8 s9 HPair
      rw [hh'] at d2 s9 s10 HPair
      have k1 := room_bd (p := most - l) (q := a' - a) (by omega) (by omega) (by omega) (by omega)
      have k2 := room_bd (p := h - least) (q := a' - a) (by omega) (by omega) (by omega) (by omega)
      obtain ⟨D, hD⟩ : ∃ D, a' - a = D := ⟨_, rfl⟩
      have hD0 : 1 ≤ D ∧ D ≤ 2147483648 := by omega
      rw [hD] at k1 k2 HPair
      have f2 : IntKind.i64.wrap D = D := IntWalk.i64_in _ ⟨by omega, by omega⟩
      obtain ⟨P1, hP1⟩ : ∃ P, (most - l) * D = P := ⟨_, rfl⟩
      obtain ⟨P2, hP2⟩ : ∃ P, (h - least) * D = P := ⟨_, rfl⟩
      rw [hP1] at k1 HPair
      rw [hP2] at k2 HPair
      have f5 : IntKind.i64.wrap P1 = P1 := IntWalk.i64_in _ ⟨by omega, by omega⟩
      have f6 : IntKind.i64.wrap P2 = P2 := IntWalk.i64_in _ ⟨by omega, by omega⟩
      have HX := Lib.hid (KX.mk (b := b) (o := off + k * 3) (p := off + (k + 1) * 3) c0 c1 c2 d0 d1 d2)
      clear hown hbr hg hg' hbl ha ha' hl hh hl' hh' HSeg HIn HC HT HL0
      go_wp2_with fail
      go_quiet (fail)
      have hA : Below wr.heap.size wr (wr.drewN nq) := below_drewN (Below.refl _ _) nq
      clear c0 c1 c2 d0 d1 d2
      generalize wr.drewN nq = wq at *
      obtain ⟨c0, c1, c2, d0, d1, d2⟩ := HX.out.later hA
      go_wp2_with fail
      go_cut [12, 13] from 15 to 104 (fun v12 v13 wy => RB wr wy v12 v13 l h l' h')
      case first =>
        clear k1 k2 f5 f6 hP1 hP2 HPair HLen HIn2 HOwn HBr c0 c1 c2 d0 d1 d2
        have hA0 := hA
        clear hA
        have hA : Below wr.heap.size wr wq.drew := below_drewN hA0 1
        refine AnyU.start (fun w' => Below wr.heap.size wr w') 14 15 #[false, false, false, false, false, false, false, false, false, false, false, false, false, false, false] (by kernel_rfl) (by kernel_rfl) (by kernel_rfl) hA (fun hHeld => ?_)
        generalize World.drew wq = wd1 at hA hHeld ⊢
        clear hA0
        refine AnyU.take (i := 0) (oi := _) (v := ?_) rfl (by kernel_rfl) (by kernel_rfl) (by kernel_rfl) (by kernel_rfl) (by kernel_rfl) (fun _ _ _ h => h) (Or.inl ⟨by rfl, ?_⟩) (by assumption) ?_
        rotate_left 1
        · intro wz hSw; clear hSw; go_simp; try with_reducible rfl
        try simp only [Act.put, List.setIfInBounds_toArray, List.set_cons_zero, List.set_cons_succ]
        refine AnyU.take (i := 1) (oi := _) (v := ?_) rfl (by kernel_rfl) (by kernel_rfl) (by kernel_rfl) (by kernel_rfl) (by kernel_rfl) (fun _ _ _ h => h) (Or.inl ⟨by rfl, ?_⟩) (by assumption) ?_
        rotate_left 1
        · intro wz hSw; clear hSw; go_simp; try with_reducible rfl
        try simp only [Act.put, List.setIfInBounds_toArray, List.set_cons_zero, List.set_cons_succ]
        refine AnyU.take (i := 2) (oi := _) (v := ?_) rfl (by kernel_rfl) (by kernel_rfl) (by kernel_rfl) (by kernel_rfl) (by kernel_rfl) (fun _ _ _ h => h) (Or.inl ⟨by rfl, ?_⟩) (by assumption) ?_
        rotate_left 1
        · intro wz hSw; clear hSw; go_simp; try with_reducible rfl
        try simp only [Act.put, List.setIfInBounds_toArray, List.set_cons_zero, List.set_cons_succ]
        refine AnyU.take (i := 3) (oi := _) (v := ?_) rfl (by kernel_rfl) (by kernel_rfl) (by kernel_rfl) (by kernel_rfl) (by kernel_rfl) (fun _ _ _ h => h) (Or.inl ⟨by rfl, ?_⟩) (by assumption) ?_
        rotate_left 1
        · intro wz hSw; clear hSw; go_simp; try with_reducible rfl
        try simp only [Act.put, List.setIfInBounds_toArray, List.set_cons_zero, List.set_cons_succ]
        refine AnyU.take (i := 4) (oi := _) (v := ?_) rfl (by kernel_rfl) (by kernel_rfl) (by kernel_rfl) (by kernel_rfl) (by kernel_rfl) (fun _ _ _ h => h) (Or.inl ⟨by rfl, ?_⟩) (by assumption) ?_
        rotate_left 1
        · intro wz hSw; have h1 := (HX.out.later hSw).p1; have h2 := (HX.out.later hSw).p2; go_simp; try with_reducible rfl
        try simp only [Act.put, List.setIfInBounds_toArray, List.set_cons_zero, List.set_cons_succ]
        refine AnyU.take (i := 5) (oi := _) (v := ?_) rfl (by kernel_rfl) (by kernel_rfl) (by kernel_rfl) (by kernel_rfl) (by kernel_rfl) (fun _ _ _ h => h) (Or.inl ⟨by rfl, ?_⟩) (by assumption) ?_
        rotate_left 1
        · intro wz hSw; clear hSw; go_simp; try with_reducible rfl
        try simp only [Act.put, List.setIfInBounds_toArray, List.set_cons_zero, List.set_cons_succ]
        refine AnyU.take (i := 6) (oi := _) (v := ?_) rfl (by kernel_rfl) (by kernel_rfl) (by kernel_rfl) (by kernel_rfl) (by kernel_rfl) (fun _ _ _ h => h) (Or.inl ⟨by rfl, ?_⟩) (by assumption) ?_
        rotate_left 1
        · intro wz hSw; clear hSw; go_simp; try with_reducible rfl
        try simp only [Act.put, List.setIfInBounds_toArray, List.set_cons_zero, List.set_cons_succ]
        refine AnyU.take (i := 7) (oi := _) (v := ?_) rfl (by kernel_rfl) (by kernel_rfl) (by kernel_rfl) (by kernel_rfl) (by kernel_rfl) (fun _ _ _ h => h) (Or.inl ⟨by rfl, ?_⟩) (by assumption) ?_
        rotate_left 1
        · intro wz hSw; clear hSw; go_simp; try with_reducible rfl
        try simp only [Act.put, List.setIfInBounds_toArray, List.set_cons_zero, List.set_cons_succ]
        refine AnyU.take (i := 8) (oi := _) (v := ?_) rfl (by kernel_rfl) (by kernel_rfl) (by kernel_rfl) (by kernel_rfl) (by kernel_rfl) (fun _ _ _ h => h) (Or.inl ⟨by rfl, ?_⟩) (by assumption) ?_
        rotate_left 1
        · intro wz hSw; clear hSw; go_simp; try with_reducible rfl
        try simp only [Act.put, List.setIfInBounds_toArray, List.set_cons_zero, List.set_cons_succ]
        refine AnyU.take (i := 9) (oi := _) (v := ?_) rfl (by kernel_rfl) (by kernel_rfl) (by kernel_rfl) (by kernel_rfl) (by kernel_rfl) (fun _ _ _ h => h) (Or.inl ⟨by rfl, ?_⟩) (by assumption) ?_
        rotate_left 1
        · intro wz hSw; clear hSw; go_simp; try with_reducible rfl
        try simp only [Act.put, List.setIfInBounds_toArray, List.set_cons_zero, List.set_cons_succ]
        refine AnyU.take (i := 10) (oi := _) (v := ?_) rfl (by kernel_rfl) (by kernel_rfl) (by kernel_rfl) (by kernel_rfl) (by kernel_rfl) (fun _ _ _ h => h) (Or.inl ⟨by rfl, ?_⟩) (by assumption) ?_
        rotate_left 1
        · intro wz hSw; have h1 := (HX.out.later hSw).q1; have h2 := (HX.out.later hSw).q2; go_simp; try with_reducible rfl
        try simp only [Act.put, List.setIfInBounds_toArray, List.set_cons_zero, List.set_cons_succ]
        clear hHeld
        refine AnyU.some [11, 12] (by kernel_rfl) (by simp) (fun i hi => ?_)
        simp only [List.mem_cons, List.not_mem_nil, or_false] at hi
        rcases hi with rfl | rfl
        · skip
          refine AnyU.step (o := _) rfl (fun K hK => ?_)
          go_simp
          obtain ⟨w2, B, e9, f9, hA9, hB0, geB, hb2⟩ := by_step hA
          rw [e9, f9]
          clear e9 hA
          have hA := hA9
          clear hA9
          refine hK.out _ _ (fun _ _ => hA) ?_
          clear hK K
          try simp only [Act.put, List.setIfInBounds_toArray, List.set_cons_zero, List.set_cons_succ]
          clear f9
          refine AnyU.one (i := 12) (o := _) rfl (by kernel_rfl) (fun K hK => ?_)
          go_simp
          obtain ⟨w3, C, e9, f9, hA9, hC1, geC, hb3⟩ := by_step hA
          rw [e9, f9]
          clear e9 hA
          have hA := hA9
          clear hA9
          refine hK.out _ _ (fun _ _ => hA) ?_
          clear hK K
          try simp only [Act.put, List.setIfInBounds_toArray, List.set_cons_zero, List.set_cons_succ]
          have hne : B ≠ C := by have := hB0.lt; omega
          have hB1 := hB0.later hb3
          clear f9 hB0 hb2 hb3
          obtain ⟨p0, p1, p2, p3, p4⟩ := hB1
          refine AnyU.one (i := 13) (o := _) rfl (by kernel_rfl) (fun K hK => ?_)
          go_simp
          refine hK.out _ _ (fun _ _ => below_put hA geB _ _) ?_
          clear hK K
          try simp only [Act.put, List.setIfInBounds_toArray, List.set_cons_zero, List.set_cons_succ]
          have hB2 := (BY.mk p0 p1 p2 p3 p4).put l h
          have hC2 := (hC1.other (o := 0) (v := .int .i64 l) hne).other (o := 1) (v := .int .i64 h) hne
          have hA2 := below_put hA geB (.int .i64 l) (.int .i64 h)
          clear hA p0 p1 p2 p3 p4 hC1
          generalize (World.setCell (World.setCell w3 ⟨B, 0, none⟩ (.int .i64 l)) ⟨B, 1, none⟩ (.int .i64 h)) = wp at *
          obtain ⟨p0, p1, p2, p3, p4⟩ := hC2
          refine AnyU.one (i := 14) (o := _) rfl (by kernel_rfl) (fun K hK => ?_)
          go_simp
          refine hK.out _ _ (fun h => absurd rfl h) ?_
          clear hK K
          refine AnyU.done (by kernel_rfl) ?_
          try simp only [Act.put, List.setIfInBounds_toArray, List.set_cons_zero, List.set_cons_succ]
          have hC3 := (BY.mk p0 p1 p2 p3 p4).put l' h'
          have hB3 := (hB2.other (o := 0) (v := .int .i64 l') hne.symm).other (o := 1) (v := .int .i64 h') hne.symm
          have hA3 := below_put hA2 geC (.int .i64 l') (.int .i64 h')
          clear p0 p1 p2 p3 p4 hB2 hA2
          go_wp2_with fail
          go_meet
          case rel => exact ⟨B, C, rfl, rfl, hA3, geB, geC, hne, hB3, hC3⟩
        · skip
          refine AnyU.step (o := _) rfl (fun K hK => ?_)
          go_simp
          obtain ⟨w2, C, e9, f9, hA9, hC0, geC, hb2⟩ := by_step hA
          rw [e9, f9]
          clear e9 hA
          have hA := hA9
          clear hA9
          refine hK.out _ _ (fun _ _ => hA) ?_
          clear hK K
          try simp only [Act.put, List.setIfInBounds_toArray, List.set_cons_zero, List.set_cons_succ]
          clear f9
          refine AnyU.one (i := 11) (o := _) rfl (by kernel_rfl) (fun K hK => ?_)
          go_simp
          obtain ⟨w3, B, e9, f9, hA9, hB1, geB, hb3⟩ := by_step hA
          rw [e9, f9]
          clear e9 hA
          have hA := hA9
          clear hA9
          refine hK.out _ _ (fun _ _ => hA) ?_
          clear hK K
          try simp only [Act.put, List.setIfInBounds_toArray, List.set_cons_zero, List.set_cons_succ]
          have hne : B ≠ C := by have := hC0.lt; omega
          have hC1 := hC0.later hb3
          clear f9 hC0 hb2 hb3
          obtain ⟨p0, p1, p2, p3, p4⟩ := hB1
          refine AnyU.one (i := 13) (o := _) rfl (by kernel_rfl) (fun K hK => ?_)
          go_simp
          refine hK.out _ _ (fun _ _ => below_put hA geB _ _) ?_
          clear hK K
          try simp only [Act.put, List.setIfInBounds_toArray, List.set_cons_zero, List.set_cons_succ]
          have hB2 := (BY.mk p0 p1 p2 p3 p4).put l h
          have hC2 := (hC1.other (o := 0) (v := .int .i64 l) hne).other (o := 1) (v := .int .i64 h) hne
          have hA2 := below_put hA geB (.int .i64 l) (.int .i64 h)
          clear hA p0 p1 p2 p3 p4 hC1
          generalize (World.setCell (World.setCell w3 ⟨B, 0, none⟩ (.int .i64 l)) ⟨B, 1, none⟩ (.int .i64 h)) = wp at *
          obtain ⟨p0, p1, p2, p3, p4⟩ := hC2
          refine AnyU.one (i := 14) (o := _) rfl (by kernel_rfl) (fun K hK => ?_)
          go_simp
          refine hK.out _ _ (fun h => absurd rfl h) ?_
          clear hK K
          refine AnyU.done (by kernel_rfl) ?_
          try simp only [Act.put, List.setIfInBounds_toArray, List.set_cons_zero, List.set_cons_succ]
          have hC3 := (BY.mk p0 p1 p2 p3 p4).put l' h'
          have hB3 := (hB2.other (o := 0) (v := .int .i64 l') hne.symm).other (o := 1) (v := .int .i64 h') hne.symm
          have hA3 := below_put hA2 geC (.int .i64 l') (.int .i64 h')
          clear p0 p1 p2 p3 p4 hB2 hA2
          go_wp2_with fail
          go_meet
          case rel => exact ⟨B, C, rfl, rfl, hA3, geB, geC, hne, hB3, hC3⟩
      case rest =>
        clear hA c0 c1 c2 d0 d1 d2
        obtain ⟨B, C, rfl, rfl, hA, geB, geC, hne, hBY, hCY⟩ := hcut
        generalize wc = w6 at *
        obtain ⟨p0, p1, p2, p3, p4⟩ := hBY
        obtain ⟨r0, r1, r2, r3, r4⟩ := hCY
        go_wp2_with fail
        refine (rupTo_wide 0 D (l' - l) P1 _ (by omega) (by omega) k1.1 k1.2 (by omega) (by omega)).mono ?_
        rintro e w7 ⟨rfl, hb7⟩
        replace hA := two hA hb7
        replace p0 := cell_later hb7 p0
        replace p1 := cell_later hb7 p1
        replace r0 := cell_later hb7 r0
        replace r1 := cell_later hb7 r1
        have hb8 := below_box w7 (.cells #[.int .i64 (upS 0 D (l' - l) P1).1, .int .i64 (upS 0 D (l' - l) P1).2] 23)
        have hY := by_box w7 (upS 0 D (l' - l) P1).1 (upS 0 D (l' - l) P1).2 23
        have ge7 := hA.size
        have hbd := upS_bd (s := l' - l) (m := P1) (X := 4611686020574871552) (show -4611686020574871552 ≤ (0 : Int) by omega) (by omega) (show -4611686020574871552 ≤ D by omega) (by omega) k1.1 k1.2 (by omega)
        have q0 := cell_later hb8 p0
        have q1 := cell_later hb8 p1
        have s0 := cell_later hb8 r0
        have s1 := cell_later hb8 r1
        have hA8 := two hA hb8
        clear hb7 hA p0 p1 p2 p3 p4 r0 r1 r2 r3 r4 hb8
        obtain ⟨x1, hx1⟩ : ∃ x, (upS 0 D (l' - l) P1).1 = x := ⟨_, rfl⟩
        obtain ⟨x2, hx2⟩ : ∃ x, (upS 0 D (l' - l) P1).2 = x := ⟨_, rfl⟩
        have hin := upS_in (w := D) (s := l' - l) (m := P1) (by omega)
        rw [hx1, hx2] at HPair hbd hin
        simp only [hx1, hx2] at hY q0 q1 s0 s1 hA8 ⊢
        obtain ⟨y0, y1, y2, y3, y4⟩ := hY
        clear hx1 hx2
        obtain ⟨w8, hw8⟩ : ∃ w8, w7.alloc (.cells #[.int .i64 x1, .int .i64 x2] 23) = w8 := ⟨_, rfl⟩
        rw [hw8] at y0 y1 y2 y3 y4 q0 q1 s0 s1 hA8
        go_wp2_with fail
        try rw [hw8]
        clear hw8
        refine (rupTo_wide x1 x2 (h - h') P2 _ (by omega) (by omega) k2.1 k2.2 (by omega) (by omega)).mono ?_
        rintro e w9 ⟨rfl, hb9⟩
        have hY9 := (BY.mk y0 y1 y2 y3 y4).later hb9
        have hA9 := two hA8 hb9
        have hbd2 := upS_bd (lo := x1) (hi := x2) (s := h - h') (m := P2) (X := 4611686020574871553) (by omega) (by omega) (by omega) (by omega) k2.1 k2.2 (by omega)
        clear hb9 hA8 q0 q1 s0 s1 y0 y1 y2 y3 y4
        obtain ⟨z1, hz1⟩ : ∃ x, (upS x1 x2 (h - h') P2).1 = x := ⟨_, rfl⟩
        obtain ⟨z2, hz2⟩ : ∃ x, (upS x1 x2 (h - h') P2).2 = x := ⟨_, rfl⟩
        rw [hz1, hz2] at HPair hbd2 ⊢
        clear hz1 hz2
        obtain ⟨y0, y1, y2, y3, y4⟩ := hY9
        go_wp2_with fail
        have hY10 := (BY.mk y0 y1 y2 y3 y4).put z1 z2
        have hA10 := below_put hA9 ge7 (.int .i64 z1) (.int .i64 z2)
        clear y0 y1 y2 y3 y4 hA9
        generalize (World.setCell (World.setCell w9 ⟨w7.heap.size, 0, none⟩ (.int .i64 z1)) ⟨w7.heap.size, 1, none⟩ (.int .i64 z2)) = w10 at *
        have hA : Below wr.heap.size wr w10.drew := below_drewN hA10 1
        have hY := hY10.later (below_drewN (Below.refl _ _) 1 : Below w10.heap.size w10 (w10.drewN 1))
        have hY : BY w7.heap.size w10.drew z1 z2 := hY
        have f11 : IntKind.i64.wrap (a + z1) = a + z1 := IntWalk.i64_in _ ⟨by omega, by omega⟩
        have f12 : IntKind.i64.wrap (a + z2) = a + z2 := IntWalk.i64_in _ ⟨by omega, by omega⟩
        obtain ⟨y0, y1, y2, y3, y4⟩ := hY
        have e0 := (HX.out.later hA).p0
        refine AnyV.start (Two 18 (fun w' => w' = w10.drew) 18 (fun _ => True)) 20 #[false, false, false, false, false, false, false, false, false, false, false, false, false, false, false, false, false, false, false, false] (by kernel_rfl) (by kernel_rfl) (by kernel_rfl) (fun _ => ⟨fun _ => rfl, fun _ => trivial⟩) (fun hHeld => ?_)
        generalize World.drew w10 = wd at *
        refine AnyV.take 18 12 (i := 0) (oi := _) (v := ?_) rfl (by kernel_rfl) (by kernel_rfl) (by kernel_rfl) (by kernel_rfl) (by kernel_rfl) (fun _ _ _ h => h) (Two.other (by decide)) (Or.inl ⟨by rfl, ?_⟩) (by assumption) (fun hHeld => ?_)
        rotate_left 1
        · intro wz hSw; have hSw' := hSw.1 rfl; subst hSw'; go_simp; try with_reducible rfl
        try simp only [Act.put, List.setIfInBounds_toArray, List.set_cons_zero, List.set_cons_succ] at hHeld ⊢
        refine AnyV.take 18 12 (i := 1) (oi := _) (v := ?_) rfl (by kernel_rfl) (by kernel_rfl) (by kernel_rfl) (by kernel_rfl) (by kernel_rfl) (fun _ _ _ h => h) (Two.other (by decide)) (Or.inl ⟨by rfl, ?_⟩) (by assumption) (fun hHeld => ?_)
        rotate_left 1
        · intro wz hSw; have hSw' := hSw.1 rfl; subst hSw'; go_simp; try with_reducible rfl
        try simp only [Act.put, List.setIfInBounds_toArray, List.set_cons_zero, List.set_cons_succ] at hHeld ⊢
        refine AnyV.take 18 12 (i := 2) (oi := _) (v := ?_) rfl (by kernel_rfl) (by kernel_rfl) (by kernel_rfl) (by kernel_rfl) (by kernel_rfl) (fun _ _ _ h => h) (Two.other (by decide)) (Or.inl ⟨by rfl, ?_⟩) (by assumption) (fun hHeld => ?_)
        rotate_left 1
        · intro wz hSw; have hSw' := hSw.1 rfl; subst hSw'; go_simp; try with_reducible rfl
        try simp only [Act.put, List.setIfInBounds_toArray, List.set_cons_zero, List.set_cons_succ] at hHeld ⊢
        refine AnyV.take 18 12 (i := 3) (oi := _) (v := ?_) rfl (by kernel_rfl) (by kernel_rfl) (by kernel_rfl) (by kernel_rfl) (by kernel_rfl) (fun _ _ _ h => h) (Two.other (by decide)) (Or.inl ⟨by rfl, ?_⟩) (by assumption) (fun hHeld => ?_)
        rotate_left 1
        · intro wz hSw; have hSw' := hSw.1 rfl; subst hSw'; go_simp; try with_reducible rfl
        try simp only [Act.put, List.setIfInBounds_toArray, List.set_cons_zero, List.set_cons_succ] at hHeld ⊢
        refine AnyV.take 18 12 (i := 4) (oi := _) (v := ?_) rfl (by kernel_rfl) (by kernel_rfl) (by kernel_rfl) (by kernel_rfl) (by kernel_rfl) (fun _ _ _ h => h) (Two.other (by decide)) (Or.inl ⟨by rfl, ?_⟩) (by assumption) (fun hHeld => ?_)
        rotate_left 1
        · intro wz hSw; have hSw' := hSw.1 rfl; subst hSw'; go_simp; try with_reducible rfl
        try simp only [Act.put, List.setIfInBounds_toArray, List.set_cons_zero, List.set_cons_succ] at hHeld ⊢
        refine AnyV.take 18 12 (i := 5) (oi := _) (v := ?_) rfl (by kernel_rfl) (by kernel_rfl) (by kernel_rfl) (by kernel_rfl) (by kernel_rfl) (fun _ _ _ h => h) (Two.other (by decide)) (Or.inl ⟨by rfl, ?_⟩) (by assumption) (fun hHeld => ?_)
        rotate_left 1
        · intro wz hSw; have hSw' := hSw.1 rfl; subst hSw'; go_simp; try with_reducible rfl
        try simp only [Act.put, List.setIfInBounds_toArray, List.set_cons_zero, List.set_cons_succ] at hHeld ⊢
        refine AnyV.take 18 12 (i := 6) (oi := _) (v := ?_) rfl (by kernel_rfl) (by kernel_rfl) (by kernel_rfl) (by kernel_rfl) (by kernel_rfl) (fun _ _ _ h => h) (Two.other (by decide)) (Or.inl ⟨by rfl, ?_⟩) (by assumption) (fun hHeld => ?_)
        rotate_left 1
        · intro wz hSw; have hSw' := hSw.1 rfl; subst hSw'; go_simp; try with_reducible rfl
        try simp only [Act.put, List.setIfInBounds_toArray, List.set_cons_zero, List.set_cons_succ] at hHeld ⊢
        refine AnyV.take 18 12 (i := 7) (oi := _) (v := ?_) rfl (by kernel_rfl) (by kernel_rfl) (by kernel_rfl) (by kernel_rfl) (by kernel_rfl) (fun _ _ _ h => h) (Two.other (by decide)) (Or.inl ⟨by rfl, ?_⟩) (by assumption) (fun hHeld => ?_)
        rotate_left 1
        · intro wz hSw; have hSw' := hSw.1 rfl; subst hSw'; go_simp; try with_reducible rfl
        try simp only [Act.put, List.setIfInBounds_toArray, List.set_cons_zero, List.set_cons_succ] at hHeld ⊢
        refine AnyV.take 18 12 (i := 8) (oi := _) (v := ?_) rfl (by kernel_rfl) (by kernel_rfl) (by kernel_rfl) (by kernel_rfl) (by kernel_rfl) (fun _ _ _ h => h) (Two.other (by decide)) (Or.inl ⟨by rfl, ?_⟩) (by assumption) (fun hHeld => ?_)
        rotate_left 1
        · intro wz hSw; have hSw' := hSw.1 rfl; subst hSw'; go_simp; try with_reducible rfl
        try simp only [Act.put, List.setIfInBounds_toArray, List.set_cons_zero, List.set_cons_succ] at hHeld ⊢
        refine AnyV.take 18 12 (i := 9) (oi := _) (v := ?_) rfl (by kernel_rfl) (by kernel_rfl) (by kernel_rfl) (by kernel_rfl) (by kernel_rfl) (fun _ _ _ h => h) (Two.other (by decide)) (Or.inl ⟨by rfl, ?_⟩) (by assumption) (fun hHeld => ?_)
        rotate_left 1
        · intro wz hSw; have hSw' := hSw.1 rfl; subst hSw'; go_simp; try with_reducible rfl
        try simp only [Act.put, List.setIfInBounds_toArray, List.set_cons_zero, List.set_cons_succ] at hHeld ⊢
        refine AnyV.take 18 12 (i := 10) (oi := _) (v := ?_) rfl (by kernel_rfl) (by kernel_rfl) (by kernel_rfl) (by kernel_rfl) (by kernel_rfl) (fun _ _ _ h => h) (Two.other (by decide)) (Or.inl ⟨by rfl, ?_⟩) (by assumption) (fun hHeld => ?_)
        rotate_left 1
        · intro wz hSw; have hSw' := hSw.1 rfl; subst hSw'; go_simp; try with_reducible rfl
        try simp only [Act.put, List.setIfInBounds_toArray, List.set_cons_zero, List.set_cons_succ] at hHeld ⊢
        refine AnyV.take 18 12 (i := 11) (oi := _) (v := ?_) rfl (by kernel_rfl) (by kernel_rfl) (by kernel_rfl) (by kernel_rfl) (by kernel_rfl) (fun _ _ _ h => h) (Two.other (by decide)) (Or.inl ⟨by rfl, ?_⟩) (by assumption) (fun hHeld => ?_)
        rotate_left 1
        · intro wz hSw; have hSw' := hSw.1 rfl; subst hSw'; go_simp; try with_reducible rfl
        try simp only [Act.put, List.setIfInBounds_toArray, List.set_cons_zero, List.set_cons_succ] at hHeld ⊢
        refine AnyV.take 18 12 (i := 12) (oi := _) (v := ?_) rfl (by kernel_rfl) (by kernel_rfl) (by kernel_rfl) (by kernel_rfl) (by kernel_rfl) (fun _ _ _ h => h) (Two.other (by decide)) (Or.inl ⟨by rfl, ?_⟩) (by assumption) (fun hHeld => ?_)
        rotate_left 1
        · intro wz hSw; have hSw' := hSw.1 rfl; subst hSw'; go_simp; try with_reducible rfl
        try simp only [Act.put, List.setIfInBounds_toArray, List.set_cons_zero, List.set_cons_succ] at hHeld ⊢
        refine AnyV.take 18 12 (i := 13) (oi := _) (v := ?_) rfl (by kernel_rfl) (by kernel_rfl) (by kernel_rfl) (by kernel_rfl) (by kernel_rfl) (fun _ _ _ h => h) (Two.other (by decide)) (Or.inl ⟨by rfl, ?_⟩) (by assumption) (fun hHeld => ?_)
        rotate_left 1
        · intro wz hSw; have hSw' := hSw.1 rfl; subst hSw'; go_simp; try with_reducible rfl
        try simp only [Act.put, List.setIfInBounds_toArray, List.set_cons_zero, List.set_cons_succ] at hHeld ⊢
        refine AnyV.take 18 12 (i := 14) (oi := _) (v := ?_) rfl (by kernel_rfl) (by kernel_rfl) (by kernel_rfl) (by kernel_rfl) (by kernel_rfl) (fun _ _ _ h => h) (Two.other (by decide)) (Or.inl ⟨by rfl, ?_⟩) (by assumption) (fun hHeld => ?_)
        rotate_left 1
        · intro wz hSw; have hSw' := hSw.1 rfl; subst hSw'; go_simp; try with_reducible rfl
        try simp only [Act.put, List.setIfInBounds_toArray, List.set_cons_zero, List.set_cons_succ] at hHeld ⊢
        refine AnyV.take 18 12 (i := 15) (oi := _) (v := ?_) rfl (by kernel_rfl) (by kernel_rfl) (by kernel_rfl) (by kernel_rfl) (by kernel_rfl) (fun _ _ _ h => h) (Two.other (by decide)) (Or.inl ⟨by rfl, ?_⟩) (by assumption) (fun hHeld => ?_)
        rotate_left 1
        · intro wz hSw; have hSw' := hSw.1 rfl; subst hSw'; go_simp; try with_reducible rfl
        try simp only [Act.put, List.setIfInBounds_toArray, List.set_cons_zero, List.set_cons_succ] at hHeld ⊢
        refine AnyV.take 18 12 (i := 16) (oi := _) (v := ?_) rfl (by kernel_rfl) (by kernel_rfl) (by kernel_rfl) (by kernel_rfl) (by kernel_rfl) (fun _ _ _ h => h) (Two.other (by decide)) (Or.inl ⟨by rfl, ?_⟩) (by assumption) (fun hHeld => ?_)
        rotate_left 1
        · intro wz hSw; have hSw' := hSw.1 rfl; subst hSw'; go_simp; try with_reducible rfl
        try simp only [Act.put, List.setIfInBounds_toArray, List.set_cons_zero, List.set_cons_succ] at hHeld ⊢
        refine AnyV.take 18 12 (i := 17) (oi := _) (v := ?_) rfl (by kernel_rfl) (by kernel_rfl) (by kernel_rfl) (by kernel_rfl) (by kernel_rfl) (fun _ _ _ h => h) (Two.other (by decide)) (Or.inl ⟨by rfl, ?_⟩) (by assumption) (fun hHeld => ?_)
        rotate_left 1
        · intro wz hSw; have hSw' := hSw.1 rfl; subst hSw'; go_simp; try with_reducible rfl
        try simp only [Act.put, List.setIfInBounds_toArray, List.set_cons_zero, List.set_cons_succ] at hHeld ⊢
        clear hHeld y0 y1 y2 y3 y4 e0 hY10 hA10
        have hown2 : wd.ownsRow w.heap.size 23 2 u9 (L k).length (spV (L k)) := HOwn.out.kept (row := none) ⟨hA.os, hA.tape, hA.output, hA.size, fun j hj _ => hA.block j hj⟩ (by cases u9.ownBlock <;> simp)
        refine AnyV.one (i := 18) (o := _) rfl (by kernel_rfl) (fun K hK => ?_)
        go_simp
        refine (rjoin_any w.heap.size u9 (L k) (a + z1) (a + z2) wd hown2 (by have := hA.size; have := HBr.out.size; omega) HLen.out HIn2.out).mono ?_
        rintro e w12 hj
        obtain ⟨v', rfl, hown3, hb12, hs12⟩ := hj
        rw [HPair.out] at hown3
        have HO3 := Lib.hid hown3
        have HB12 := Lib.hid ((HBr.out.trans (hA.mono HBr.out.size)).trans hb12)
        clear hown2 hown3 hb12 hA
        go_wp2_with fail
        refine hK.out _ _ (Two.till (fun h => absurd h (by decide)) (fun _ => trivial)) ?_
        clear hK K
        try simp only [Act.put, List.setIfInBounds_toArray, List.set_cons_zero, List.set_cons_succ]
        refine AnyV.one (i := 19) (o := _) rfl (by kernel_rfl) (fun K hK => ?_)
        go_simp
        refine hK.out _ _ (Two.till (fun h => absurd h (by decide)) (fun _ => trivial)) ?_
        clear hK K
        refine AnyV.done (by kernel_rfl) ?_
        try simp only [Act.put, List.setIfInBounds_toArray, List.set_cons_zero, List.set_cons_succ]
        go_wp2_with fail
        go_roundw
        case rel =>
          exact ⟨k + 1, by omega, by go_num, HO3.out, HB12.out⟩
        case measure => simp [intOf]; omega
    · obtain rfl : k = ks.length - 1 := by omega
      clear hbr hown
      go_wp2_with fail
      exact bodyPost_ret (v := u9) (by simp [results, Try.results88, go_sem, *]) rfl ⟨u9, rfl, HOwn.out, HBr.out⟩
set_option linter.unusedSimpArgs false in
set_option linter.unusedVariables false in
set_option maxHeartbeats 16000000 in
set_option maxRecDepth 100000 in
theorem rwhere_must (v : Value) (ks : List (Int × Int × Int)) (most least : Int) (L : Nat → List (Int × Int)) (w : World) (hs : SlK w v ks) (ht : tableB ks = true)
    (hm0 : -1073741825 ≤ most) (hm1 : most ≤ 1073741825) (hl0 : -1073741825 ≤ least) (hl1 : least ≤ 1073741825) (hL0 : L 0 = [])
    (hSeg : ∀ k, k + 1 < ks.length → joinS (L k) (atOf ks k + (upl (atOf ks (k + 1) - atOf ks k) (hiOf ks k) (hiOf ks (k + 1)) (loOf ks k) (loOf ks (k + 1)) most least).1) (atOf ks k + (upl (atOf ks (k + 1) - atOf ks k) (hiOf ks k) (hiOf ks (k + 1)) (loOf ks k) (loOf ks (k + 1)) most least).2) = L (k + 1))
    (hIn : ∀ k, k + 1 ≤ ks.length → (L k).length ≤ 1000 ∧ ∀ x y, (x, y) ∈ L k → -1099511627776 ≤ y ∧ y ≤ 1099511627776) :
    Calls Try.prog 88 #[v, .int .i64 most, .int .i64 least, .bool false] w fun e w' => WhR w w' e (L (ks.length - 1)) := by
  have hlen : 2 ≤ ks.length ∧ ks.length ≤ 32 := by unfold tableB at ht; simp at ht; omega
  rcases hs with ⟨e1, _⟩ | ⟨b, off, cap, rfl, hcap, hmax, hb, hcells⟩
  · rw [e1] at hlen; simp at hlen
  obtain ⟨l1, l2⟩ := hlen
  have HC := Lib.hid hcells
  have HT := Lib.hid ht
  have HSeg := Lib.hid hSeg
  have HIn := Lib.hid hIn
  have HL0 := Lib.hid hL0
  clear hcells ht hSeg hIn hL0
  go_enter Try.func88, Try.ntmps88
  go_wp2_with fail
  go_loopw [9, 10] (fun v9 v10 wr => RWHead L ks.length w wr v9 v10) (fun _ v10 _ => ks.length - (intOf v10).toNat)
  case atStart => exact ⟨0, by omega, rfl, by rw [HL0.out]; exact World.ownsRow_nil _ _ _ _, Below.refl _ _⟩
  case round =>
    obtain ⟨k, hk, rfl, hown, hbr⟩ := hrel
    have HOwn := Lib.hid hown
    have HBr := Lib.hid hbr
    by_cases hlt : k + 1 < ks.length
    · have hg := knot_get (show k < ks.length by omega)
      have hg' := knot_get hlt
      obtain ⟨c0, c1, c2⟩ := HC.out _ _ _ _ hg
      obtain ⟨d0, d1, d2⟩ := HC.out _ _ _ _ hg'
      have hbl : ∀ o, wr.cell? ⟨b, o, none⟩ = w.cell? ⟨b, o, none⟩ := fun o => hbr.cell (by simpa using hb)
      rw [← hbl] at c0 c1 c2 d0 d1 d2
      have t0 : (0 : Int) ≤ (k : Int) := by omega
      have t1 : ((k : Int) + 1).toNat = k + 1 := by omega
      have t2 : (k : Int) + 1 < (ks.length : Int) := by omega
      have t3 : (k : Int) < (ks.length : Int) := by omega
      have t4 : (0 : Int) ≤ (k : Int) + 1 := by omega
      have t5 : IntKind.i64.wrap ((k : Int) + 1) = (k : Int) + 1 := IntWalk.i64_in _ ⟨by omega, by omega⟩
      have hbr2 : b < wr.heap.size := by have := hbr.size; omega
      obtain ⟨⟨s1, s2, s3, s4, s5⟩, ⟨s6, s7, s8, s9, s10⟩, s11⟩ := seg_of HT.out hlt
      have HPair := Lib.hid (HSeg.out k hlt)
      have HLen := Lib.hid (HIn.out k (by omega)).1
      have HIn2 := Lib.hid (HIn.out k (by omega)).2
      unfold upl at HPair
      obtain ⟨a, ha⟩ : ∃ a, atOf ks k = a := ⟨_, rfl⟩
      obtain ⟨a', ha'⟩ : ∃ a, atOf ks (k + 1) = a := ⟨_, rfl⟩
      obtain ⟨l, hl⟩ : ∃ a, loOf ks k = a := ⟨_, rfl⟩
      obtain ⟨h, hh⟩ : ∃ a, hiOf ks k = a := ⟨_, rfl⟩
      obtain ⟨l', hl'⟩ : ∃ a, loOf ks (k + 1) = a := ⟨_, rfl⟩
      obtain ⟨h', hh'⟩ : ∃ a, hiOf ks (k + 1) = a := ⟨_, rfl⟩
      rw [ha] at c0 s1 s2 s11 HPair
      rw [ha'] at d0 s6 s7 s11 HPair
      rw [hl] at c1 s3 s4 HPair
      rw [hh] at c2 s4 s5 HPair
      rw [hl'] at d1 s8 s9 HPair
      rw [hh'] at d2 s9 s10 HPair
      have k1 := room_bd (p := most - h) (q := a' - a) (by omega) (by omega) (by omega) (by omega)
      have k2 := room_bd (p := l - least) (q := a' - a) (by omega) (by omega) (by omega) (by omega)
      obtain ⟨D, hD⟩ : ∃ D, a' - a = D := ⟨_, rfl⟩
      have hD0 : 1 ≤ D ∧ D ≤ 2147483648 := by omega
      rw [hD] at k1 k2 HPair
      have f2 : IntKind.i64.wrap D = D := IntWalk.i64_in _ ⟨by omega, by omega⟩
      obtain ⟨P1, hP1⟩ : ∃ P, (most - h) * D = P := ⟨_, rfl⟩
      obtain ⟨P2, hP2⟩ : ∃ P, (l - least) * D = P := ⟨_, rfl⟩
      rw [hP1] at k1 HPair
      rw [hP2] at k2 HPair
      have f5 : IntKind.i64.wrap P1 = P1 := IntWalk.i64_in _ ⟨by omega, by omega⟩
      have f6 : IntKind.i64.wrap P2 = P2 := IntWalk.i64_in _ ⟨by omega, by omega⟩
      have HX := Lib.hid (KX.mk (b := b) (o := off + k * 3) (p := off + (k + 1) * 3) c0 c1 c2 d0 d1 d2)
      clear hown hbr hg hg' hbl ha ha' hl hh hl' hh' HSeg HIn HC HT HL0
      go_wp2_with fail
      go_quiet (fail)
      have hA : Below wr.heap.size wr (wr.drewN nq) := below_drewN (Below.refl _ _) nq
      clear c0 c1 c2 d0 d1 d2
      generalize wr.drewN nq = wq at *
      obtain ⟨c0, c1, c2, d0, d1, d2⟩ := HX.out.later hA
      go_wp2_with fail
      go_cut [12, 13] from 15 to 104 (fun v12 v13 wy => RB wr wy v12 v13 l h l' h')
      case first =>
        clear k1 k2 f5 f6 hP1 hP2 HPair HLen HIn2 HOwn HBr c0 c1 c2 d0 d1 d2
        have hA0 := hA
        clear hA
        have hA : Below wr.heap.size wr wq.drew := below_drewN hA0 1
        refine AnyU.start (fun w' => Below wr.heap.size wr w') 14 15 #[false, false, false, false, false, false, false, false, false, false, false, false, false, false, false] (by kernel_rfl) (by kernel_rfl) (by kernel_rfl) hA (fun hHeld => ?_)
        generalize World.drew wq = wd1 at hA hHeld ⊢
        clear hA0
        refine AnyU.take (i := 0) (oi := _) (v := ?_) rfl (by kernel_rfl) (by kernel_rfl) (by kernel_rfl) (by kernel_rfl) (by kernel_rfl) (fun _ _ _ h => h) (Or.inl ⟨by rfl, ?_⟩) (by assumption) ?_
        rotate_left 1
        · intro wz hSw; clear hSw; go_simp; try with_reducible rfl
        try simp only [Act.put, List.setIfInBounds_toArray, List.set_cons_zero, List.set_cons_succ]
        refine AnyU.take (i := 1) (oi := _) (v := ?_) rfl (by kernel_rfl) (by kernel_rfl) (by kernel_rfl) (by kernel_rfl) (by kernel_rfl) (fun _ _ _ h => h) (Or.inl ⟨by rfl, ?_⟩) (by assumption) ?_
        rotate_left 1
        · intro wz hSw; clear hSw; go_simp; try with_reducible rfl
        try simp only [Act.put, List.setIfInBounds_toArray, List.set_cons_zero, List.set_cons_succ]
        refine AnyU.take (i := 2) (oi := _) (v := ?_) rfl (by kernel_rfl) (by kernel_rfl) (by kernel_rfl) (by kernel_rfl) (by kernel_rfl) (fun _ _ _ h => h) (Or.inl ⟨by rfl, ?_⟩) (by assumption) ?_
        rotate_left 1
        · intro wz hSw; clear hSw; go_simp; try with_reducible rfl
        try simp only [Act.put, List.setIfInBounds_toArray, List.set_cons_zero, List.set_cons_succ]
        refine AnyU.take (i := 3) (oi := _) (v := ?_) rfl (by kernel_rfl) (by kernel_rfl) (by kernel_rfl) (by kernel_rfl) (by kernel_rfl) (fun _ _ _ h => h) (Or.inl ⟨by rfl, ?_⟩) (by assumption) ?_
        rotate_left 1
        · intro wz hSw; clear hSw; go_simp; try with_reducible rfl
        try simp only [Act.put, List.setIfInBounds_toArray, List.set_cons_zero, List.set_cons_succ]
        refine AnyU.take (i := 4) (oi := _) (v := ?_) rfl (by kernel_rfl) (by kernel_rfl) (by kernel_rfl) (by kernel_rfl) (by kernel_rfl) (fun _ _ _ h => h) (Or.inl ⟨by rfl, ?_⟩) (by assumption) ?_
        rotate_left 1
        · intro wz hSw; have h1 := (HX.out.later hSw).p1; have h2 := (HX.out.later hSw).p2; go_simp; try with_reducible rfl
        try simp only [Act.put, List.setIfInBounds_toArray, List.set_cons_zero, List.set_cons_succ]
        refine AnyU.take (i := 5) (oi := _) (v := ?_) rfl (by kernel_rfl) (by kernel_rfl) (by kernel_rfl) (by kernel_rfl) (by kernel_rfl) (fun _ _ _ h => h) (Or.inl ⟨by rfl, ?_⟩) (by assumption) ?_
        rotate_left 1
        · intro wz hSw; clear hSw; go_simp; try with_reducible rfl
        try simp only [Act.put, List.setIfInBounds_toArray, List.set_cons_zero, List.set_cons_succ]
        refine AnyU.take (i := 6) (oi := _) (v := ?_) rfl (by kernel_rfl) (by kernel_rfl) (by kernel_rfl) (by kernel_rfl) (by kernel_rfl) (fun _ _ _ h => h) (Or.inl ⟨by rfl, ?_⟩) (by assumption) ?_
        rotate_left 1
        · intro wz hSw; clear hSw; go_simp; try with_reducible rfl
        try simp only [Act.put, List.setIfInBounds_toArray, List.set_cons_zero, List.set_cons_succ]
        refine AnyU.take (i := 7) (oi := _) (v := ?_) rfl (by kernel_rfl) (by kernel_rfl) (by kernel_rfl) (by kernel_rfl) (by kernel_rfl) (fun _ _ _ h => h) (Or.inl ⟨by rfl, ?_⟩) (by assumption) ?_
        rotate_left 1
        · intro wz hSw; clear hSw; go_simp; try with_reducible rfl
        try simp only [Act.put, List.setIfInBounds_toArray, List.set_cons_zero, List.set_cons_succ]
        refine AnyU.take (i := 8) (oi := _) (v := ?_) rfl (by kernel_rfl) (by kernel_rfl) (by kernel_rfl) (by kernel_rfl) (by kernel_rfl) (fun _ _ _ h => h) (Or.inl ⟨by rfl, ?_⟩) (by assumption) ?_
        rotate_left 1
        · intro wz hSw; clear hSw; go_simp; try with_reducible rfl
        try simp only [Act.put, List.setIfInBounds_toArray, List.set_cons_zero, List.set_cons_succ]
        refine AnyU.take (i := 9) (oi := _) (v := ?_) rfl (by kernel_rfl) (by kernel_rfl) (by kernel_rfl) (by kernel_rfl) (by kernel_rfl) (fun _ _ _ h => h) (Or.inl ⟨by rfl, ?_⟩) (by assumption) ?_
        rotate_left 1
        · intro wz hSw; clear hSw; go_simp; try with_reducible rfl
        try simp only [Act.put, List.setIfInBounds_toArray, List.set_cons_zero, List.set_cons_succ]
        refine AnyU.take (i := 10) (oi := _) (v := ?_) rfl (by kernel_rfl) (by kernel_rfl) (by kernel_rfl) (by kernel_rfl) (by kernel_rfl) (fun _ _ _ h => h) (Or.inl ⟨by rfl, ?_⟩) (by assumption) ?_
        rotate_left 1
        · intro wz hSw; have h1 := (HX.out.later hSw).q1; have h2 := (HX.out.later hSw).q2; go_simp; try with_reducible rfl
        try simp only [Act.put, List.setIfInBounds_toArray, List.set_cons_zero, List.set_cons_succ]
        clear hHeld
        refine AnyU.some [11, 12] (by kernel_rfl) (by simp) (fun i hi => ?_)
        simp only [List.mem_cons, List.not_mem_nil, or_false] at hi
        rcases hi with rfl | rfl
        · skip
          refine AnyU.step (o := _) rfl (fun K hK => ?_)
          go_simp
          obtain ⟨w2, B, e9, f9, hA9, hB0, geB, hb2⟩ := by_step hA
          rw [e9, f9]
          clear e9 hA
          have hA := hA9
          clear hA9
          refine hK.out _ _ (fun _ _ => hA) ?_
          clear hK K
          try simp only [Act.put, List.setIfInBounds_toArray, List.set_cons_zero, List.set_cons_succ]
          clear f9
          refine AnyU.one (i := 12) (o := _) rfl (by kernel_rfl) (fun K hK => ?_)
          go_simp
          obtain ⟨w3, C, e9, f9, hA9, hC1, geC, hb3⟩ := by_step hA
          rw [e9, f9]
          clear e9 hA
          have hA := hA9
          clear hA9
          refine hK.out _ _ (fun _ _ => hA) ?_
          clear hK K
          try simp only [Act.put, List.setIfInBounds_toArray, List.set_cons_zero, List.set_cons_succ]
          have hne : B ≠ C := by have := hB0.lt; omega
          have hB1 := hB0.later hb3
          clear f9 hB0 hb2 hb3
          obtain ⟨p0, p1, p2, p3, p4⟩ := hB1
          refine AnyU.one (i := 13) (o := _) rfl (by kernel_rfl) (fun K hK => ?_)
          go_simp
          refine hK.out _ _ (fun _ _ => below_put hA geB _ _) ?_
          clear hK K
          try simp only [Act.put, List.setIfInBounds_toArray, List.set_cons_zero, List.set_cons_succ]
          have hB2 := (BY.mk p0 p1 p2 p3 p4).put l h
          have hC2 := (hC1.other (o := 0) (v := .int .i64 l) hne).other (o := 1) (v := .int .i64 h) hne
          have hA2 := below_put hA geB (.int .i64 l) (.int .i64 h)
          clear hA p0 p1 p2 p3 p4 hC1
          generalize (World.setCell (World.setCell w3 ⟨B, 0, none⟩ (.int .i64 l)) ⟨B, 1, none⟩ (.int .i64 h)) = wp at *
          obtain ⟨p0, p1, p2, p3, p4⟩ := hC2
          refine AnyU.one (i := 14) (o := _) rfl (by kernel_rfl) (fun K hK => ?_)
          go_simp
          refine hK.out _ _ (fun h => absurd rfl h) ?_
          clear hK K
          refine AnyU.done (by kernel_rfl) ?_
          try simp only [Act.put, List.setIfInBounds_toArray, List.set_cons_zero, List.set_cons_succ]
          have hC3 := (BY.mk p0 p1 p2 p3 p4).put l' h'
          have hB3 := (hB2.other (o := 0) (v := .int .i64 l') hne.symm).other (o := 1) (v := .int .i64 h') hne.symm
          have hA3 := below_put hA2 geC (.int .i64 l') (.int .i64 h')
          clear p0 p1 p2 p3 p4 hB2 hA2
          go_wp2_with fail
          go_meet
          case rel => exact ⟨B, C, rfl, rfl, hA3, geB, geC, hne, hB3, hC3⟩
        · skip
          refine AnyU.step (o := _) rfl (fun K hK => ?_)
          go_simp
          obtain ⟨w2, C, e9, f9, hA9, hC0, geC, hb2⟩ := by_step hA
          rw [e9, f9]
          clear e9 hA
          have hA := hA9
          clear hA9
          refine hK.out _ _ (fun _ _ => hA) ?_
          clear hK K
          try simp only [Act.put, List.setIfInBounds_toArray, List.set_cons_zero, List.set_cons_succ]
          clear f9
          refine AnyU.one (i := 11) (o := _) rfl (by kernel_rfl) (fun K hK => ?_)
          go_simp
          obtain ⟨w3, B, e9, f9, hA9, hB1, geB, hb3⟩ := by_step hA
          rw [e9, f9]
          clear e9 hA
          have hA := hA9
          clear hA9
          refine hK.out _ _ (fun _ _ => hA) ?_
          clear hK K
          try simp only [Act.put, List.setIfInBounds_toArray, List.set_cons_zero, List.set_cons_succ]
          have hne : B ≠ C := by have := hC0.lt; omega
          have hC1 := hC0.later hb3
          clear f9 hC0 hb2 hb3
          obtain ⟨p0, p1, p2, p3, p4⟩ := hB1
          refine AnyU.one (i := 13) (o := _) rfl (by kernel_rfl) (fun K hK => ?_)
          go_simp
          refine hK.out _ _ (fun _ _ => below_put hA geB _ _) ?_
          clear hK K
          try simp only [Act.put, List.setIfInBounds_toArray, List.set_cons_zero, List.set_cons_succ]
          have hB2 := (BY.mk p0 p1 p2 p3 p4).put l h
          have hC2 := (hC1.other (o := 0) (v := .int .i64 l) hne).other (o := 1) (v := .int .i64 h) hne
          have hA2 := below_put hA geB (.int .i64 l) (.int .i64 h)
          clear hA p0 p1 p2 p3 p4 hC1
          generalize (World.setCell (World.setCell w3 ⟨B, 0, none⟩ (.int .i64 l)) ⟨B, 1, none⟩ (.int .i64 h)) = wp at *
          obtain ⟨p0, p1, p2, p3, p4⟩ := hC2
          refine AnyU.one (i := 14) (o := _) rfl (by kernel_rfl) (fun K hK => ?_)
          go_simp
          refine hK.out _ _ (fun h => absurd rfl h) ?_
          clear hK K
          refine AnyU.done (by kernel_rfl) ?_
          try simp only [Act.put, List.setIfInBounds_toArray, List.set_cons_zero, List.set_cons_succ]
          have hC3 := (BY.mk p0 p1 p2 p3 p4).put l' h'
          have hB3 := (hB2.other (o := 0) (v := .int .i64 l') hne.symm).other (o := 1) (v := .int .i64 h') hne.symm
          have hA3 := below_put hA2 geC (.int .i64 l') (.int .i64 h')
          clear p0 p1 p2 p3 p4 hB2 hA2
          go_wp2_with fail
          go_meet
          case rel => exact ⟨B, C, rfl, rfl, hA3, geB, geC, hne, hB3, hC3⟩
      case rest =>
        clear hA c0 c1 c2 d0 d1 d2
        obtain ⟨B, C, rfl, rfl, hA, geB, geC, hne, hBY, hCY⟩ := hcut
        generalize wc = w6 at *
        obtain ⟨p0, p1, p2, p3, p4⟩ := hBY
        obtain ⟨r0, r1, r2, r3, r4⟩ := hCY
        go_wp2_with fail
        have hA2 : Below wr.heap.size wr w6.drew := below_drewN hA 1
        have hB2 : BY B w6.drew l h := (BY.mk p0 p1 p2 p3 p4).later (below_drewN (Below.refl _ _) 1 : Below w6.heap.size w6 (w6.drewN 1))
        have hC2 : BY C w6.drew l' h' := (BY.mk r0 r1 r2 r3 r4).later (below_drewN (Below.refl _ _) 1 : Below w6.heap.size w6 (w6.drewN 1))
        clear hA p0 p1 p2 p3 p4 r0 r1 r2 r3 r4
        refine AnyV.start (Two 10 (fun w' => w'.cell? ⟨B, 0, none⟩ = some (.int .i64 l) ∧ w'.cell? ⟨B, 1, none⟩ = some (.int .i64 h)) 11 (fun w' => w'.cell? ⟨C, 0, none⟩ = some (.int .i64 l') ∧ w'.cell? ⟨C, 1, none⟩ = some (.int .i64 h'))) 12 #[false, false, false, false, false, false, false, false, false, false, false, false] (by kernel_rfl) (by kernel_rfl) (by kernel_rfl) (fun _ => ⟨fun _ => ⟨hB2.c0, hB2.c1⟩, fun _ => ⟨hC2.c0, hC2.c1⟩⟩) (fun hHeld => ?_)
        generalize World.drew w6 = wd at *
        obtain ⟨p0, p1, p2, p3, p4⟩ := hB2
        obtain ⟨r0, r1, r2, r3, r4⟩ := hC2
        refine AnyV.take 10 12 (i := 0) (oi := _) (v := ?_) rfl (by kernel_rfl) (by kernel_rfl) (by kernel_rfl) (by kernel_rfl) (by kernel_rfl) (fun _ _ _ h => h) (Two.other (by decide)) (Or.inl ⟨by rfl, ?_⟩) (by assumption) (fun hHeld => ?_)
        rotate_left 1
        · intro wz hSw; have h1 := (hSw.1 rfl).1; have h2 := (hSw.1 rfl).2; go_simp; try with_reducible rfl
        try simp only [Act.put, List.setIfInBounds_toArray, List.set_cons_zero, List.set_cons_succ] at hHeld ⊢
        refine AnyV.take 10 12 (i := 1) (oi := _) (v := ?_) rfl (by kernel_rfl) (by kernel_rfl) (by kernel_rfl) (by kernel_rfl) (by kernel_rfl) (fun _ _ _ h => h) (Two.other (by decide)) (Or.inl ⟨by rfl, ?_⟩) (by assumption) (fun hHeld => ?_)
        rotate_left 1
        · intro wz hSw; have h1 := (hSw.1 rfl).1; have h2 := (hSw.1 rfl).2; go_simp; try with_reducible rfl
        try simp only [Act.put, List.setIfInBounds_toArray, List.set_cons_zero, List.set_cons_succ] at hHeld ⊢
        refine AnyV.take 10 12 (i := 2) (oi := _) (v := ?_) rfl (by kernel_rfl) (by kernel_rfl) (by kernel_rfl) (by kernel_rfl) (by kernel_rfl) (fun _ _ _ h => h) (Two.other (by decide)) (Or.inl ⟨by rfl, ?_⟩) (by assumption) (fun hHeld => ?_)
        rotate_left 1
        · intro wz hSw; have h1 := (hSw.1 rfl).1; have h2 := (hSw.1 rfl).2; go_simp; try with_reducible rfl
        try simp only [Act.put, List.setIfInBounds_toArray, List.set_cons_zero, List.set_cons_succ] at hHeld ⊢
        refine AnyV.take 10 12 (i := 3) (oi := _) (v := ?_) rfl (by kernel_rfl) (by kernel_rfl) (by kernel_rfl) (by kernel_rfl) (by kernel_rfl) (fun _ _ _ h => h) (Two.other (by decide)) (Or.inl ⟨by rfl, ?_⟩) (by assumption) (fun hHeld => ?_)
        rotate_left 1
        · intro wz hSw; have h1 := (hSw.1 rfl).1; have h2 := (hSw.1 rfl).2; go_simp; try with_reducible rfl
        try simp only [Act.put, List.setIfInBounds_toArray, List.set_cons_zero, List.set_cons_succ] at hHeld ⊢
        refine AnyV.take 10 12 (i := 4) (oi := _) (v := ?_) rfl (by kernel_rfl) (by kernel_rfl) (by kernel_rfl) (by kernel_rfl) (by kernel_rfl) (fun _ _ _ h => h) (Two.other (by decide)) (Or.inl ⟨by rfl, ?_⟩) (by assumption) (fun hHeld => ?_)
        rotate_left 1
        · intro wz hSw; have h1 := (hSw.1 rfl).1; have h2 := (hSw.1 rfl).2; go_simp; try with_reducible rfl
        try simp only [Act.put, List.setIfInBounds_toArray, List.set_cons_zero, List.set_cons_succ] at hHeld ⊢
        refine AnyV.take 11 12 (i := 5) (oi := _) (v := ?_) rfl (by kernel_rfl) (by kernel_rfl) (by kernel_rfl) (by kernel_rfl) (by kernel_rfl) (fun _ _ _ h => h) (Two.other (by decide)) (Or.inl ⟨by rfl, ?_⟩) (by assumption) (fun hHeld => ?_)
        rotate_left 1
        · intro wz hSw; have h1 := (hSw.2 rfl).1; have h2 := (hSw.2 rfl).2; go_simp; try with_reducible rfl
        try simp only [Act.put, List.setIfInBounds_toArray, List.set_cons_zero, List.set_cons_succ] at hHeld ⊢
        refine AnyV.take 11 12 (i := 6) (oi := _) (v := ?_) rfl (by kernel_rfl) (by kernel_rfl) (by kernel_rfl) (by kernel_rfl) (by kernel_rfl) (fun _ _ _ h => h) (Two.other (by decide)) (Or.inl ⟨by rfl, ?_⟩) (by assumption) (fun hHeld => ?_)
        rotate_left 1
        · intro wz hSw; have h1 := (hSw.2 rfl).1; have h2 := (hSw.2 rfl).2; go_simp; try with_reducible rfl
        try simp only [Act.put, List.setIfInBounds_toArray, List.set_cons_zero, List.set_cons_succ] at hHeld ⊢
        refine AnyV.take 11 12 (i := 7) (oi := _) (v := ?_) rfl (by kernel_rfl) (by kernel_rfl) (by kernel_rfl) (by kernel_rfl) (by kernel_rfl) (fun _ _ _ h => h) (Two.other (by decide)) (Or.inl ⟨by rfl, ?_⟩) (by assumption) (fun hHeld => ?_)
        rotate_left 1
        · intro wz hSw; have h1 := (hSw.2 rfl).1; have h2 := (hSw.2 rfl).2; go_simp; try with_reducible rfl
        try simp only [Act.put, List.setIfInBounds_toArray, List.set_cons_zero, List.set_cons_succ] at hHeld ⊢
        refine AnyV.take 11 12 (i := 8) (oi := _) (v := ?_) rfl (by kernel_rfl) (by kernel_rfl) (by kernel_rfl) (by kernel_rfl) (by kernel_rfl) (fun _ _ _ h => h) (Two.other (by decide)) (Or.inl ⟨by rfl, ?_⟩) (by assumption) (fun hHeld => ?_)
        rotate_left 1
        · intro wz hSw; have h1 := (hSw.2 rfl).1; have h2 := (hSw.2 rfl).2; go_simp; try with_reducible rfl
        try simp only [Act.put, List.setIfInBounds_toArray, List.set_cons_zero, List.set_cons_succ] at hHeld ⊢
        refine AnyV.take 11 12 (i := 9) (oi := _) (v := ?_) rfl (by kernel_rfl) (by kernel_rfl) (by kernel_rfl) (by kernel_rfl) (by kernel_rfl) (fun _ _ _ h => h) (Two.other (by decide)) (Or.inl ⟨by rfl, ?_⟩) (by assumption) (fun hHeld => ?_)
        rotate_left 1
        · intro wz hSw; have h1 := (hSw.2 rfl).1; have h2 := (hSw.2 rfl).2; go_simp; try with_reducible rfl
        try simp only [Act.put, List.setIfInBounds_toArray, List.set_cons_zero, List.set_cons_succ] at hHeld ⊢
        clear hHeld
        refine AnyV.one (i := 10) (o := _) rfl (by kernel_rfl) (fun K hK => ?_)
        go_simp
        have hC9 := ((BY.mk r0 r1 r2 r3 r4).other (o := 0) (v := .int .i64 h) hne).other (o := 1) (v := .int .i64 l) hne
        refine hK.out _ _ (Two.till (fun h => absurd h (by decide)) (fun _ => ⟨hC9.c0, hC9.c1⟩)) ?_
        clear hK K
        try simp only [Act.put, List.setIfInBounds_toArray, List.set_cons_zero, List.set_cons_succ]
        have hB2 := (BY.mk p0 p1 p2 p3 p4).put h l
        have hC2 := ((BY.mk r0 r1 r2 r3 r4).other (o := 0) (v := .int .i64 h) hne).other (o := 1) (v := .int .i64 l) hne
        have hA3 := below_put hA2 geB (.int .i64 h) (.int .i64 l)
        clear hA2 p0 p1 p2 p3 p4 r0 r1 r2 r3 r4
        generalize (World.setCell (World.setCell wd ⟨B, 0, none⟩ (.int .i64 h)) ⟨B, 1, none⟩ (.int .i64 l)) = wp at *
        obtain ⟨r0, r1, r2, r3, r4⟩ := hC2
        refine AnyV.one (i := 11) (o := _) rfl (by kernel_rfl) (fun K hK => ?_)
        go_simp
        refine hK.out _ _ (Two.till (fun h => absurd h (by decide)) (fun h => absurd h (by decide))) ?_
        clear hK K
        refine AnyV.done (by kernel_rfl) ?_
        try simp only [Act.put, List.setIfInBounds_toArray, List.set_cons_zero, List.set_cons_succ]
        have hCY := (BY.mk r0 r1 r2 r3 r4).put h' l'
        have hBY := (hB2.other (o := 0) (v := .int .i64 h') hne.symm).other (o := 1) (v := .int .i64 l') hne.symm
        have hA := below_put hA3 geC (.int .i64 h') (.int .i64 l')
        clear r0 r1 r2 r3 r4 hA3 hB2
        generalize (World.setCell (World.setCell wp ⟨C, 0, none⟩ (.int .i64 h')) ⟨C, 1, none⟩ (.int .i64 l')) = w6b at *
        obtain ⟨p0, p1, p2, p3, p4⟩ := hBY
        obtain ⟨r0, r1, r2, r3, r4⟩ := hCY
        go_wp2_with fail
        refine (rupTo_wide 0 D (h' - h) P1 _ (by omega) (by omega) k1.1 k1.2 (by omega) (by omega)).mono ?_
        rintro e w7 ⟨rfl, hb7⟩
        replace hA := two hA hb7
        replace p0 := cell_later hb7 p0
        replace p1 := cell_later hb7 p1
        replace r0 := cell_later hb7 r0
        replace r1 := cell_later hb7 r1
        have hb8 := below_box w7 (.cells #[.int .i64 (upS 0 D (h' - h) P1).1, .int .i64 (upS 0 D (h' - h) P1).2] 23)
        have hY := by_box w7 (upS 0 D (h' - h) P1).1 (upS 0 D (h' - h) P1).2 23
        have ge7 := hA.size
        have hbd := upS_bd (s := h' - h) (m := P1) (X := 4611686020574871552) (show -4611686020574871552 ≤ (0 : Int) by omega) (by omega) (show -4611686020574871552 ≤ D by omega) (by omega) k1.1 k1.2 (by omega)
        have q0 := cell_later hb8 p0
        have q1 := cell_later hb8 p1
        have s0 := cell_later hb8 r0
        have s1 := cell_later hb8 r1
        have hA8 := two hA hb8
        clear hb7 hA p0 p1 p2 p3 p4 r0 r1 r2 r3 r4 hb8
        obtain ⟨x1, hx1⟩ : ∃ x, (upS 0 D (h' - h) P1).1 = x := ⟨_, rfl⟩
        obtain ⟨x2, hx2⟩ : ∃ x, (upS 0 D (h' - h) P1).2 = x := ⟨_, rfl⟩
        have hin := upS_in (w := D) (s := h' - h) (m := P1) (by omega)
        rw [hx1, hx2] at HPair hbd hin
        simp only [hx1, hx2] at hY q0 q1 s0 s1 hA8 ⊢
        obtain ⟨y0, y1, y2, y3, y4⟩ := hY
        clear hx1 hx2
        obtain ⟨w8, hw8⟩ : ∃ w8, w7.alloc (.cells #[.int .i64 x1, .int .i64 x2] 23) = w8 := ⟨_, rfl⟩
        rw [hw8] at y0 y1 y2 y3 y4 q0 q1 s0 s1 hA8
        go_wp2_with fail
        try rw [hw8]
        clear hw8
        refine (rupTo_wide x1 x2 (l - l') P2 _ (by omega) (by omega) k2.1 k2.2 (by omega) (by omega)).mono ?_
        rintro e w9 ⟨rfl, hb9⟩
        have hY9 := (BY.mk y0 y1 y2 y3 y4).later hb9
        have hA9 := two hA8 hb9
        have hbd2 := upS_bd (lo := x1) (hi := x2) (s := l - l') (m := P2) (X := 4611686020574871553) (by omega) (by omega) (by omega) (by omega) k2.1 k2.2 (by omega)
        clear hb9 hA8 q0 q1 s0 s1 y0 y1 y2 y3 y4
        obtain ⟨z1, hz1⟩ : ∃ x, (upS x1 x2 (l - l') P2).1 = x := ⟨_, rfl⟩
        obtain ⟨z2, hz2⟩ : ∃ x, (upS x1 x2 (l - l') P2).2 = x := ⟨_, rfl⟩
        rw [hz1, hz2] at HPair hbd2 ⊢
        clear hz1 hz2
        obtain ⟨y0, y1, y2, y3, y4⟩ := hY9
        go_wp2_with fail
        have hY10 := (BY.mk y0 y1 y2 y3 y4).put z1 z2
        have hA10 := below_put hA9 ge7 (.int .i64 z1) (.int .i64 z2)
        clear y0 y1 y2 y3 y4 hA9
        generalize (World.setCell (World.setCell w9 ⟨w7.heap.size, 0, none⟩ (.int .i64 z1)) ⟨w7.heap.size, 1, none⟩ (.int .i64 z2)) = w10 at *
        have hA : Below wr.heap.size wr w10.drew := below_drewN hA10 1
        have hY := hY10.later (below_drewN (Below.refl _ _) 1 : Below w10.heap.size w10 (w10.drewN 1))
        have hY : BY w7.heap.size w10.drew z1 z2 := hY
        have f11 : IntKind.i64.wrap (a + z1) = a + z1 := IntWalk.i64_in _ ⟨by omega, by omega⟩
        have f12 : IntKind.i64.wrap (a + z2) = a + z2 := IntWalk.i64_in _ ⟨by omega, by omega⟩
        obtain ⟨y0, y1, y2, y3, y4⟩ := hY
        have e0 := (HX.out.later hA).p0
        refine AnyV.start (Two 18 (fun w' => w' = w10.drew) 18 (fun _ => True)) 20 #[false, false, false, false, false, false, false, false, false, false, false, false, false, false, false, false, false, false, false, false] (by kernel_rfl) (by kernel_rfl) (by kernel_rfl) (fun _ => ⟨fun _ => rfl, fun _ => trivial⟩) (fun hHeld => ?_)
        generalize World.drew w10 = wd at *
        refine AnyV.take 18 12 (i := 0) (oi := _) (v := ?_) rfl (by kernel_rfl) (by kernel_rfl) (by kernel_rfl) (by kernel_rfl) (by kernel_rfl) (fun _ _ _ h => h) (Two.other (by decide)) (Or.inl ⟨by rfl, ?_⟩) (by assumption) (fun hHeld => ?_)
        rotate_left 1
        · intro wz hSw; have hSw' := hSw.1 rfl; subst hSw'; go_simp; try with_reducible rfl
        try simp only [Act.put, List.setIfInBounds_toArray, List.set_cons_zero, List.set_cons_succ] at hHeld ⊢
        refine AnyV.take 18 12 (i := 1) (oi := _) (v := ?_) rfl (by kernel_rfl) (by kernel_rfl) (by kernel_rfl) (by kernel_rfl) (by kernel_rfl) (fun _ _ _ h => h) (Two.other (by decide)) (Or.inl ⟨by rfl, ?_⟩) (by assumption) (fun hHeld => ?_)
        rotate_left 1
        · intro wz hSw; have hSw' := hSw.1 rfl; subst hSw'; go_simp; try with_reducible rfl
        try simp only [Act.put, List.setIfInBounds_toArray, List.set_cons_zero, List.set_cons_succ] at hHeld ⊢
        refine AnyV.take 18 12 (i := 2) (oi := _) (v := ?_) rfl (by kernel_rfl) (by kernel_rfl) (by kernel_rfl) (by kernel_rfl) (by kernel_rfl) (fun _ _ _ h => h) (Two.other (by decide)) (Or.inl ⟨by rfl, ?_⟩) (by assumption) (fun hHeld => ?_)
        rotate_left 1
        · intro wz hSw; have hSw' := hSw.1 rfl; subst hSw'; go_simp; try with_reducible rfl
        try simp only [Act.put, List.setIfInBounds_toArray, List.set_cons_zero, List.set_cons_succ] at hHeld ⊢
        refine AnyV.take 18 12 (i := 3) (oi := _) (v := ?_) rfl (by kernel_rfl) (by kernel_rfl) (by kernel_rfl) (by kernel_rfl) (by kernel_rfl) (fun _ _ _ h => h) (Two.other (by decide)) (Or.inl ⟨by rfl, ?_⟩) (by assumption) (fun hHeld => ?_)
        rotate_left 1
        · intro wz hSw; have hSw' := hSw.1 rfl; subst hSw'; go_simp; try with_reducible rfl
        try simp only [Act.put, List.setIfInBounds_toArray, List.set_cons_zero, List.set_cons_succ] at hHeld ⊢
        refine AnyV.take 18 12 (i := 4) (oi := _) (v := ?_) rfl (by kernel_rfl) (by kernel_rfl) (by kernel_rfl) (by kernel_rfl) (by kernel_rfl) (fun _ _ _ h => h) (Two.other (by decide)) (Or.inl ⟨by rfl, ?_⟩) (by assumption) (fun hHeld => ?_)
        rotate_left 1
        · intro wz hSw; have hSw' := hSw.1 rfl; subst hSw'; go_simp; try with_reducible rfl
        try simp only [Act.put, List.setIfInBounds_toArray, List.set_cons_zero, List.set_cons_succ] at hHeld ⊢
        refine AnyV.take 18 12 (i := 5) (oi := _) (v := ?_) rfl (by kernel_rfl) (by kernel_rfl) (by kernel_rfl) (by kernel_rfl) (by kernel_rfl) (fun _ _ _ h => h) (Two.other (by decide)) (Or.inl ⟨by rfl, ?_⟩) (by assumption) (fun hHeld => ?_)
        rotate_left 1
        · intro wz hSw; have hSw' := hSw.1 rfl; subst hSw'; go_simp; try with_reducible rfl
        try simp only [Act.put, List.setIfInBounds_toArray, List.set_cons_zero, List.set_cons_succ] at hHeld ⊢
        refine AnyV.take 18 12 (i := 6) (oi := _) (v := ?_) rfl (by kernel_rfl) (by kernel_rfl) (by kernel_rfl) (by kernel_rfl) (by kernel_rfl) (fun _ _ _ h => h) (Two.other (by decide)) (Or.inl ⟨by rfl, ?_⟩) (by assumption) (fun hHeld => ?_)
        rotate_left 1
        · intro wz hSw; have hSw' := hSw.1 rfl; subst hSw'; go_simp; try with_reducible rfl
        try simp only [Act.put, List.setIfInBounds_toArray, List.set_cons_zero, List.set_cons_succ] at hHeld ⊢
        refine AnyV.take 18 12 (i := 7) (oi := _) (v := ?_) rfl (by kernel_rfl) (by kernel_rfl) (by kernel_rfl) (by kernel_rfl) (by kernel_rfl) (fun _ _ _ h => h) (Two.other (by decide)) (Or.inl ⟨by rfl, ?_⟩) (by assumption) (fun hHeld => ?_)
        rotate_left 1
        · intro wz hSw; have hSw' := hSw.1 rfl; subst hSw'; go_simp; try with_reducible rfl
        try simp only [Act.put, List.setIfInBounds_toArray, List.set_cons_zero, List.set_cons_succ] at hHeld ⊢
        refine AnyV.take 18 12 (i := 8) (oi := _) (v := ?_) rfl (by kernel_rfl) (by kernel_rfl) (by kernel_rfl) (by kernel_rfl) (by kernel_rfl) (fun _ _ _ h => h) (Two.other (by decide)) (Or.inl ⟨by rfl, ?_⟩) (by assumption) (fun hHeld => ?_)
        rotate_left 1
        · intro wz hSw; have hSw' := hSw.1 rfl; subst hSw'; go_simp; try with_reducible rfl
        try simp only [Act.put, List.setIfInBounds_toArray, List.set_cons_zero, List.set_cons_succ] at hHeld ⊢
        refine AnyV.take 18 12 (i := 9) (oi := _) (v := ?_) rfl (by kernel_rfl) (by kernel_rfl) (by kernel_rfl) (by kernel_rfl) (by kernel_rfl) (fun _ _ _ h => h) (Two.other (by decide)) (Or.inl ⟨by rfl, ?_⟩) (by assumption) (fun hHeld => ?_)
        rotate_left 1
        · intro wz hSw; have hSw' := hSw.1 rfl; subst hSw'; go_simp; try with_reducible rfl
        try simp only [Act.put, List.setIfInBounds_toArray, List.set_cons_zero, List.set_cons_succ] at hHeld ⊢
        refine AnyV.take 18 12 (i := 10) (oi := _) (v := ?_) rfl (by kernel_rfl) (by kernel_rfl) (by kernel_rfl) (by kernel_rfl) (by kernel_rfl) (fun _ _ _ h => h) (Two.other (by decide)) (Or.inl ⟨by rfl, ?_⟩) (by assumption) (fun hHeld => ?_)
        rotate_left 1
        · intro wz hSw; have hSw' := hSw.1 rfl; subst hSw'; go_simp; try with_reducible rfl
        try simp only [Act.put, List.setIfInBounds_toArray, List.set_cons_zero, List.set_cons_succ] at hHeld ⊢
        refine AnyV.take 18 12 (i := 11) (oi := _) (v := ?_) rfl (by kernel_rfl) (by kernel_rfl) (by kernel_rfl) (by kernel_rfl) (by kernel_rfl) (fun _ _ _ h => h) (Two.other (by decide)) (Or.inl ⟨by rfl, ?_⟩) (by assumption) (fun hHeld => ?_)
        rotate_left 1
        · intro wz hSw; have hSw' := hSw.1 rfl; subst hSw'; go_simp; try with_reducible rfl
        try simp only [Act.put, List.setIfInBounds_toArray, List.set_cons_zero, List.set_cons_succ] at hHeld ⊢
        refine AnyV.take 18 12 (i := 12) (oi := _) (v := ?_) rfl (by kernel_rfl) (by kernel_rfl) (by kernel_rfl) (by kernel_rfl) (by kernel_rfl) (fun _ _ _ h => h) (Two.other (by decide)) (Or.inl ⟨by rfl, ?_⟩) (by assumption) (fun hHeld => ?_)
        rotate_left 1
        · intro wz hSw; have hSw' := hSw.1 rfl; subst hSw'; go_simp; try with_reducible rfl
        try simp only [Act.put, List.setIfInBounds_toArray, List.set_cons_zero, List.set_cons_succ] at hHeld ⊢
        refine AnyV.take 18 12 (i := 13) (oi := _) (v := ?_) rfl (by kernel_rfl) (by kernel_rfl) (by kernel_rfl) (by kernel_rfl) (by kernel_rfl) (fun _ _ _ h => h) (Two.other (by decide)) (Or.inl ⟨by rfl, ?_⟩) (by assumption) (fun hHeld => ?_)
        rotate_left 1
        · intro wz hSw; have hSw' := hSw.1 rfl; subst hSw'; go_simp; try with_reducible rfl
        try simp only [Act.put, List.setIfInBounds_toArray, List.set_cons_zero, List.set_cons_succ] at hHeld ⊢
        refine AnyV.take 18 12 (i := 14) (oi := _) (v := ?_) rfl (by kernel_rfl) (by kernel_rfl) (by kernel_rfl) (by kernel_rfl) (by kernel_rfl) (fun _ _ _ h => h) (Two.other (by decide)) (Or.inl ⟨by rfl, ?_⟩) (by assumption) (fun hHeld => ?_)
        rotate_left 1
        · intro wz hSw; have hSw' := hSw.1 rfl; subst hSw'; go_simp; try with_reducible rfl
        try simp only [Act.put, List.setIfInBounds_toArray, List.set_cons_zero, List.set_cons_succ] at hHeld ⊢
        refine AnyV.take 18 12 (i := 15) (oi := _) (v := ?_) rfl (by kernel_rfl) (by kernel_rfl) (by kernel_rfl) (by kernel_rfl) (by kernel_rfl) (fun _ _ _ h => h) (Two.other (by decide)) (Or.inl ⟨by rfl, ?_⟩) (by assumption) (fun hHeld => ?_)
        rotate_left 1
        · intro wz hSw; have hSw' := hSw.1 rfl; subst hSw'; go_simp; try with_reducible rfl
        try simp only [Act.put, List.setIfInBounds_toArray, List.set_cons_zero, List.set_cons_succ] at hHeld ⊢
        refine AnyV.take 18 12 (i := 16) (oi := _) (v := ?_) rfl (by kernel_rfl) (by kernel_rfl) (by kernel_rfl) (by kernel_rfl) (by kernel_rfl) (fun _ _ _ h => h) (Two.other (by decide)) (Or.inl ⟨by rfl, ?_⟩) (by assumption) (fun hHeld => ?_)
        rotate_left 1
        · intro wz hSw; have hSw' := hSw.1 rfl; subst hSw'; go_simp; try with_reducible rfl
        try simp only [Act.put, List.setIfInBounds_toArray, List.set_cons_zero, List.set_cons_succ] at hHeld ⊢
        refine AnyV.take 18 12 (i := 17) (oi := _) (v := ?_) rfl (by kernel_rfl) (by kernel_rfl) (by kernel_rfl) (by kernel_rfl) (by kernel_rfl) (fun _ _ _ h => h) (Two.other (by decide)) (Or.inl ⟨by rfl, ?_⟩) (by assumption) (fun hHeld => ?_)
        rotate_left 1
        · intro wz hSw; have hSw' := hSw.1 rfl; subst hSw'; go_simp; try with_reducible rfl
        try simp only [Act.put, List.setIfInBounds_toArray, List.set_cons_zero, List.set_cons_succ] at hHeld ⊢
        clear hHeld y0 y1 y2 y3 y4 e0 hY10 hA10
        have hown2 : wd.ownsRow w.heap.size 23 2 u9 (L k).length (spV (L k)) := HOwn.out.kept (row := none) ⟨hA.os, hA.tape, hA.output, hA.size, fun j hj _ => hA.block j hj⟩ (by cases u9.ownBlock <;> simp)
        refine AnyV.one (i := 18) (o := _) rfl (by kernel_rfl) (fun K hK => ?_)
        go_simp
        refine (rjoin_any w.heap.size u9 (L k) (a + z1) (a + z2) wd hown2 (by have := hA.size; have := HBr.out.size; omega) HLen.out HIn2.out).mono ?_
        rintro e w12 hj
        obtain ⟨v', rfl, hown3, hb12, hs12⟩ := hj
        rw [HPair.out] at hown3
        have HO3 := Lib.hid hown3
        have HB12 := Lib.hid ((HBr.out.trans (hA.mono HBr.out.size)).trans hb12)
        clear hown2 hown3 hb12 hA
        go_wp2_with fail
        refine hK.out _ _ (Two.till (fun h => absurd h (by decide)) (fun _ => trivial)) ?_
        clear hK K
        try simp only [Act.put, List.setIfInBounds_toArray, List.set_cons_zero, List.set_cons_succ]
        refine AnyV.one (i := 19) (o := _) rfl (by kernel_rfl) (fun K hK => ?_)
        go_simp
        refine hK.out _ _ (Two.till (fun h => absurd h (by decide)) (fun _ => trivial)) ?_
        clear hK K
        refine AnyV.done (by kernel_rfl) ?_
        try simp only [Act.put, List.setIfInBounds_toArray, List.set_cons_zero, List.set_cons_succ]
        go_wp2_with fail
        go_roundw
        case rel =>
          exact ⟨k + 1, by omega, by go_num, HO3.out, HB12.out⟩
        case measure => simp [intOf]; omega
    · obtain rfl : k = ks.length - 1 := by omega
      clear hbr hown
      go_wp2_with fail
      exact bodyPost_ret (v := u9) (by simp [results, Try.results88, go_sem, *]) rfl ⟨u9, rfl, HOwn.out, HBr.out⟩
end Go.Proofs.Ytflgdckeinappaa
