/- The reference's lines. -/
import Derived.Test.YtflgdckeinappaaRTable
import Derived.Test.YtflgdckeinappaaRTab
import Derived.Test.YtflgdckeinappaaTail2
import Derived.Test.YtflgdckeinappaaVMath
namespace Go.Proofs.Ytflgdckeinappaa
open Go.RowKit

/-- What lines returns. -/
def LinesP (ks : List (Int × Int × Int)) (x : Int) (e : Ending) : Prop := ∃ i, RSeg ks i x ∧ e = .returned (.tuple #[.int .i64 (lnLo ks i x), .int .i64 (lnHi ks i x)])
/-- The search's head. -/
def LHead (ks : List (Int × Int × Int)) (x : Int) (v6 : Value) : Prop := ∃ k : Nat, k + 1 < ks.length ∧ v6 = .int .i64 k ∧ atOf ks k ≤ x
/-- Two boxes with the knots. -/
def LBox (w wr : World) (v7 v8 : Value) (a l h a' l' h' : Int) : Prop := ∃ B C : Nat, v7 = .pointer (some ⟨B, 0, none⟩) ∧ v8 = .pointer (some ⟨C, 0, none⟩) ∧ Below w.heap.size w wr ∧
  wr.cell? ⟨B, 0, none⟩ = some (.int .i64 a) ∧ wr.cell? ⟨B, 1, none⟩ = some (.int .i64 l) ∧ wr.cell? ⟨B, 2, none⟩ = some (.int .i64 h) ∧
  wr.cell? ⟨C, 0, none⟩ = some (.int .i64 a') ∧ wr.cell? ⟨C, 1, none⟩ = some (.int .i64 l') ∧ wr.cell? ⟨C, 2, none⟩ = some (.int .i64 h')
/-- The sums of one segment. -/
theorem line_sums (a l h a' l' h' x : Int) :
    dn a l a' l' x = l + (x - a) * (l' - l) / (a' - a) ∧ upw a h a' h' x = h + -(-((x - a) * (h' - h)) / (a' - a)) := by
  unfold upw dn
  constructor
  · rw [Int.mul_comm (l' - l)]
  · rw [show (-h' - -h) * (x - a) = -((x - a) * (h' - h)) by rw [show -h' - -h = -(h' - h) by omega, Int.neg_mul, Int.mul_comm]]
    omega

/-- What the region loads. -/
structure KX (b o p : Nat) (w : World) (a l h a' l' h' : Int) : Prop where
  p0 : w.cell? ⟨b, o, none⟩ = some (.int .i64 a)
  p1 : w.cell? ⟨b, o + 1, none⟩ = some (.int .i64 l)
  p2 : w.cell? ⟨b, o + 2, none⟩ = some (.int .i64 h)
  q0 : w.cell? ⟨b, p, none⟩ = some (.int .i64 a')
  q1 : w.cell? ⟨b, p + 1, none⟩ = some (.int .i64 l')
  q2 : w.cell? ⟨b, p + 2, none⟩ = some (.int .i64 h')
theorem KX.later {b o p : Nat} {w w1 : World} {a l h a' l' h' : Int} (k : KX b o p w a l h a' l' h') (hb : Below w.heap.size w w1) : KX b o p w1 a l h a' l' h' :=
  ⟨cell_later hb k.p0, cell_later hb k.p1, cell_later hb k.p2, cell_later hb k.q0, cell_later hb k.q1, cell_later hb k.q2⟩
set_option linter.unusedSimpArgs false in
set_option maxHeartbeats 4000000 in
set_option maxRecDepth 100000 in
theorem rlines_any (v : Value) (ks : List (Int × Int × Int)) (x : Int) (w : World) (hs : SlK w v ks) (ht : tableB ks = true) (h0 : atOf ks 0 ≤ x) (h1 : x ≤ atOf ks (ks.length - 1)) :
    Calls Try.prog 82 #[v, .int .i64 x] w fun e w' => LinesP ks x e ∧ Below w.heap.size w w' := by
  have hlen : 2 ≤ ks.length ∧ ks.length ≤ 32 := by unfold tableB at ht; simp at ht; omega
  rcases hs with ⟨e1, _⟩ | ⟨b, off, cap, rfl, hcap, hmax, hb, hcells⟩
  · rw [e1] at hlen; simp at hlen
  obtain ⟨l1, l2⟩ := hlen
  have HC := Lib.hid hcells
  have HT := Lib.hid ht
  have H1 := Lib.hid h1
  clear hcells ht h1
  go_enter Try.func82, Try.ntmps82
  go_wp2_with fail
  go_loop [6] (fun v6 => LHead ks x v6) (fun v6 => ks.length - (intOf v6).toNat)
  case atStart => exact ⟨0, by omega, rfl, h0⟩
  case round =>
    obtain ⟨k, hk, rfl, hat⟩ := hrel
    have hk1 : k + 1 < ks.length := hk
    have hg := knot_get (show k < ks.length by omega)
    have hg' := knot_get hk1
    obtain ⟨c0, c1, c2⟩ := HC.out _ _ _ _ hg
    obtain ⟨d0, d1, d2⟩ := HC.out _ _ _ _ hg'
    have t0 : (0 : Int) ≤ (k : Int) := by omega
    have t1 : ((k : Int) + 1).toNat = k + 1 := by omega
    have t2 : (k : Int) + 1 < (ks.length : Int) := by omega
    have t3 : (k : Int) < (ks.length : Int) := by omega
    have t4 : (0 : Int) ≤ (k : Int) + 1 := by omega
    have t5 : IntKind.i64.wrap ((k : Int) + 1) = (k : Int) + 1 := IntWalk.i64_in _ ⟨by omega, by omega⟩
    have t6 : IntKind.i64.wrap ((k : Int) + 2) = (k : Int) + 2 := IntWalk.i64_in _ ⟨by omega, by omega⟩
    obtain ⟨A', hA'⟩ : ∃ A', atOf ks (k + 1) = A' := ⟨_, rfl⟩
    rw [hA'] at d0
    by_cases hgo : k + 2 < ks.length ∧ A' ≤ x
    · obtain ⟨g1, g2⟩ := hgo
      have HA := Lib.hid hA'
      clear hg hg' hA'
      go_wp2_with fail
      go_round
      case rel => exact ⟨k + 1, by omega, by go_num, by rw [HA.out]; exact g2⟩
      case measure => simp [intOf]; omega
    · have hx : x ≤ A' := by
        by_cases g1 : k + 2 < ks.length
        · have : ¬ A' ≤ x := fun h => hgo ⟨g1, h⟩
          omega
        · have := H1.out
          rw [show ks.length - 1 = k + 1 by omega, hA'] at this
          exact this
      have HSeg : Hid (RSeg ks k x) := Lib.hid ⟨hk1, hat, by rw [hA']; exact hx⟩
      have hcc : ¬ k + 2 < ks.length ∨ (k + 2 < ks.length ∧ ¬ A' ≤ x) := by
        by_cases g1 : k + 2 < ks.length
        · exact .inr ⟨g1, fun h => hgo ⟨g1, h⟩⟩
        · exact .inl g1
      obtain ⟨⟨s1, s2, s3, s4, s5⟩, ⟨s6, s7, s8, s9, s10⟩, s11⟩ := seg_of HT.out hk1
      have HLo : Hid (lnLo ks k x = dn (atOf ks k) (loOf ks k) (atOf ks (k + 1)) (loOf ks (k + 1)) x) := Lib.hid rfl
      have HHi : Hid (lnHi ks k x = upw (atOf ks k) (hiOf ks k) (atOf ks (k + 1)) (hiOf ks (k + 1)) x) := Lib.hid rfl
      have HRet : Hid (∀ e, e = .returned (.tuple #[.int .i64 (lnLo ks k x), .int .i64 (lnHi ks k x)]) → LinesP ks x e) := Lib.hid (fun e he => ⟨k, HSeg.out, he⟩)
      rw [hA'] at s6 s7 s11 HLo HHi
      obtain ⟨a, ha⟩ : ∃ a, atOf ks k = a := ⟨_, rfl⟩
      obtain ⟨l, hl⟩ : ∃ a, loOf ks k = a := ⟨_, rfl⟩
      obtain ⟨h, hh⟩ : ∃ a, hiOf ks k = a := ⟨_, rfl⟩
      obtain ⟨l', hl'⟩ : ∃ a, loOf ks (k + 1) = a := ⟨_, rfl⟩
      obtain ⟨h', hh'⟩ : ∃ a, hiOf ks (k + 1) = a := ⟨_, rfl⟩
      rw [ha] at c0 s1 s2 s11 HLo HHi hat
      rw [hl] at c1 s3 s4 HLo
      rw [hh] at c2 s4 s5 HHi
      rw [hl'] at d1 s8 s9 HLo
      rw [hh'] at d2 s9 s10 HHi
      have kl : LnOk a l A' l' x := ⟨s1, s7, s11, hat, hx, s3, by omega, s8, by omega⟩
      have kh : LnOk a h A' h' x := ⟨s1, s7, s11, hat, hx, by omega, s5, by omega, s10⟩
      have bl := dn_bd kl
      have bh := neg_dn_bd kh
      obtain ⟨e1, e2⟩ := line_sums a l h A' l' h' x
      rw [e1] at bl HLo
      rw [e2] at bh HHi
      have p1 := prod_bd (p := l' - l) (q := x - a) (by omega) (by omega) (by omega) (by omega)
      have p2 := prod_bd (p := h' - h) (q := x - a) (by omega) (by omega) (by omega) (by omega)
      rw [Int.mul_comm] at p1 p2
      obtain ⟨X, hX⟩ : ∃ X, x - a = X := ⟨_, rfl⟩
      obtain ⟨D, hD⟩ : ∃ D, A' - a = D := ⟨_, rfl⟩
      obtain ⟨U, hU⟩ : ∃ U, l' - l = U := ⟨_, rfl⟩
      obtain ⟨V, hV⟩ : ∃ V, h' - h = V := ⟨_, rfl⟩
      rw [hX, hU, hD] at bl HLo
      rw [hX, hV, hD] at bh HHi
      rw [hX, hU] at p1
      rw [hX, hV] at p2
      have CF : ∀ w, Calls Try.prog 135 #[.int .i64 (X * U), .int .i64 D] w fun e w' => e = .returned (.int .i64 (X * U / D)) ∧ w = w' := fun w => rfloor_pos (X * U) D w (by omega) (by omega) (by omega) (by omega)
      have CC : ∀ w, Calls Try.prog 136 #[.int .i64 (X * V), .int .i64 D] w fun e w' => e = .returned (.int .i64 (-(-(X * V) / D))) ∧ w = w' := fun w => rceil_pos (X * V) D w (by omega) (by omega) (by omega) (by omega)
      obtain ⟨P, hP⟩ : ∃ P, X * U = P := ⟨_, rfl⟩
      obtain ⟨Q, hQ⟩ : ∃ Q, X * V = Q := ⟨_, rfl⟩
      rw [hP] at bl p1 CF HLo
      rw [hQ] at bh p2 CC HHi
      obtain ⟨R, hR⟩ : ∃ R, P / D = R := ⟨_, rfl⟩
      obtain ⟨S, hS⟩ : ∃ S, -(-Q / D) = S := ⟨_, rfl⟩
      rw [hR] at bl CF HLo
      rw [hS] at bh CC HHi
      have f1 : IntKind.i64.wrap X = X := IntWalk.i64_in _ ⟨by omega, by omega⟩
      have f2 : IntKind.i64.wrap D = D := IntWalk.i64_in _ ⟨by omega, by omega⟩
      have f3 : IntKind.i64.wrap U = U := IntWalk.i64_in _ ⟨by omega, by omega⟩
      have f4 : IntKind.i64.wrap V = V := IntWalk.i64_in _ ⟨by omega, by omega⟩
      have f5 : IntKind.i64.wrap P = P := IntWalk.i64_in _ ⟨by omega, by omega⟩
      have f6 : IntKind.i64.wrap Q = Q := IntWalk.i64_in _ ⟨by omega, by omega⟩
      have f7 : IntKind.i64.wrap (l + R) = l + R := IntWalk.i64_in _ ⟨by omega, by omega⟩
      have f8 : IntKind.i64.wrap (h + S) = h + S := IntWalk.i64_in _ ⟨by omega, by omega⟩
      have HCF := Lib.hid CF
      have HCC := Lib.hid CC
      clear CF CC kl kh e1 e2 ha hl hh hl' hh' hR hS hg hg' hgo bl bh p1 p2
      have hE : LinesP ks x (.returned (.tuple #[.int .i64 (l + R), .int .i64 (h + S)])) := HRet.out _ (by rw [HLo.out, HHi.out])
      have HE := Lib.hid hE
      clear hE hA' HLo HHi HRet HSeg
      rcases hcc with g1 | ⟨g1, g2⟩
      all_goals
        go_wp2_with fail
        go_cut [7, 8] from 11 to 75 (fun v7 v8 wr => LBox w wr v7 v8 a l h A' l' h')
        case first =>
          have HX := Lib.hid (KX.mk (b := b) (o := off + k * 3) (p := off + (k + 1) * 3) c0 c1 c2 d0 d1 d2)
          have hA : Below w.heap.size w w.drew := below_drewN (Below.refl _ _) 1
          clear f1 f2 f3 f4 f5 f6 f7 f8 HE HCF HCC hX hD hU hV hP hQ s1 s2 s3 s4 s5 s6 s7 s8 s9 s10 s11 hat hx h0 c0 c1 c2 d0 d1 d2
          refine AnyT.begin (fun w' => Below w.heap.size w w') 12 (by kernel_rfl) hA (fun hHeld => ?_)
          generalize World.drew w = wd1 at hA hHeld ⊢
          have hs6 := hA.size
          have ht6 := hA
          refine AnyT.take (i := 0) (oi := _) (v := ?_) rfl (by kernel_rfl) (by kernel_rfl) (by kernel_rfl) (by kernel_rfl) (fun _ _ _ h => h) (Or.inl ⟨by rfl, ?_⟩) (by assumption) ?_
          rotate_left 1
          · intro wz hSw; obtain ⟨_, _, _, _, _, _⟩ := HX.out.later hSw; go_simp; try with_reducible rfl
          try simp only [Act.put, List.setIfInBounds_toArray, List.set_cons_zero, List.set_cons_succ]
          refine AnyT.take (i := 1) (oi := _) (v := ?_) rfl (by kernel_rfl) (by kernel_rfl) (by kernel_rfl) (by kernel_rfl) (fun _ _ _ h => h) (Or.inl ⟨by rfl, ?_⟩) (by assumption) ?_
          rotate_left 1
          · intro wz hSw; obtain ⟨_, _, _, _, _, _⟩ := HX.out.later hSw; go_simp; try with_reducible rfl
          try simp only [Act.put, List.setIfInBounds_toArray, List.set_cons_zero, List.set_cons_succ]
          refine AnyT.take (i := 2) (oi := _) (v := ?_) rfl (by kernel_rfl) (by kernel_rfl) (by kernel_rfl) (by kernel_rfl) (fun _ _ _ h => h) (Or.inl ⟨by rfl, ?_⟩) (by assumption) ?_
          rotate_left 1
          · intro wz hSw; obtain ⟨_, _, _, _, _, _⟩ := HX.out.later hSw; go_simp; try with_reducible rfl
          try simp only [Act.put, List.setIfInBounds_toArray, List.set_cons_zero, List.set_cons_succ]
          refine AnyT.take (i := 3) (oi := _) (v := ?_) rfl (by kernel_rfl) (by kernel_rfl) (by kernel_rfl) (by kernel_rfl) (fun _ _ _ h => h) (Or.inl ⟨by rfl, ?_⟩) (by assumption) ?_
          rotate_left 1
          · intro wz hSw; obtain ⟨_, _, _, _, _, _⟩ := HX.out.later hSw; go_simp; try with_reducible rfl
          try simp only [Act.put, List.setIfInBounds_toArray, List.set_cons_zero, List.set_cons_succ]
          refine AnyT.take (i := 4) (oi := _) (v := ?_) rfl (by kernel_rfl) (by kernel_rfl) (by kernel_rfl) (by kernel_rfl) (fun _ _ _ h => h) (Or.inl ⟨by rfl, ?_⟩) (by assumption) ?_
          rotate_left 1
          · intro wz hSw; obtain ⟨_, _, _, _, _, _⟩ := HX.out.later hSw; go_simp; try with_reducible rfl
          try simp only [Act.put, List.setIfInBounds_toArray, List.set_cons_zero, List.set_cons_succ]
          refine AnyT.take (i := 5) (oi := _) (v := ?_) rfl (by kernel_rfl) (by kernel_rfl) (by kernel_rfl) (by kernel_rfl) (fun _ _ _ h => h) (Or.inl ⟨by rfl, ?_⟩) (by assumption) ?_
          rotate_left 1
          · intro wz hSw; obtain ⟨_, _, _, _, _, _⟩ := HX.out.later hSw; go_simp; try with_reducible rfl
          try simp only [Act.put, List.setIfInBounds_toArray, List.set_cons_zero, List.set_cons_succ]
          refine AnyT.take (i := 6) (oi := _) (v := ?_) rfl (by kernel_rfl) (by kernel_rfl) (by kernel_rfl) (by kernel_rfl) (fun _ _ _ h => h) (Or.inl ⟨by rfl, ?_⟩) (by assumption) ?_
          rotate_left 1
          · intro wz hSw; obtain ⟨_, _, _, _, _, _⟩ := HX.out.later hSw; go_simp; try with_reducible rfl
          try simp only [Act.put, List.setIfInBounds_toArray, List.set_cons_zero, List.set_cons_succ]
          refine AnyT.take (i := 7) (oi := _) (v := ?_) rfl (by kernel_rfl) (by kernel_rfl) (by kernel_rfl) (by kernel_rfl) (fun _ _ _ h => h) (Or.inl ⟨by rfl, ?_⟩) (by assumption) ?_
          rotate_left 1
          · intro wz hSw; obtain ⟨_, _, _, _, _, _⟩ := HX.out.later hSw; go_simp; try with_reducible rfl
          try simp only [Act.put, List.setIfInBounds_toArray, List.set_cons_zero, List.set_cons_succ]
          refine AnyT.take (i := 8) (oi := _) (v := ?_) rfl (by kernel_rfl) (by kernel_rfl) (by kernel_rfl) (by kernel_rfl) (fun _ _ _ h => h) (Or.inl ⟨by rfl, ?_⟩) (by assumption) ?_
          rotate_left 1
          · intro wz hSw; obtain ⟨_, _, _, _, _, _⟩ := HX.out.later hSw; go_simp; try with_reducible rfl
          try simp only [Act.put, List.setIfInBounds_toArray, List.set_cons_zero, List.set_cons_succ]
          clear hHeld
          refine AnyT.some [9, 10] (by kernel_rfl) (by simp) (fun i hi => ?_)
          simp only [List.mem_cons, List.not_mem_nil, or_false] at hi
          rcases hi with rfl | rfl
          · skip
            refine AnyT.step (o := _) rfl (fun K hK => ?_)
            go_simp
            replace hA := hA.alloc hA.size (.cells #[.int .i64 0, .int .i64 0, .int .i64 0] 94)
            refine hK.out _ _ (fun _ => hA) ?_
            clear hK K
            try simp only [Act.put, List.setIfInBounds_toArray, List.set_cons_zero, List.set_cons_succ]
            refine AnyT.one (i := 10) (o := _) rfl (by kernel_rfl) (fun K hK => ?_)
            go_simp
            replace hA := hA.alloc hA.size (.cells #[.int .i64 0, .int .i64 0, .int .i64 0] 94)
            refine hK.out _ _ (fun _ => hA) ?_
            clear hK K
            try simp only [Act.put, List.setIfInBounds_toArray, List.set_cons_zero, List.set_cons_succ]
            refine AnyT.one (i := 11) (o := _) rfl (by kernel_rfl) (fun K hK => ?_)
            go_simp
            refine hK.out _ _ (fun _ => by go_grown) ?_
            clear hK K
            try simp only [Act.put, List.setIfInBounds_toArray, List.set_cons_zero, List.set_cons_succ]
            refine AnyT.one (i := 12) (o := _) rfl (by kernel_rfl) (fun K hK => ?_)
            go_simp
            refine hK.out _ _ (fun h => absurd rfl h) ?_
            clear hK K
            refine AnyT.done (by kernel_rfl) ?_
            try simp only [Act.put, List.setIfInBounds_toArray, List.set_cons_zero, List.set_cons_succ]
            go_wp2_with fail
            go_meet
            case rel => exact ⟨_, _, rfl, rfl, by go_grown, by go_cell, by go_cell, by go_cell, by go_cell, by go_cell, by go_cell⟩
          · skip
            refine AnyT.step (o := _) rfl (fun K hK => ?_)
            go_simp
            replace hA := hA.alloc hA.size (.cells #[.int .i64 0, .int .i64 0, .int .i64 0] 94)
            refine hK.out _ _ (fun _ => hA) ?_
            clear hK K
            try simp only [Act.put, List.setIfInBounds_toArray, List.set_cons_zero, List.set_cons_succ]
            refine AnyT.one (i := 9) (o := _) rfl (by kernel_rfl) (fun K hK => ?_)
            go_simp
            replace hA := hA.alloc hA.size (.cells #[.int .i64 0, .int .i64 0, .int .i64 0] 94)
            refine hK.out _ _ (fun _ => hA) ?_
            clear hK K
            try simp only [Act.put, List.setIfInBounds_toArray, List.set_cons_zero, List.set_cons_succ]
            refine AnyT.one (i := 11) (o := _) rfl (by kernel_rfl) (fun K hK => ?_)
            go_simp
            refine hK.out _ _ (fun _ => by go_grown) ?_
            clear hK K
            try simp only [Act.put, List.setIfInBounds_toArray, List.set_cons_zero, List.set_cons_succ]
            refine AnyT.one (i := 12) (o := _) rfl (by kernel_rfl) (fun K hK => ?_)
            go_simp
            refine hK.out _ _ (fun h => absurd rfl h) ?_
            clear hK K
            refine AnyT.done (by kernel_rfl) ?_
            try simp only [Act.put, List.setIfInBounds_toArray, List.set_cons_zero, List.set_cons_succ]
            go_wp2_with fail
            go_meet
            case rel => exact ⟨_, _, rfl, rfl, by go_grown, by go_cell, by go_cell, by go_cell, by go_cell, by go_cell, by go_cell⟩
        case rest =>
          clear c0 c1 c2 d0 d1 d2
          obtain ⟨B, C, rfl, rfl, hb2, b0, b1, b2, c0, c1, c2⟩ := hcut
          have HQ : Hid (∀ nn, Below w.heap.size w (wc.drewN nn) ∧ (wc.drewN nn).cell? ⟨B, 0, none⟩ = some (.int .i64 a) ∧ (wc.drewN nn).cell? ⟨B, 1, none⟩ = some (.int .i64 l) ∧ (wc.drewN nn).cell? ⟨B, 2, none⟩ = some (.int .i64 h) ∧
            (wc.drewN nn).cell? ⟨C, 0, none⟩ = some (.int .i64 A') ∧ (wc.drewN nn).cell? ⟨C, 1, none⟩ = some (.int .i64 l') ∧ (wc.drewN nn).cell? ⟨C, 2, none⟩ = some (.int .i64 h')) := Lib.hid (fun nn => ⟨below_drewN hb2 nn, b0, b1, b2, c0, c1, c2⟩)
          go_wp2_with fail
          go_quiet (fail)
          clear hb2 b0 b1 b2 c0 c1 c2
          obtain ⟨hb2, b0, b1, b2, c0, c1, c2⟩ := HQ.out nq
          clear HQ
          generalize World.drewN wc nq = wq at *
          go_wp2_with fail
          go_quiet ((first | (go_at_call 135; exact Calls.quiet_of_same ((HCF.out _).mono fun _ _ ⟨he, hw⟩ => ⟨he, hw.symm⟩)) | (go_at_call 136; exact Calls.quiet_of_same ((HCC.out _).mono fun _ _ ⟨he, hw⟩ => ⟨he, hw.symm⟩))))
          go_wp2_with fail
          go_returns
          exact ⟨HE.out, below_drewN hb2 _⟩
end Go.Proofs.Ytflgdckeinappaa
