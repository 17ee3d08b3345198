/- Package trim: value, worst's comparison, MaxFunc, worst. -/
import Derived.Test.YtldnpnplgfkebaaTBox
import Derived.Laws.EntriesVeiled
namespace Go.Proofs.Ytldnpnplgfkebaa
open Go.RowKit

theorem makeFunc_run : ∀ (fn : Fn) (first cap : Array Value) (w : World), (Instr.makeFunc fn first cap).run Try.prog w = .ok (.func fn first cap) w := fun _ _ _ _ => rfl
set_option maxHeartbeats 400000 in
theorem value_any (a b : Int) (p : Pu) (w : World) (hs : ScB a b) (hp : PuB p) :
    Calls Try.prog 69 #[sp a b, puV p] w fun e w' => e = .returned (.int .i64 (valE a b p)) ∧ Below w.heap.size w w' := by
  obtain ⟨⟨x0, x1⟩, y0, y1⟩ := val_bound hs hp
  obtain ⟨X, hX⟩ : ∃ X, b * p.p = X := ⟨_, rfl⟩
  obtain ⟨Y, hY⟩ : ∃ Y, valE a b p = Y := ⟨_, rfl⟩
  have hY' : p.w * (a + X) = Y := by rw [← hX]; exact hY
  obtain ⟨a0, a1, b0, b1⟩ := hs
  rw [hX] at x0 x1
  rw [hY] at y0 y1
  rw [hY]
  have e1 : IntKind.i64.wrap (b * p.p) = X := by rw [hX]; exact IntWalk.i64_in _ ⟨by omega, by omega⟩
  have e2 : IntKind.i64.wrap (p.w * (a + X)) = Y := by rw [hY']; exact IntWalk.i64_in _ ⟨by omega, by omega⟩
  clear hX hY hY' hp
  go_enter Try.func69, Try.ntmps69
  go_wp2_with fail
  go_returns
  exact ⟨rfl, by go_grown⟩
theorem compare_any (x y : Int) (w : World) : Calls Try.prog 110 #[.int .i64 x, .int .i64 y] w fun e w' => e = .returned (.int .i64 (Lib.compareInt x y)) ∧ Below w.heap.size w w' :=
  (Try.cmp_Compare_int x y w).mono fun _ _ ⟨h, hw⟩ => ⟨h, by rw [hw]; exact Below.refl _ _⟩
set_option maxHeartbeats 2000000 in
theorem worst1_any (B : Nat) (a b : Int) (p q : Pu) (w : World) (hB : Two2 w B a b) (hs : ScB a b) (hp : PuB p) (hq : PuB q) :
    Calls Try.prog 109 #[puV p, puV q, .pointer (some ⟨B, 0, none⟩)] w fun e w' => e = .returned (.int .i64 (Lib.compareInt (valE a b p) (valE a b q))) ∧ Below w.heap.size w w' := by
  have HB0 := Lib.hid hB
  have HS := Lib.hid hs
  have HP := Lib.hid hp
  have HQ := Lib.hid hq
  clear hB hs hp hq
  go_enter Try.func109, Try.ntmps109
  go_wp2_with fail
  obtain ⟨W, hW⟩ : ∃ W, (w.alloc (.cells #[.int .i64 p.p, .int .i64 p.w] 89)).alloc (.cells #[.int .i64 q.p, .int .i64 q.w] 89) = W := ⟨_, rfl⟩
  have p0 : W.cell? ⟨w.heap.size, 0, none⟩ = some (.int .i64 p.p) := by subst hW; go_cell
  have p1 : W.cell? ⟨w.heap.size, 1, none⟩ = some (.int .i64 p.w) := by subst hW; go_cell
  have q0 : W.cell? ⟨w.heap.size + 1, 0, none⟩ = some (.int .i64 q.p) := by subst hW; go_cell
  have q1 : W.cell? ⟨w.heap.size + 1, 1, none⟩ = some (.int .i64 q.w) := by subst hW; go_cell
  have hBw : Below w.heap.size w W := by subst hW; go_grown
  obtain ⟨s0, s1⟩ := HB0.out.later hBw
  rw [hW]
  clear hW
  have hB : Below W.heap.size W W := Below.refl _ _
  go_region_held3 (fun w' => w'.cell? ⟨w.heap.size, 0, none⟩ = some (.int .i64 p.p) ∧ w'.cell? ⟨w.heap.size, 1, none⟩ = some (.int .i64 p.w) ∧ w'.cell? ⟨w.heap.size + 1, 0, none⟩ = some (.int .i64 q.p) ∧ w'.cell? ⟨w.heap.size + 1, 1, none⟩ = some (.int .i64 q.w) ∧ w'.cell? ⟨B, 0, none⟩ = some (.int .i64 a) ∧ w'.cell? ⟨B, 1, none⟩ = some (.int .i64 b))
    (first | (go_split_ands; (repeat' apply And.intro) <;> first | assumption | exact cell_later hb (by assumption)) | go_keep)
    (first
      | (go_at_call 69; refine (value_any a b _ _ HS.out (by first | exact HP.out | exact HQ.out)).mono ?_; rintro e wx ⟨rfl, hb⟩; have hB : Below W.heap.size W wx := (by first | exact chain hB hb | exact chainD hB hb))
      | (go_at_call 110; refine (compare_any _ _ _).mono ?_; rintro e wx ⟨rfl, hb⟩; have hB : Below W.heap.size W wx := (by first | exact chain hB hb | exact chainD hB hb)))
  go_wp2_with fail
  have hBx := hBw.trans (hB.mono hBw.size)
  go_returns
  exact ⟨rfl, by go_grown⟩
end Go.Proofs.Ytldnpnplgfkebaa
/- Package trim: slices.MaxFunc over puts with worst's comparison; worst. -/
namespace Go.Proofs.Ytldnpnplgfkebaa
open Go.RowKit

/-- The loop's head: what is the best so far, and what is left. -/
def MxHead (a b : Int) (xs : List Pu) (F : Pu) (w wr : World) (v : Value) : Prop := ∃ (k : Nat) (m : Pu), 1 ≤ k ∧ k ≤ xs.length ∧ v = .int .i64 k ∧ (xs.drop k).foldl (betterP a b) m = F ∧ PuB m ∧ Below w.heap.size w wr ∧ Box2 wr w.heap.size 0 0 ∧ Box2 wr (w.heap.size + 1) m.p m.w
theorem better_yes {a b : Int} {m q : Pu} (h : valE a b m < valE a b q) : betterP a b m q = q := by unfold betterP; rw [if_pos h]
theorem better_no {a b : Int} {m q : Pu} (h : valE a b q ≤ valE a b m) : betterP a b m q = m := by unfold betterP; rw [if_neg (by omega)]
theorem compare_pos {x y : Int} : (0 < Lib.compareInt x y) ↔ y < x := by
  unfold Lib.compareInt; split
  · omega
  · split <;> omega
set_option maxHeartbeats 4000000 in
theorem maxFunc_any (B bk off : Nat) (a b : Int) (x0 : Pu) (xs : List Pu) (w : World) (hlen : xs.length ≤ 1000) (hbk : bk < w.heap.size) (hB : Two2 w B a b) (hs : ScB a b) (hp : ∀ p, p ∈ x0 :: xs → PuB p) (hc : ∀ (i : Nat) (c : Pu), (x0 :: xs)[i]? = some c → PuAt w bk (off + i * 2) c) :
    Calls Try.prog 108 #[.slice (some ⟨bk, off, none⟩) (xs.length + 1) (xs.length + 1), .func (.func 109) #[] #[.pointer (some ⟨B, 0, none⟩)]] w fun e w' => e = .returned (puV (xs.foldl (betterP a b) x0)) ∧ Below w.heap.size w w' := by
  obtain ⟨F, hF⟩ : ∃ F, xs.foldl (betterP a b) x0 = F := ⟨_, rfl⟩
  rw [hF]
  obtain ⟨c0, c1⟩ := hc 0 x0 rfl
  simp only [Nat.zero_mul, Nat.add_zero] at c0 c1
  obtain ⟨ys, hys⟩ : ∃ ys, x0 :: xs = ys := ⟨_, rfl⟩
  have hl : xs.length + 1 = ys.length := by rw [← hys]; rfl
  have hx0 : PuB x0 := hp x0 (List.mem_cons_self ..)
  have hF1 : (ys.drop 1).foldl (betterP a b) x0 = F := by rw [← hys]; exact hF
  rw [hys] at hp hc
  rw [hl]
  have hy1 : 1 ≤ ys.length := by omega
  have hy2 : ys.length ≤ 1001 := by omega
  have HF := Lib.hid hF1
  have HB := Lib.hid hB
  have HS := Lib.hid hs
  have HP := Lib.hid hp
  have HC := Lib.hid hc
  have HX := Lib.hid hx0
  clear hF hF1 hB hs hp hc hx0 hys hl hlen
  go_enter Try.func108, Try.ntmps108
  go_wp2_with fail
  go_loopw [6] (fun v6 wr => MxHead a b ys F w wr v6) (fun v6 _ => ys.length - (intOf v6).toNat)
  case atStart => exact ⟨1, x0, by omega, by omega, rfl, HF.out, HX.out, by go_grown, ⟨by go_cell, by go_cell, by go_cell, by go_cell⟩, ⟨by go_cell, by go_cell, by go_cell, by go_cell⟩⟩
  case round =>
    obtain ⟨k, m, hk1, hk, rfl, hf, hm, hbr, hr, hb⟩ := hrel
    have HFk := Lib.hid hf
    have HM := Lib.hid hm
    have HR := Lib.hid hr
    have HBx := Lib.hid hb
    clear hf hm hr hb c0 c1
    by_cases hlt : k < ys.length
    · obtain ⟨c, hc⟩ : ∃ c, ys[k]? = some c := ⟨_, List.getElem?_eq_getElem hlt⟩
      obtain ⟨d0, d1⟩ := PuAt.later (HC.out k c hc) (show Below w.heap.size w wr from hbr)
      obtain ⟨s0, s1⟩ := HB.out.later hbr
      obtain ⟨m0, m1, mf0, mf1⟩ := HBx.out
      have hlt' : (k : Int) < (ys.length : Int) := by omega
      have hk0 : (0 : Int) ≤ (k : Int) := by omega
      have HK := Lib.hid hc
      have HPc := Lib.hid (HP.out c (List.mem_of_getElem? hc))
      have hbz : bk < wr.heap.size := by have := hbr.size; omega
      have hkt : ((k : Int).toNat) = k := by omega
      clear hc
      by_cases hgt : valE a b m < valE a b c
      · have hd : (0 : Int) < Lib.compareInt (valE a b c) (valE a b m) := compare_pos.2 hgt
        have HG := Lib.hid hgt
        clear hgt
        go_wp2_with fail
        have hB : Below wr.heap.size wr wr := Below.refl _ _
        go_region_held3 (fun w' => w'.cell? ⟨bk, off + k * 2, none⟩ = some (.int .i64 c.p) ∧ w'.cell? ⟨bk, off + k * 2 + 1, none⟩ = some (.int .i64 c.w) ∧ w'.cell? ⟨w.heap.size + 1, 0, none⟩ = some (.int .i64 m.p) ∧ w'.cell? ⟨w.heap.size + 1, 1, none⟩ = some (.int .i64 m.w) ∧ w'.cell? ⟨B, 0, none⟩ = some (.int .i64 a) ∧ w'.cell? ⟨B, 1, none⟩ = some (.int .i64 b))
          (first | (go_split_ands; (repeat' apply And.intro) <;> first | assumption | exact cell_later hb (by assumption)) | go_keep)
          (first
            | (go_at_call 109; refine (worst1_any B a b _ _ _ ⟨by assumption, by assumption⟩ HS.out HPc.out HM.out).mono ?_; rintro e wx ⟨rfl, hb⟩; have hB : Below wr.heap.size wr wx := (by first | exact chain hB hb | exact chainD hB hb); have mf0 := (HBx.out.later hB).f0; have mf1 := (HBx.out.later hB).f1; have z1 := (HBx.out.later hB).lt; have z0 := (HR.out.later hB).lt))
        go_wp2_with fail
        have hBx := hbr.trans (hB.mono hbr.size)
        have hr9 := HR.out.later hB
        go_roundw
        case rel => exact ⟨k + 1, c, by omega, by omega, by go_num, by rw [← HFk.out, drop_some HK.out, List.foldl_cons]; rw [better_yes HG.out], HPc.out, by go_grown, ⟨by have := hr9.c0; go_cell, by have := hr9.c1; go_cell, by have := hr9.f0; go_cell, by have := hr9.f1; go_cell⟩, ⟨by go_cell, by go_cell, by go_cell, by go_cell⟩⟩
        case measure => simp [intOf]; omega
      · have hd : ¬ (0 : Int) < Lib.compareInt (valE a b c) (valE a b m) := fun h => hgt (compare_pos.1 h)
        have HG := Lib.hid hgt
        clear hgt
        go_wp2_with fail
        have hB : Below wr.heap.size wr wr := Below.refl _ _
        go_region_held3 (fun w' => w'.cell? ⟨bk, off + k * 2, none⟩ = some (.int .i64 c.p) ∧ w'.cell? ⟨bk, off + k * 2 + 1, none⟩ = some (.int .i64 c.w) ∧ w'.cell? ⟨w.heap.size + 1, 0, none⟩ = some (.int .i64 m.p) ∧ w'.cell? ⟨w.heap.size + 1, 1, none⟩ = some (.int .i64 m.w) ∧ w'.cell? ⟨B, 0, none⟩ = some (.int .i64 a) ∧ w'.cell? ⟨B, 1, none⟩ = some (.int .i64 b))
          (first | (go_split_ands; (repeat' apply And.intro) <;> first | assumption | exact cell_later hb (by assumption)) | go_keep)
          (first
            | (go_at_call 109; refine (worst1_any B a b _ _ _ ⟨by assumption, by assumption⟩ HS.out HPc.out HM.out).mono ?_; rintro e wx ⟨rfl, hb⟩; have hB : Below wr.heap.size wr wx := (by first | exact chain hB hb | exact chainD hB hb); have mf0 := (HBx.out.later hB).f0; have mf1 := (HBx.out.later hB).f1; have z1 := (HBx.out.later hB).lt; have z0 := (HR.out.later hB).lt))
        go_wp2_with fail
        have hBx := hbr.trans (hB.mono hbr.size)
        have hr9 := HR.out.later hB
        go_roundw
        case rel => exact ⟨k + 1, m, by omega, by omega, by go_num, by rw [← HFk.out, drop_some HK.out, List.foldl_cons]; rw [better_no (by have := HG.out; omega)], HM.out, by go_grown, hr9, ⟨by go_cell, by go_cell, by go_cell, by go_cell⟩⟩
        case measure => simp [intOf]; omega
    · have hmF : m = F := by have := HFk.out; rw [drop_none hlt] at this; exact this
      subst hmF
      obtain ⟨r0, r1, rf0, rf1⟩ := HR.out
      obtain ⟨m0, m1, mf0, mf1⟩ := HBx.out
      have z1 := HBx.out.lt
      have z0 := HR.out.lt
      go_wp2_with fail
      exact bodyPost_ret (v := puV m) (by simp [results, Try.results108, go_sem, *]) rfl ⟨rfl, by go_grown⟩
end Go.Proofs.Ytldnpnplgfkebaa
/- Package trim: worst, most, ends. -/
namespace Go.Proofs.Ytldnpnplgfkebaa
open Go.RowKit

/-- worst's two spans, in boxes of their own. -/
def WoC (w wy : World) (v5 v6 : Value) (a b : Int) (l : Ld) : Prop := ∃ n5 n6 : Nat, v5 = .pointer (some ⟨n5, 0, none⟩) ∧ v6 = .pointer (some ⟨n6, 0, none⟩) ∧ Below w.heap.size w wy ∧ Two2 wy n5 l.a0 l.a1 ∧ Two2 wy n6 l.w0 l.w1 ∧ Two2 wy w.heap.size a b ∧ Box2 wy (w.heap.size + 1 + 1) 0 0
set_option maxHeartbeats 4000000 in
theorem worst_any (a b : Int) (l : Ld) (w : World) (hs : ScB a b) (hl : LdB l) :
    Calls Try.prog 67 #[sp a b, ldV l] w fun e w' => e = .returned (puV (worstP a b l)) ∧ Below w.heap.size w w' := by
  obtain ⟨P, hP⟩ : ∃ P, worstP a b l = P := ⟨_, rfl⟩
  rw [hP]
  have HP := Lib.hid hP
  have HS := Lib.hid hs
  have HL := Lib.hid hl
  clear hP hs hl
  have hmf := makeFunc_run
  go_enter Try.func67, Try.ntmps67
  go_wp2_with fail
  go_cut [5, 6] from 8 to 12 (fun v5 v6 wy => WoC w wy v5 v6 a b l)
  case first =>
    go_region
    all_goals go_wp2_with fail
    all_goals (go_meet; case rel => exact ⟨_, _, rfl, rfl, by go_grown, ⟨by go_cell, by go_cell⟩, ⟨by go_cell, by go_cell⟩, ⟨by go_cell, by go_cell⟩, ⟨by go_cell, by go_cell, by go_cell, by go_cell⟩⟩)
  case rest =>
    obtain ⟨n5, n6, rfl, rfl, hB, k5, k6, ks, kr⟩ := hcut
    generalize wc = wr at *
    obtain ⟨a0, a1⟩ := k5
    obtain ⟨b0, b1⟩ := k6
    have q1 := World.block_lt_of_cell? _ _ a0
    have q2 := World.block_lt_of_cell? _ _ b0
    have HK := Lib.hid ks
    have HR := Lib.hid kr
    have HB := Lib.hid hB
    have hsz := hB.size
    clear ks kr
    go_wp2_with fail
    refine (maxFunc_any w.heap.size _ 0 a b ⟨l.a0, l.w0⟩ [⟨l.a1, l.w0⟩, ⟨l.a0, l.w1⟩, ⟨l.a1, l.w1⟩] _ (by simp) (by simp) (HK.out.later (by go_grown)) HS.out (fun p hp => corner_bound HL.out p hp) ?_).mono ?_
    · intro i c hi
      rcases i with _ | _ | _ | _ | i
      · simp at hi; subst hi; exact ⟨by go_cell, by go_cell⟩
      · simp at hi; subst hi; exact ⟨by go_cell, by go_cell⟩
      · simp at hi; subst hi; exact ⟨by go_cell, by go_cell⟩
      · simp at hi; subst hi; exact ⟨by go_cell, by go_cell⟩
      · simp at hi
    rintro e w1 ⟨rfl, hb1⟩
    rw [show List.foldl (betterP a b) ⟨l.a0, l.w0⟩ [⟨l.a1, l.w0⟩, ⟨l.a0, l.w1⟩, ⟨l.a1, l.w1⟩] = P from HP.out]
    have hb2 : Below wr.heap.size wr w1 := two (by go_grown) hb1
    have hB2 : Below w.heap.size w w1 := HB.out.trans (hb2.mono HB.out.size)
    obtain ⟨r0, r1, rf0, rf1⟩ := HR.out.later hb2
    clear hb1 hb2 hB a0 a1 b0 b1
    go_wp2_with fail
    exact bodyPost_ret (v := puV P) (by simp [results, Try.results67, go_sem, *]) rfl ⟨rfl, by go_grown⟩
end Go.Proofs.Ytldnpnplgfkebaa
/- Package trim: most, ends; heavinessOf, momentOf. -/
namespace Go.Proofs.Ytldnpnplgfkebaa
open Go.RowKit

set_option maxHeartbeats 2000000 in
theorem most1_any (B : Nat) (a b : Int) (l : Ld) (w : World) (hB : Two2 w B a b) (hs : ScB a b) (hl : LdB l) :
    Calls Try.prog 112 #[ldV l, .pointer (some ⟨B, 0, none⟩)] w fun e w' => e = .returned (.int .i64 (mostE a b l)) ∧ Below w.heap.size w w' := by
  have HB0 := Lib.hid hB
  have HS := Lib.hid hs
  have HL := Lib.hid hl
  have HW := Lib.hid (worst_bound (a := a) (b := b) hl)
  unfold mostE
  obtain ⟨P, hP⟩ : ∃ P, worstP a b l = P := ⟨_, rfl⟩
  have HP := Lib.hid hP
  rw [hP] at HW
  rw [hP]
  clear hB hs hl hP
  go_enter Try.func112, Try.ntmps112
  go_wp2_with fail
  obtain ⟨W, hW⟩ : ∃ W, w.alloc (.cells #[.int .i64 l.a0, .int .i64 l.a1, .int .i64 l.w0, .int .i64 l.w1] 91) = W := ⟨_, rfl⟩
  have c0 : W.cell? ⟨w.heap.size, 0, none⟩ = some (.int .i64 l.a0) := by subst hW; go_cell
  have c1 : W.cell? ⟨w.heap.size, 1, none⟩ = some (.int .i64 l.a1) := by subst hW; go_cell
  have c2 : W.cell? ⟨w.heap.size, 2, none⟩ = some (.int .i64 l.w0) := by subst hW; go_cell
  have c3 : W.cell? ⟨w.heap.size, 3, none⟩ = some (.int .i64 l.w1) := by subst hW; go_cell
  have hBw : Below w.heap.size w W := by subst hW; go_grown
  obtain ⟨s0, s1⟩ := HB0.out.later hBw
  rw [hW]
  clear hW
  have hB : Below W.heap.size W W := Below.refl _ _
  go_region_held3 (fun w' => w'.cell? ⟨w.heap.size, 0, none⟩ = some (.int .i64 l.a0) ∧ w'.cell? ⟨w.heap.size, 1, none⟩ = some (.int .i64 l.a1) ∧ w'.cell? ⟨w.heap.size, 2, none⟩ = some (.int .i64 l.w0) ∧ w'.cell? ⟨w.heap.size, 3, none⟩ = some (.int .i64 l.w1) ∧ w'.cell? ⟨B, 0, none⟩ = some (.int .i64 a) ∧ w'.cell? ⟨B, 1, none⟩ = some (.int .i64 b))
    (first | (go_split_ands; (repeat' apply And.intro) <;> first | assumption | exact cell_later hb (by assumption)) | go_keep)
    (first
      | (go_at_call 69; refine (value_any a b P _ HS.out HW.out).mono ?_; rintro e wx ⟨rfl, hb⟩; have hB : Below W.heap.size W wx := (by first | exact chain hB hb | exact chainD hB hb))
      | (go_at_call 67; refine (worst_any a b l _ HS.out HL.out).mono ?_; rintro e wx ⟨rfl, hb⟩; rw [HP.out]; have hB : Below W.heap.size W wx := (by first | exact chain hB hb | exact chainD hB hb)))
  go_wp2_with fail
  have hBx := hBw.trans (hB.mono hBw.size)
  go_returns
  exact ⟨rfl, by go_grown⟩

theorem most_bound {a b : Int} {l : Ld} (hs : ScB a b) (hl : LdB l) : -42952746706567169 ≤ mostE a b l ∧ mostE a b l ≤ 42952746706567169 := by
  have := (val_bound hs (worst_bound (a := a) (b := b) hl)).2
  unfold mostE
  omega
theorem most_take {a b : Int} {ls : List Ld} {k : Nat} (hs : ScB a b) (hl : ∀ l, l ∈ ls → LdB l) (h50 : ls.length ≤ 50) :
    -2147637335328358450 ≤ sumE (mostE a b) (ls.take k) ∧ sumE (mostE a b) (ls.take k) ≤ 2147637335328358450 := by
  have := sum_bound (f := mostE a b) (m := 42952746706567169) (ls.take k) (fun x hx => most_bound hs (hl x (List.mem_of_mem_take hx)))
  have h1 : (ls.take k).length ≤ 50 := by rw [List.length_take]; omega
  omega
theorem sum_full {α : Type} {f : α → Int} {l : List α} {k : Nat} (h : ¬ k < l.length) : sumE f (l.take k) = sumE f l := by rw [List.take_of_length_le (by omega)]
def TotHead {α : Type} (f : α → Int) (ls : List α) (w wr : World) (u v : Value) : Prop := ∃ k : Nat, k ≤ ls.length ∧ u = .int .i64 (sumE f (ls.take k)) ∧ v = .int .i64 k ∧ Below w.heap.size w wr
set_option maxHeartbeats 2000000 in
theorem totalLoads_any (B : Nat) (a b : Int) (v : Value) (ls : List Ld) (w : World) (hv : SlLd w v ls) (h50 : ls.length ≤ 50) (hB : Two2 w B a b) (hs : ScB a b) (hl : ∀ l, l ∈ ls → LdB l) :
    Calls Try.prog 111 #[v, .func (.func 112) #[] #[.pointer (some ⟨B, 0, none⟩)]] w fun e w' => e = .returned (.int .i64 (sumE (mostE a b) ls)) ∧ Below w.heap.size w w' := by
  obtain ⟨ad, cap, rfl, hlen, hcap⟩ := hv.form
  have HV := Lib.hid hv
  have HB := Lib.hid hB
  have HS := Lib.hid hs
  have HL := Lib.hid hl
  clear hv hB hs hl
  go_enter Try.func111, Try.ntmps111
  go_wp2_with fail
  go_loopw [5, 10] (fun v5 v10 wr => TotHead (mostE a b) ls w wr v5 v10) (fun _ v10 _ => ls.length - (intOf v10).toNat)
  case atStart => exact ⟨0, by omega, rfl, rfl, Below.refl _ _⟩
  case round =>
    obtain ⟨k, hk, rfl, rfl, hbr⟩ := hrel
    by_cases hlt : k < ls.length
    · obtain ⟨bk, off, c, rfl, hb, hc, hat⟩ := HV.out.at hlt
      obtain ⟨c0, c1, c2, c3⟩ := LdAt.later hat (show Below w.heap.size w wr from hbr)
      have hlt' : (k : Int) < (ls.length : Int) := by omega
      have hk0 : (0 : Int) ≤ (k : Int) := by omega
      have hbd := most_take (k := k) HS.out HL.out h50
      have hbm := most_bound HS.out (HL.out c (List.mem_of_getElem? hc))
      have HC := Lib.hid (sum_take (f := mostE a b) hc)
      have HLc := Lib.hid (HL.out c (List.mem_of_getElem? hc))
      obtain ⟨X, hX⟩ : ∃ X, sumE (mostE a b) (ls.take k) = X := ⟨_, rfl⟩
      rw [hX] at hbd HC
      rw [hX]
      obtain ⟨Y, hY⟩ : ∃ Y, mostE a b c = Y := ⟨_, rfl⟩
      rw [hY] at hbm HC
      have HY := Lib.hid hY
      obtain ⟨x0, x1⟩ := hbd
      obtain ⟨y0, y1⟩ := hbm
      clear hc hat hX hY
      go_wp2_with fail
      have hsz := hbr.size
      refine (most1_any B a b c _ (HB.out.later (by go_grown)) HS.out HLc.out).mono ?_
      rintro e w1 ⟨rfl, hb1⟩
      rw [HY.out]
      have hB1 : Below w.heap.size w w1 := hbr.trans ((two (W := wr) (by go_grown) hb1).mono hbr.size)
      clear hb1 c0 c1 c2 c3
      go_wp2_with fail
      go_roundw
      case rel => exact ⟨k + 1, by omega, by rw [HC.out], by go_num, hB1⟩
      case measure => simp [intOf]; omega
    · have HX := Lib.hid (sum_full (f := mostE a b) hlt)
      obtain ⟨X, hX⟩ : ∃ X, sumE (mostE a b) (ls.take k) = X := ⟨_, rfl⟩
      rw [hX] at HX
      rw [hX]
      clear hX
      go_wp2_with fail
      go_returns
      exact ⟨ret_int HX.out, hbr⟩
/-- The greatest value of all choices. -/
abbrev mostL (a b : Int) (ls : List Ld) : Int := sumE (mostE a b) ls
set_option maxHeartbeats 1000000 in
theorem most_any (a b : Int) (v : Value) (ls : List Ld) (w : World) (hv : SlLd w v ls) (h50 : ls.length ≤ 50) (hs : ScB a b) (hl : ∀ l, l ∈ ls → LdB l) :
    Calls Try.prog 72 #[sp a b, v] w fun e w' => e = .returned (.int .i64 (mostL a b ls)) ∧ Below w.heap.size w w' := by
  have HV := Lib.hid hv
  have HS := Lib.hid hs
  have HL := Lib.hid hl
  obtain ⟨X, hX⟩ : ∃ X, mostL a b ls = X := ⟨_, rfl⟩
  have HX := Lib.hid hX
  rw [hX]
  clear hv hs hl hX
  have hmf := makeFunc_run
  go_enter Try.func72, Try.ntmps72
  go_wp2_with fail
  refine (totalLoads_any w.heap.size a b v ls _ (ldLater HV.out (by go_grown)) h50 ⟨by go_cell, by go_cell⟩ HS.out HL.out).mono ?_
  rintro e w1 ⟨rfl, hb1⟩
  rw [show sumE (mostE a b) ls = X from HX.out]
  have hB1 : Below w.heap.size w w1 := (after (w := w) (by go_grown) hb1).1
  clear hb1
  go_wp2_with fail
  go_returns
  exact ⟨rfl, hB1⟩
end Go.Proofs.Ytldnpnplgfkebaa
