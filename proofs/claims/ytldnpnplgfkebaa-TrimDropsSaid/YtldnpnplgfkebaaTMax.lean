/- Package trim: slices.MaxFunc over puts with worst's comparison; worst. -/
import Derived.Test.YtldnpnplgfkebaaTVal
namespace Go.Proofs.Ytldnpnplgfkebaa
open Go.RowKit

/-- The loop's head: what is the best so far, and what is left. -/
def MxHead (a b : Int) (xs : List Pu) (F : Pu) (w wr : World) (v : Value) : Prop := ∃ (k : Nat) (m : Pu), 1 ≤ k ∧ k ≤ xs.length ∧ v = .int .i64 k ∧ (xs.drop k).foldl (betterP a b) m = F ∧ PuB m ∧ Below w.heap.size w wr ∧ Box2 wr w.heap.size 0 0 ∧ Box2 wr (w.heap.size + 1) m.p m.w
theorem better_yes {a b : Int} {m q : Pu} (h : valE a b m < valE a b q) : betterP a b m q = q := by unfold betterP; rw [if_pos h]
theorem better_no {a b : Int} {m q : Pu} (h : valE a b q ≤ valE a b m) : betterP a b m q = m := by unfold betterP; rw [if_neg (by omega)]
theorem compare_pos {x y : Int} : (0 < Lib.compareInt x y) ↔ y < x := by
  unfold Lib.compareInt; split
  · omega
  · split <;> omega
set_option maxHeartbeats 4000000 in
theorem maxFunc_any (B bk off : Nat) (a b : Int) (x0 : Pu) (xs : List Pu) (w : World) (hlen : xs.length ≤ 1000) (hbk : bk < w.heap.size) (hB : Two2 w B a b) (hs : ScB a b) (hp : ∀ p, p ∈ x0 :: xs → PuB p) (hc : ∀ (i : Nat) (c : Pu), (x0 :: xs)[i]? = some c → PuAt w bk (off + i * 2) c) :
    Calls Try.prog 108 #[.slice (some ⟨bk, off, none⟩) (xs.length + 1) (xs.length + 1), .func (.func 109) #[] #[.pointer (some ⟨B, 0, none⟩)]] w fun e w' => e = .returned (puV (xs.foldl (betterP a b) x0)) ∧ Below w.heap.size w w' := by
  obtain ⟨F, hF⟩ : ∃ F, xs.foldl (betterP a b) x0 = F := ⟨_, rfl⟩
  rw [hF]
  obtain ⟨c0, c1⟩ := hc 0 x0 rfl
  simp only [Nat.zero_mul, Nat.add_zero] at c0 c1
  obtain ⟨ys, hys⟩ : ∃ ys, x0 :: xs = ys := ⟨_, rfl⟩
  have hl : xs.length + 1 = ys.length := by rw [← hys]; rfl
  have hx0 : PuB x0 := hp x0 (List.mem_cons_self ..)
  have hF1 : (ys.drop 1).foldl (betterP a b) x0 = F := by rw [← hys]; exact hF
  rw [hys] at hp hc
  rw [hl]
  have hy1 : 1 ≤ ys.length := by omega
  have hy2 : ys.length ≤ 1001 := by omega
  have HF := Lib.hid hF1
  have HB := Lib.hid hB
  have HS := Lib.hid hs
  have HP := Lib.hid hp
  have HC := Lib.hid hc
  have HX := Lib.hid hx0
  clear hF hF1 hB hs hp hc hx0 hys hl hlen
  go_enter Try.func108, Try.ntmps108
  go_wp2_with fail
  go_loopw [6] (fun v6 wr => MxHead a b ys F w wr v6) (fun v6 _ => ys.length - (intOf v6).toNat)
  case atStart => exact ⟨1, x0, by omega, by omega, rfl, HF.out, HX.out, by go_grown, ⟨by go_cell, by go_cell, by go_cell, by go_cell⟩, ⟨by go_cell, by go_cell, by go_cell, by go_cell⟩⟩
  case round =>
    obtain ⟨k, m, hk1, hk, rfl, hf, hm, hbr, hr, hb⟩ := hrel
    have HFk := Lib.hid hf
    have HM := Lib.hid hm
    have HR := Lib.hid hr
    have HBx := Lib.hid hb
    clear hf hm hr hb c0 c1
    by_cases hlt : k < ys.length
    · obtain ⟨c, hc⟩ : ∃ c, ys[k]? = some c := ⟨_, List.getElem?_eq_getElem hlt⟩
      obtain ⟨d0, d1⟩ := PuAt.later (HC.out k c hc) (show Below w.heap.size w wr from hbr)
      obtain ⟨s0, s1⟩ := HB.out.later hbr
      obtain ⟨m0, m1, mf0, mf1⟩ := HBx.out
      have hlt' : (k : Int) < (ys.length : Int) := by omega
      have hk0 : (0 : Int) ≤ (k : Int) := by omega
      have HK := Lib.hid hc
      have HPc := Lib.hid (HP.out c (List.mem_of_getElem? hc))
      have hbz : bk < wr.heap.size := by have := hbr.size; omega
      have hkt : ((k : Int).toNat) = k := by omega
      clear hc
      by_cases hgt : valE a b m < valE a b c
      · have hd : (0 : Int) < Lib.compareInt (valE a b c) (valE a b m) := compare_pos.2 hgt
        have HG := Lib.hid hgt
        clear hgt
        go_wp2_with fail
        have hB : Below wr.heap.size wr wr := Below.refl _ _
        go_region_held3 (fun w' => w'.cell? ⟨bk, off + k * 2, none⟩ = some (.int .i64 c.p) ∧ w'.cell? ⟨bk, off + k * 2 + 1, none⟩ = some (.int .i64 c.w) ∧ w'.cell? ⟨w.heap.size + 1, 0, none⟩ = some (.int .i64 m.p) ∧ w'.cell? ⟨w.heap.size + 1, 1, none⟩ = some (.int .i64 m.w) ∧ w'.cell? ⟨B, 0, none⟩ = some (.int .i64 a) ∧ w'.cell? ⟨B, 1, none⟩ = some (.int .i64 b))
          (first | (go_split_ands; (repeat' apply And.intro) <;> first | assumption | exact cell_later hb (by assumption)) | go_keep)
          (first
            | (go_at_call 109; refine (worst1_any B a b _ _ _ ⟨by assumption, by assumption⟩ HS.out HPc.out HM.out).mono ?_; rintro e wx ⟨rfl, hb⟩; have hB : Below wr.heap.size wr wx := (by first | exact chain hB hb | exact chainD hB hb); have mf0 := (HBx.out.later hB).f0; have mf1 := (HBx.out.later hB).f1; have z1 := (HBx.out.later hB).lt; have z0 := (HR.out.later hB).lt))
        go_wp2_with fail
        have hBx := hbr.trans (hB.mono hbr.size)
        have hr9 := HR.out.later hB
        go_roundw
        case rel => exact ⟨k + 1, c, by omega, by omega, by go_num, by rw [← HFk.out, drop_some HK.out, List.foldl_cons]; rw [better_yes HG.out], HPc.out, by go_grown, ⟨by have := hr9.c0; go_cell, by have := hr9.c1; go_cell, by have := hr9.f0; go_cell, by have := hr9.f1; go_cell⟩, ⟨by go_cell, by go_cell, by go_cell, by go_cell⟩⟩
        case measure => simp [intOf]; omega
      · have hd : ¬ (0 : Int) < Lib.compareInt (valE a b c) (valE a b m) := fun h => hgt (compare_pos.1 h)
        have HG := Lib.hid hgt
        clear hgt
        go_wp2_with fail
        have hB : Below wr.heap.size wr wr := Below.refl _ _
        go_region_held3 (fun w' => w'.cell? ⟨bk, off + k * 2, none⟩ = some (.int .i64 c.p) ∧ w'.cell? ⟨bk, off + k * 2 + 1, none⟩ = some (.int .i64 c.w) ∧ w'.cell? ⟨w.heap.size + 1, 0, none⟩ = some (.int .i64 m.p) ∧ w'.cell? ⟨w.heap.size + 1, 1, none⟩ = some (.int .i64 m.w) ∧ w'.cell? ⟨B, 0, none⟩ = some (.int .i64 a) ∧ w'.cell? ⟨B, 1, none⟩ = some (.int .i64 b))
          (first | (go_split_ands; (repeat' apply And.intro) <;> first | assumption | exact cell_later hb (by assumption)) | go_keep)
          (first
            | (go_at_call 109; refine (worst1_any B a b _ _ _ ⟨by assumption, by assumption⟩ HS.out HPc.out HM.out).mono ?_; rintro e wx ⟨rfl, hb⟩; have hB : Below wr.heap.size wr wx := (by first | exact chain hB hb | exact chainD hB hb); have mf0 := (HBx.out.later hB).f0; have mf1 := (HBx.out.later hB).f1; have z1 := (HBx.out.later hB).lt; have z0 := (HR.out.later hB).lt))
        go_wp2_with fail
        have hBx := hbr.trans (hB.mono hbr.size)
        have hr9 := HR.out.later hB
        go_roundw
        case rel => exact ⟨k + 1, m, by omega, by omega, by go_num, by rw [← HFk.out, drop_some HK.out, List.foldl_cons]; rw [better_no (by have := HG.out; omega)], HM.out, by go_grown, hr9, ⟨by go_cell, by go_cell, by go_cell, by go_cell⟩⟩
        case measure => simp [intOf]; omega
    · have hmF : m = F := by have := HFk.out; rw [drop_none hlt] at this; exact this
      subst hmF
      obtain ⟨r0, r1, rf0, rf1⟩ := HR.out
      obtain ⟨m0, m1, mf0, mf1⟩ := HBx.out
      have z1 := HBx.out.lt
      have z0 := HR.out.lt
      go_wp2_with fail
      exact bodyPost_ret (v := puV m) (by simp [results, Try.results108, go_sem, *]) rfl ⟨rfl, by go_grown⟩
end Go.Proofs.Ytldnpnplgfkebaa
