/- Package trim: Breach. -/
import Derived.Test.YtldnpnplgfkebaaTWo
import Derived.Test.YtldnpnplgfkebaaTChoose2
namespace Go.Proofs.Ytldnpnplgfkebaa
open Go.RowKit

/-- A box of two values that may be written. -/
structure BoxV (w : World) (B : Nat) (x y : Value) : Prop where
  c0 : w.cell? ⟨B, 0, none⟩ = some x
  c1 : w.cell? ⟨B, 1, none⟩ = some y
  f0 : w.frozen? ⟨B, 0, none⟩ = false
  f1 : w.frozen? ⟨B, 1, none⟩ = false
theorem BoxV.lt {w : World} {B : Nat} {x y : Value} (k : BoxV w B x y) : B < w.heap.size := World.block_lt_of_cell? _ _ k.c0
theorem BoxV.later {w w1 : World} {B : Nat} {x y : Value} (k : BoxV w B x y) (hb : Below w.heap.size w w1) : BoxV w1 B x y :=
  have hz := World.block_lt_of_cell? _ _ k.c0
  ⟨cell_later hb k.c0, cell_later hb k.c1, by rw [(bcell hb).2 _ _ hz]; exact k.f0, by rw [(bcell hb).2 _ _ hz]; exact k.f1⟩
/-- The first limit that is not kept, from i on; -1 if there is none. -/
def brk (ls : List Ld) : Nat → List Li → Int
  | _, [] => -1
  | i, m :: ms => if m.c < mostL m.a m.b ls then i else brk ls (i + 1) ms
abbrev brV (i : Int) (v : Value) : Value := .agg #[.int .i64 i, v]
/-- What Breach returns. -/
def BrP (ls : List Ld) (ms : List Li) (w : World) (e : Ending) (w' : World) : Prop :=
  (bothN ls ms ≠ 0 ∧ e = .returned (.tuple #[brV 0 (.slice none 0 0), .int .i64 (bothN ls ms)]) ∧ Below w.heap.size w w') ∨
  (bothN ls ms = 0 ∧ brk ls 0 ms = -1 ∧ e = .returned (.tuple #[brV 0 (.slice none 0 0), .int .i64 6]) ∧ Below w.heap.size w w') ∨
  (bothN ls ms = 0 ∧ ∃ (k : Nat) (x : Li) (u : Value), ms[k]? = some x ∧ brk ls 0 ms = k ∧ e = .returned (.tuple #[brV k u, .int .i64 0]) ∧ SlPu w' u (ls.map (worstP x.a x.b)) ∧ Below w.heap.size w w')
def BrHead (ls : List Ld) (ms : List Li) (w wr : World) (v : Value) : Prop := ∃ k : Nat, k ≤ ms.length ∧ v = .int .i64 k ∧ brk ls 0 ms = brk ls k (ms.drop k) ∧ Below w.heap.size w wr ∧ BoxV wr w.heap.size (.int .i64 0) (.slice none 0 0)
theorem limits_ok {ms : List Li} (h : ms.all Li.ok = true) {x : Li} (hx : x ∈ ms) : ScB x.a x.b ∧ -1000000000000000000 ≤ x.c ∧ x.c ≤ 1000000000000000000 := Li.bound (List.all_eq_true.1 h x hx)
set_option maxRecDepth 100000 in
set_option maxHeartbeats 8000000 in
theorem breach_any (v u : Value) (ls : List Ld) (ms : List Li) (w : World) (hv : SlLd w v ls) (hu : SlLi w u ms) : Calls Try.prog 28 #[v, u] w (BrP ls ms w) := by
  obtain ⟨ad, cap, rfl, hlen, hcap⟩ := hu.form
  have HV := Lib.hid hv
  have HU := Lib.hid hu
  obtain ⟨n, hn⟩ : ∃ n, bothN ls ms = n := ⟨_, rfl⟩
  have HN := Lib.hid hn
  have hmf := makeFunc_run
  clear hv hu
  by_cases h0 : n = 0
  rotate_left 1
  · clear hn hmf
    go_enter Try.func28, Try.ntmps28
    go_wp2_with fail
    refine (checkBoth_any v _ ls ms _ (ldLater HV.out (by go_grown)) (liLater HU.out (by go_grown))).mono ?_
    rintro e w1 ⟨rfl, hb1⟩
    rw [HN.out]
    have hB1 : Below w.heap.size w w1 := (after (w := w) (by go_grown) hb1).1
    obtain ⟨r0, r1, f0, f1⟩ := show BoxV w1 w.heap.size (.int .i64 0) (.slice none 0 0) from BoxV.later ⟨by go_cell, by go_cell, by go_cell, by go_cell⟩ hb1
    clear hb1
    go_wp2_with fail
    refine bodyPost_ret (v := .tuple #[brV 0 (.slice none 0 0), .int .i64 n]) (by simp [results, Try.results28, go_sem, *]) rfl (.inl ⟨by rw [HN.out]; exact h0, ?_, by go_grown⟩)
    rw [HN.out]
  subst h0
  obtain ⟨h40, hok, h12, hmok⟩ := bothN_ok hn
  have HL := Lib.hid (loads_bound hok)
  have HMo := Lib.hid hmok
  clear hn hok hmok
  go_enter Try.func28, Try.ntmps28
  go_wp2_with fail
  refine (checkBoth_any v _ ls ms _ (ldLater HV.out (by go_grown)) (liLater HU.out (by go_grown))).mono ?_
  rintro e w1 ⟨rfl, hb1⟩
  rw [HN.out]
  have hB1 : Below w.heap.size w w1 := (after (w := w) (by go_grown) hb1).1
  have R1 := Lib.hid (show BoxV w1 w.heap.size (.int .i64 0) (.slice none 0 0) from BoxV.later ⟨by go_cell, by go_cell, by go_cell, by go_cell⟩ hb1)
  clear hb1
  go_wp2_with fail
  go_loopw [19] (fun v19 wr => BrHead ls ms w wr v19) (fun v19 _ => ms.length - (intOf v19).toNat)
  case atStart => exact ⟨0, by omega, rfl, rfl, hB1, R1.out⟩
  case round =>
    obtain ⟨k, hk, rfl, he, hbr, hr⟩ := hrel
    have HE := Lib.hid he
    have HR := Lib.hid hr
    clear he hr R1 hB1
    by_cases hlt : k < ms.length
    rotate_left 1
    · have he := HE.out
      rw [drop_none hlt] at he
      have HF := Lib.hid (show brk ls 0 ms = -1 from he)
      obtain ⟨r0, r1, f0, f1⟩ := HR.out
      have z0 := HR.out.lt
      clear he
      go_wp2_with fail
      exact bodyPost_ret (v := .tuple #[brV 0 (.slice none 0 0), .int .i64 6]) (by simp [results, Try.results28, go_sem, *]) rfl (.inr (.inl ⟨HN.out, HF.out, rfl, by go_grown⟩))
    obtain ⟨bk, off, x, rfl, hb, hc, hat⟩ := HU.out.at hlt
    obtain ⟨c0, c1, c2⟩ := LiAt.later hat (show Below w.heap.size w wr from hbr)
    have hlt' : (k : Int) < (ms.length : Int) := by omega
    have hk0 : (0 : Int) ≤ (k : Int) := by omega
    have HC := Lib.hid hc
    have HS := Lib.hid (limits_ok HMo.out (List.mem_of_getElem? hc)).1
    have hsz := hbr.size
    obtain ⟨M, hM⟩ : ∃ M, mostL x.a x.b ls = M := ⟨_, rfl⟩
    have HM := Lib.hid hM
    clear hc hat hM
    go_wp2_with fail
    refine (scaleOf_any x _).mono ?_
    rintro e w1 ⟨rfl, hb1⟩
    have hb11 : Below wr.heap.size wr w1 := two (W := wr) (by go_grown) hb1
    have K1 := Lib.hid (show Three w1 wr.heap.size x.a x.b x.c from Three.later ⟨by go_cell, by go_cell, by go_cell⟩ hb1)
    replace HR := Lib.hid (HR.out.later hb11)
    have hB1 := hbr.trans (hb11.mono hbr.size)
    have hs1 := hB1.size
    clear hb1 hb11 c0 c1 c2
    have z1 := HR.out.lt
    by_cases hgt : x.c < M
    · have HG := Lib.hid hgt
      go_wp2_with fail
      obtain ⟨W1, hW⟩ : ∃ W, w1.alloc (.cells #[.int .i64 x.a, .int .i64 x.b] 117) = W := ⟨_, rfl⟩
      have K2 := Lib.hid (show Two2 W1 w1.heap.size x.a x.b by subst hW; exact ⟨by go_cell, by go_cell⟩)
      have hbW : Below w1.heap.size w1 W1 := by subst hW; go_grown
      replace K1 := Lib.hid (K1.out.later hbW)
      have HRW := Lib.hid (HR.out.later hbW)
      have hBW := hB1.trans (hbW.mono hB1.size)
      have HVW := Lib.hid (ldLater HV.out hBW)
      rw [hW]
      clear hW hbW
      obtain ⟨s0, s1⟩ := show Two2 W1 w1.heap.size x.a x.b from K2.out
      obtain ⟨x0, x1, x2⟩ := K1.out
      have hA : Below W1.heap.size W1 W1 := Below.refl _ _
      go_region_held3 (fun w' => w'.cell? ⟨w1.heap.size, 0, none⟩ = some (.int .i64 x.a) ∧ w'.cell? ⟨w1.heap.size, 1, none⟩ = some (.int .i64 x.b) ∧ w'.cell? ⟨wr.heap.size, 0, none⟩ = some (.int .i64 x.a) ∧ w'.cell? ⟨wr.heap.size, 1, none⟩ = some (.int .i64 x.b) ∧ w'.cell? ⟨wr.heap.size, 2, none⟩ = some (.int .i64 x.c))
        (first | (go_split_ands; (repeat' apply And.intro) <;> first | assumption | exact cell_later hb (by assumption)) | go_keep)
        (first
          | (go_at_call 72; refine (most_any x.a x.b v ls _ (ldLater HVW.out (by first | exact hA | exact hA.drew)) (by omega) HS.out HL.out).mono ?_; rintro e wx ⟨rfl, hb⟩; rw [HM.out]; have hA : Below W1.heap.size W1 wx := (by first | exact chain hA hb | exact chainD hA hb)))
      go_wp2_with fail
      refine (choose_q x.a x.b v ls _ (ldLater HVW.out (by first | exact hA | exact hA.drew)) (by omega) HS.out HL.out).mono ?_
      rintro e w4 ⟨g, hgn, rfl, hg, hb4⟩
      have hA4 := two hA hb4
      have hgb : g ≠ w.heap.size := by
        have hq : W1.heap.size ≤ g := by first | exact Nat.le_trans hA.size hgn | (simp at hgn; omega)
        have q1 := hBW.size
        have q2 := HRW.out.lt
        omega
      have hB4 := hBW.trans (hA4.mono hBW.size)
      obtain ⟨r0, r1, f0, f1⟩ := HRW.out.later hA4
      have z4 := (HRW.out.later hA4).lt
      have HGp := Lib.hid hg
      have HF := Lib.hid (show brk ls 0 ms = k by rw [HE.out, drop_some HC.out, brk, HM.out, if_pos HG.out])
      clear hb4 hA4 hA s0 s1 x0 x1 x2 hg hBW z1
      go_wp2_with fail
      exact bodyPost_ret (v := .tuple #[brV k (.slice (some ⟨g, 0, none⟩) ls.length ls.length), .int .i64 0]) (by simp [results, Try.results28, go_sem, *]) rfl (.inr (.inr ⟨HN.out, k, x, _, HC.out, HF.out, rfl, (HGp.out.far hgb _).far hgb _, by go_grown⟩))
    · have hgt' : ¬ x.c < M := hgt
      have HG := Lib.hid (show M ≤ x.c by omega)
      go_wp2_with fail
      obtain ⟨W1, hW⟩ : ∃ W, w1.alloc (.cells #[.int .i64 x.a, .int .i64 x.b] 117) = W := ⟨_, rfl⟩
      have K2 := Lib.hid (show Two2 W1 w1.heap.size x.a x.b by subst hW; exact ⟨by go_cell, by go_cell⟩)
      have hbW : Below w1.heap.size w1 W1 := by subst hW; go_grown
      replace K1 := Lib.hid (K1.out.later hbW)
      have HRW := Lib.hid (HR.out.later hbW)
      have hBW := hB1.trans (hbW.mono hB1.size)
      have HVW := Lib.hid (ldLater HV.out hBW)
      rw [hW]
      clear hW hbW
      obtain ⟨s0, s1⟩ := show Two2 W1 w1.heap.size x.a x.b from K2.out
      obtain ⟨x0, x1, x2⟩ := K1.out
      have hA : Below W1.heap.size W1 W1 := Below.refl _ _
      go_region_held3 (fun w' => w'.cell? ⟨w1.heap.size, 0, none⟩ = some (.int .i64 x.a) ∧ w'.cell? ⟨w1.heap.size, 1, none⟩ = some (.int .i64 x.b) ∧ w'.cell? ⟨wr.heap.size, 0, none⟩ = some (.int .i64 x.a) ∧ w'.cell? ⟨wr.heap.size, 1, none⟩ = some (.int .i64 x.b) ∧ w'.cell? ⟨wr.heap.size, 2, none⟩ = some (.int .i64 x.c))
        (first | (go_split_ands; (repeat' apply And.intro) <;> first | assumption | exact cell_later hb (by assumption)) | go_keep)
        (first
          | (go_at_call 72; refine (most_any x.a x.b v ls _ (ldLater HVW.out (by first | exact hA | exact hA.drew)) (by omega) HS.out HL.out).mono ?_; rintro e wx ⟨rfl, hb⟩; rw [HM.out]; have hA : Below W1.heap.size W1 wx := (by first | exact chain hA hb | exact chainD hA hb)))
      go_wp2_with fail
      have hB4 := hBW.trans (hA.mono hBW.size)
      go_roundw
      case rel => exact ⟨k + 1, by omega, by go_num, by rw [HE.out, drop_some HC.out, brk, HM.out, if_neg (by have := HG.out; omega)], by go_grown, HRW.out.later hA⟩
      case measure => simp [intOf]; omega
end Go.Proofs.Ytldnpnplgfkebaa
