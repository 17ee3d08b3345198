/- Package gas: extremes and reach, of the closure gas.blow$1$1. (Written by wip/genreach.py.) -/
import Derived.Test.YtpedmjjkhcigkaaGBox
namespace Go.Proofs.Ytpedmjjkhcigkaa
open Go.RowKit

/-- What the closure gives at some moments. -/
def GivesBlow (O Y : Nat) (R : Mo → Int × Int) (ms : List Mo) (w : World) : Prop := ∀ x, x ∈ ms → ∀ w', Below w.heap.size w w' →
  Calls Try.prog 133 #[mv x.1 x.2.1 x.2.2, .pointer (some ⟨O, 0, none⟩), .pointer (some ⟨Y, 0, none⟩)] w' fun e w'' => e = .returned (sp (R x).1 (R x).2) ∧ Below w'.heap.size w' w''
theorem GivesBlow.later {O Y : Nat} {R : Mo → Int × Int} {ms : List Mo} {w w1 : World} (h : GivesBlow O Y R ms w) (hb : Below w.heap.size w w1) : GivesBlow O Y R ms w1 := fun x hx w' hb' => h x hx w' (hb.trans (hb'.mono hb.size))

set_option maxHeartbeats 4000000 in
set_option maxRecDepth 100000 in
theorem extremes_Blow (O Y : Nat) (R : Mo → Int × Int) (p t u : Int) (ms : List Mo) (b off : Nat) (w : World) (hm : moCells w b off ms) (hlen : ms.length ≤ 100) (hb : b < w.heap.size)
    (hg : GivesBlow O Y R ((p, t, u) :: ms) w) (hx : Fairs R ((p, t, u) :: ms)) :
    Calls Try.prog 130 #[.func (.func 133) #[] #[.pointer (some ⟨O, 0, none⟩), .pointer (some ⟨Y, 0, none⟩)], mv p t u, .slice (some ⟨b, off, none⟩) ms.length ms.length] w fun e w' =>
      e = .returned (.tuple #[sp (exOf R (p, t, u) ms).1.1 (exOf R (p, t, u) ms).1.2, sp (exOf R (p, t, u) ms).2.1 (exOf R (p, t, u) ms).2.2]) ∧ Below w.heap.size w w' := by
  obtain ⟨E, hE⟩ : ∃ x, exOf R (p, t, u) ms = x := ⟨_, rfl⟩
  obtain ⟨⟨z1, z2⟩, z3, z4⟩ := E
  rw [hE]
  have HE := Lib.hid hE
  have HG := Lib.hid hg
  have HM := Lib.hid hm
  have HX := Lib.hid hx
  clear hg hm hx hE
  go_enter Try.func130, Try.ntmps130
  go_wp2_with fail
  refine (HG.out (p, t, u) (List.mem_cons_self ..) _ (by go_grown)).mono ?_
  rintro e w1 ⟨rfl, hb1⟩
  obtain ⟨r0, hr0⟩ : ∃ x, R (p, t, u) = x := ⟨_, rfl⟩
  obtain ⟨x, y⟩ := r0
  rw [hr0]
  have HR0 := Lib.hid hr0
  clear hr0
  have hB1 : Below w.heap.size w w1 := (after (w := w) (by go_grown) hb1).1
  have nl : Box2 w1 (w.heap.size + 1) 0 0 := Box2.later ⟨by go_cell, by go_cell, by go_cell, by go_cell⟩ hb1
  have ng : Box2 w1 (w.heap.size + 1 + 1) 0 0 := Box2.later ⟨by go_cell, by go_cell, by go_cell, by go_cell⟩ hb1
  clear hb1
  obtain ⟨l0, l1, lf0, lf1⟩ := nl
  obtain ⟨g0, g1, gf0, gf1⟩ := ng
  go_wp2_with fail
  go_loopw [17] (fun v17 wr => ExHead R (p, t, u) ms w wr v17) (fun v17 _ => ms.length - (intOf v17).toNat)
  case atStart =>
    exact ⟨0, x, y, x, y, by omega, rfl, by unfold accOf; simp [HR0.out], by go_grown, ⟨by go_cell, by go_cell, by go_cell, by go_cell⟩, ⟨by go_cell, by go_cell, by go_cell, by go_cell⟩⟩
  case round =>
    clear l0 l1 lf0 lf1 g0 g1 gf0 gf1 hB1 HR0
    obtain ⟨k, l, l', g, g', hk, rfl, hacc, hbr, hl, hgr⟩ := hrel
    have hzl := hl.lt
    have hzg := hgr.lt
    by_cases hlt : k < ms.length
    · obtain ⟨pk, hpk⟩ : ∃ x, ms[k]? = some x := ⟨_, List.getElem?_eq_getElem hlt⟩
      obtain ⟨p', t', u'⟩ := pk
      have hmem : (p', t', u') ∈ (p, t, u) :: ms := List.mem_cons_of_mem _ (List.mem_of_getElem? hpk)
      obtain ⟨e0, e1, e2⟩ := HM.out k _ _ _ hpk
      have hbl : ∀ o, wr.cell? ⟨b, o, none⟩ = w.cell? ⟨b, o, none⟩ := fun o => hbr.cell (by simpa using hb)
      rw [← hbl] at e0 e1 e2
      clear hbl
      have HA := Lib.hid hacc
      have HL := Lib.hid hl
      have HGr := Lib.hid hgr
      have HK := Lib.hid hpk
      have HB := Lib.hid hbr
      have HMem := Lib.hid hmem
      have hlt' : (k : Int) < (ms.length : Int) := by omega
      have hk0 : (0 : Int) ≤ (k : Int) := by omega
      have hbz : b < wr.heap.size := by have := hbr.size; omega
      clear hacc hl hgr hpk hbr hmem
      go_wp2_with fail
      refine (HG.out (p', t', u') HMem.out _ (by have := HB.out; go_grown)).mono ?_
      rintro e w1 ⟨rfl, hb1⟩
      obtain ⟨r0, hr0⟩ : ∃ x, R (p', t', u') = x := ⟨_, rfl⟩
      obtain ⟨x, y⟩ := r0
      rw [hr0]
      have HR := Lib.hid hr0
      have hbb1 : Below wr.heap.size wr w1 := two (by go_grown) hb1
      obtain ⟨fa, fb, fc, fd⟩ := HX.out.acc HA.out HMem.out hr0
      have FA := Lib.hid fa
      have FB := Lib.hid fb
      have FC := Lib.hid fc
      have FD := Lib.hid fd
      have HL1 := Lib.hid (HL.out.later hbb1)
      have HG1 := Lib.hid (HGr.out.later hbb1)
      have HB1 := Lib.hid (HB.out.trans (hbb1.mono HB.out.size))
      clear hb1 hr0 hbb1 fa fb fc fd e0 e1 e2 HL HGr HB
      obtain ⟨l0, l1, lf0, lf1⟩ := HL1.out
      obtain ⟨g0, g1, gf0, gf1⟩ := HG1.out
      have q1 := HL1.out.lt
      have q2 := HG1.out.lt
      clear hzl hzg hbz
      go_wp2_with fail
      refine (less_any x y l l' _ FA.out FB.out).mono ?_
      rintro e w2 ⟨rfl, hb2⟩
      have hbb2 : Below w1.heap.size w1 w2 := two (by go_grown) hb2
      have hr2 : Box2 w2 w1.heap.size x y := Box2.later ⟨by go_cell, by go_cell, by go_cell, by go_cell⟩ hb2
      have HL2 := Lib.hid (HL1.out.later hbb2)
      have HG2 := Lib.hid (HG1.out.later hbb2)
      have HB2 := Lib.hid (HB1.out.trans (hbb2.mono HB1.out.size))
      have q3 : w.heap.size + 1 ≠ w1.heap.size := by omega
      have q4 : w.heap.size + 1 + 1 ≠ w1.heap.size := by omega
      clear hb2 hbb2 l0 l1 lf0 lf1 g0 g1 gf0 gf1 HL1 HG1 HB1 q1 q2
      obtain ⟨l0, l1, lf0, lf1⟩ := HL2.out
      obtain ⟨g0, g1, gf0, gf1⟩ := HG2.out
      obtain ⟨r0, r1, rf0, rf1⟩ := hr2
      have q1 := HL2.out.lt
      have q2 := HG2.out.lt
      have q5 := World.block_lt_of_cell? _ _ r0
      clear HL2 HG2
      by_cases hlt2 : x * l' < l * y
      · rw [show decide (x * l' < l * y) = true by simpa using hlt2]
        have HLt := Lib.hid hlt2
        clear hlt2
        go_wp2_with fail
        refine (less_any g g' x y _ FC.out FD.out).mono ?_
        rintro e w3 ⟨rfl, hb3⟩
        have HL2 := Lib.hid (show Box2 w3 (w.heap.size + 1) x y from Box2.later ⟨by go_cell, by go_cell, by go_cell, by go_cell⟩ hb3)
        have HG2 := Lib.hid (show Box2 w3 (w.heap.size + 1 + 1) g g' from Box2.later ⟨by go_cell, by go_cell, by go_cell, by go_cell⟩ hb3)
        have HR2 := Lib.hid (show Box2 w3 w1.heap.size x y from Box2.later ⟨by go_cell, by go_cell, by go_cell, by go_cell⟩ hb3)
        have hB3 : Below w.heap.size w w3 := (after (w := w) (by have := HB2.out; go_grown) hb3).1
        clear hb3 l0 l1 lf0 lf1 g0 g1 gf0 gf1 r0 r1
        obtain ⟨l0, l1, lf0, lf1⟩ := HL2.out
        obtain ⟨g0, g1, gf0, gf1⟩ := HG2.out
        obtain ⟨r0, r1, rf0, rf1⟩ := HR2.out
        clear HR2
        have q1 := HL2.out.lt
        have q2 := HG2.out.lt
        by_cases hgt : g * y < x * g'
        · rw [show decide (g * y < x * g') = true by simpa using hgt]
          have HGt := Lib.hid hgt
          clear hgt
          go_wp2_with fail
          go_roundw
          case rel => exact ⟨k + 1, x, y, x, y, by omega, by go_num, (acc_step HA.out HK.out HR.out).trans (by rw [if_pos (by have := HLt.out; omega), if_pos (by have := HGt.out; omega)]), by go_grown, ⟨by go_cell, by go_cell, by go_cell, by go_cell⟩, ⟨by go_cell, by go_cell, by go_cell, by go_cell⟩⟩
          case measure => simp [intOf]; omega
        · rw [show decide (g * y < x * g') = false by simpa using hgt]
          have HGt := Lib.hid hgt
          clear hgt
          go_wp2_with fail
          go_roundw
          case rel => exact ⟨k + 1, x, y, g, g', by omega, by go_num, (acc_step HA.out HK.out HR.out).trans (by rw [if_pos (by have := HLt.out; omega), if_neg (by have := HGt.out; omega)]), by go_grown, ⟨by go_cell, by go_cell, by go_cell, by go_cell⟩, ⟨by go_cell, by go_cell, by go_cell, by go_cell⟩⟩
          case measure => simp [intOf]; omega
      · rw [show decide (x * l' < l * y) = false by simpa using hlt2]
        have HLt := Lib.hid hlt2
        clear hlt2
        go_wp2_with fail
        refine (less_any g g' x y _ FC.out FD.out).mono ?_
        rintro e w3 ⟨rfl, hb3⟩
        have HL2 := Lib.hid (show Box2 w3 (w.heap.size + 1) l l' from Box2.later ⟨by go_cell, by go_cell, by go_cell, by go_cell⟩ hb3)
        have HG2 := Lib.hid (show Box2 w3 (w.heap.size + 1 + 1) g g' from Box2.later ⟨by go_cell, by go_cell, by go_cell, by go_cell⟩ hb3)
        have HR2 := Lib.hid (show Box2 w3 w1.heap.size x y from Box2.later ⟨by go_cell, by go_cell, by go_cell, by go_cell⟩ hb3)
        have hB3 : Below w.heap.size w w3 := (after (w := w) (by have := HB2.out; go_grown) hb3).1
        clear hb3 l0 l1 lf0 lf1 g0 g1 gf0 gf1 r0 r1
        obtain ⟨l0, l1, lf0, lf1⟩ := HL2.out
        obtain ⟨g0, g1, gf0, gf1⟩ := HG2.out
        obtain ⟨r0, r1, rf0, rf1⟩ := HR2.out
        clear HR2
        have q1 := HL2.out.lt
        have q2 := HG2.out.lt
        by_cases hgt : g * y < x * g'
        · rw [show decide (g * y < x * g') = true by simpa using hgt]
          have HGt := Lib.hid hgt
          clear hgt
          go_wp2_with fail
          go_roundw
          case rel => exact ⟨k + 1, l, l', x, y, by omega, by go_num, (acc_step HA.out HK.out HR.out).trans (by rw [if_neg (by have := HLt.out; omega), if_pos (by have := HGt.out; omega)]), by go_grown, ⟨by go_cell, by go_cell, by go_cell, by go_cell⟩, ⟨by go_cell, by go_cell, by go_cell, by go_cell⟩⟩
          case measure => simp [intOf]; omega
        · rw [show decide (g * y < x * g') = false by simpa using hgt]
          have HGt := Lib.hid hgt
          clear hgt
          go_wp2_with fail
          go_roundw
          case rel => exact ⟨k + 1, l, l', g, g', by omega, by go_num, (acc_step HA.out HK.out HR.out).trans (by rw [if_neg (by have := HLt.out; omega), if_neg (by have := HGt.out; omega)]), by go_grown, ⟨by go_cell, by go_cell, by go_cell, by go_cell⟩, ⟨by go_cell, by go_cell, by go_cell, by go_cell⟩⟩
          case measure => simp [intOf]; omega
    · have hE2 := (acc_full (R := R) (m := (p, t, u)) (ms := ms) (k := k) (by omega)).symm.trans hacc
      rw [HE.out] at hE2
      simp only [Prod.mk.injEq] at hE2
      obtain ⟨⟨rfl, rfl⟩, rfl, rfl⟩ := hE2
      obtain rfl : k = ms.length := by omega
      obtain ⟨l0, l1, lf0, lf1⟩ := hl
      obtain ⟨g0, g1, gf0, gf1⟩ := hgr
      clear hacc
      go_wp2_with fail
      go_region
      all_goals go_wp2_with fail
      all_goals exact bodyPost_ret (v := .tuple #[sp z1 z2, sp z3 z4]) (by simp [results, Try.results130, go_sem, *]) rfl ⟨rfl, by go_grown⟩

set_option maxHeartbeats 8000000 in
set_option maxRecDepth 100000 in
theorem reach_Blow (O Y : Nat) (R : Mo → Int × Int) (p0 p1 t0 t1 u0 u1 : Int) (w : World)
    (hg : GivesBlow O Y R ((p0, t0, u0) :: mos p0 p1 t0 t1 u0 u1) w) (hx : Fairs R ((p0, t0, u0) :: mos p0 p1 t0 t1 u0 u1)) :
    Calls Try.prog 83 #[.func (.func 133) #[] #[.pointer (some ⟨O, 0, none⟩), .pointer (some ⟨Y, 0, none⟩)], airV p0 p1 t0 t1, sp u0 u1] w fun e w' =>
      e = .returned (.tuple #[sp (exOf R (p0, t0, u0) (mos p0 p1 t0 t1 u0 u1)).1.1 (exOf R (p0, t0, u0) (mos p0 p1 t0 t1 u0 u1)).1.2, sp (exOf R (p0, t0, u0) (mos p0 p1 t0 t1 u0 u1)).2.1 (exOf R (p0, t0, u0) (mos p0 p1 t0 t1 u0 u1)).2.2]) ∧ Below w.heap.size w w' := by
  obtain ⟨E, hE⟩ : ∃ x, exOf R (p0, t0, u0) (mos p0 p1 t0 t1 u0 u1) = x := ⟨_, rfl⟩
  obtain ⟨⟨z1, z2⟩, z3, z4⟩ := E
  rw [hE]
  have HE := Lib.hid hE
  have HG := Lib.hid hg
  have HX := Lib.hid hx
  clear hg hx hE
  go_enter Try.func83, Try.ntmps83
  go_wp2_with fail
  go_cut [8, 9, 10] from 11 to 15 (fun v8 v9 v10 wy => Spans3 w wy v8 v9 v10 p0 p1 t0 t1 u0 u1)
  case first =>
    go_region
    all_goals go_wp2_with fail
    all_goals (go_meet; case rel => exact ⟨_, _, _, rfl, rfl, rfl, by go_grown, by go_cell, by go_cell, by go_cell, by go_cell, by go_cell, by go_cell, ⟨by go_cell, by go_cell, by go_cell, by go_cell⟩, ⟨by go_cell, by go_cell, by go_cell, by go_cell⟩⟩)
  case rest =>
    obtain ⟨n8, n9, n10, rfl, rfl, rfl, hB, a0, a1, b0, b1, c0, c1, hl, hg⟩ := hcut
    generalize wc = wr at *
    have q1 := World.block_lt_of_cell? _ _ a0
    have q2 := World.block_lt_of_cell? _ _ b0
    have q3 := World.block_lt_of_cell? _ _ c0
    have HL := Lib.hid hl
    have HGt := Lib.hid hg
    have HB := Lib.hid hB
    clear hl hg
    have hsz := hB.size
    go_wp2_with fail
    have hgs := HG.out.later (show Below w.heap.size w (wr.alloc (.cells #[.int .i64 p0, .int .i64 t0, .int .i64 u1, .int .i64 p0, .int .i64 t1, .int .i64 u0, .int .i64 p0, .int .i64 t1, .int .i64 u1, .int .i64 p1, .int .i64 t0, .int .i64 u0, .int .i64 p1, .int .i64 t0, .int .i64 u1, .int .i64 p1, .int .i64 t1, .int .i64 u0, .int .i64 p1, .int .i64 t1, .int .i64 u1] 141)) by go_grown)
    refine (extremes_Blow O Y R p0 t0 u0 (mos p0 p1 t0 t1 u0 u1) _ 0 _ ?_ (by simp [mos]) (by simp) hgs HX.out).mono ?_
    · exact moCells_cons (by go_cell) (by go_cell) (by go_cell) (moCells_cons (by go_cell) (by go_cell) (by go_cell) (moCells_cons (by go_cell) (by go_cell) (by go_cell) (moCells_cons (by go_cell) (by go_cell) (by go_cell) (moCells_cons (by go_cell) (by go_cell) (by go_cell) (moCells_cons (by go_cell) (by go_cell) (by go_cell) (moCells_cons (by go_cell) (by go_cell) (by go_cell) (moCells_nil _ _ _)))))))
    rintro e w1 ⟨rfl, hb1⟩
    rw [HE.out]
    have hb2 : Below wr.heap.size wr w1 := two (by go_grown) hb1
    have hB2 : Below w.heap.size w w1 := HB.out.trans (hb2.mono HB.out.size)
    obtain ⟨l0, l1, lf0, lf1⟩ := HL.out.later hb2
    obtain ⟨g0, g1, gf0, gf1⟩ := HGt.out.later hb2
    clear a0 a1 b0 b1 c0 c1 hb1 hb2 hB hgs
    go_wp2_with fail
    exact bodyPost_ret (v := .tuple #[sp z1 z2, sp z3 z4]) (by simp [results, Try.results83, go_sem, *]) rfl ⟨rfl, by go_grown⟩
end Go.Proofs.Ytpedmjjkhcigkaa
