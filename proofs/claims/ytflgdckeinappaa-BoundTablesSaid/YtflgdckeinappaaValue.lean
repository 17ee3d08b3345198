/- Value: the walk. -/
import Derived.Test.YtflgdckeinappaaCheckTable
import Derived.Test.YtflgdckeinappaaTail
import Derived.Test.YtflgdckeinappaaCells
import Derived.Test.YtflgdckeinappaaRatios
namespace Go.Proofs.Ytflgdckeinappaa
open Go.RowKit

/-- checkBoth. -/
def bothN (ks : List (Int × Int × Int)) (lo hi : Int) : Int := if tableB ks then checkN lo hi else 13
set_option maxHeartbeats 400000 in
theorem checkBoth_any (v : Value) (ks : List (Int × Int × Int)) (lo hi : Int) (w : World) (hs : SlK w v ks) :
    Calls Try.prog 74 #[v, sp lo hi] w fun e w' => e = .returned (.int .i64 (bothN ks lo hi)) ∧ Below w.heap.size w w' := by
  have HS := Lib.hid hs
  clear hs
  go_enter Try.func74, Try.ntmps74
  go_wp2_with fail
  refine (checkTable_any _ _ _ (HS.out.later (below_box _ _))).mono ?_
  rintro e w1 ⟨rfl, hb1⟩
  obtain ⟨hB, hc, hf⟩ := after (w := w) (by go_grown) hb1
  by_cases ht : tableB ks = true
  · rw [tabN_yes ht]
    go_wp2_with fail
    refine (check_any _ _ _).mono ?_
    rintro e w2 ⟨rfl, hb2⟩
    clear hc hf hB
    obtain ⟨hB, hc, hf⟩ := after (w := w) (by go_grown) (two hb1 hb2)
    go_wp2_with fail
    go_returns
    exact ⟨ret_int (by unfold bothN; rw [if_pos ht]), hB⟩
  · rw [tabN_no (by simpa using ht)]
    go_wp2_with fail
    go_returns
    exact ⟨ret_int (by unfold bothN; rw [if_neg ht]), hB⟩

/-- One round of Value, over knots i and i + 1. -/
def segV (ks : List (Int × Int × Int)) (lo hi : Int) (i : Nat) (v : Int × Int) : Int × Int :=
  let p := ks.getD i (0, 0, 0)
  let q := ks.getD (i + 1) (0, 0, 0)
  if min hi q.1 < max lo p.1 then v else
    (min v.1 (min (dn p.1 p.2.1 q.1 q.2.1 (max lo p.1)) (dn p.1 p.2.1 q.1 q.2.1 (min hi q.1))), max v.2 (max (upw p.1 p.2.2 q.1 q.2.2 (max lo p.1)) (upw p.1 p.2.2 q.1 q.2.2 (min hi q.1))))
theorem segV_is {ks : List (Int × Int × Int)} {lo hi : Int} {i : Nat} {v : Int × Int} {pa pl ph qa ql qh : Int} (hp : ks[i]? = some (pa, pl, ph)) (hq : ks[i + 1]? = some (qa, ql, qh)) :
    segV ks lo hi i v = if min hi qa < max lo pa then v else (min v.1 (min (dn pa pl qa ql (max lo pa)) (dn pa pl qa ql (min hi qa))), max v.2 (max (upw pa ph qa qh (max lo pa)) (upw pa ph qa qh (min hi qa)))) := by
  unfold segV; rw [getD_is hp, getD_is hq]
def accV (ks : List (Int × Int × Int)) (lo hi : Int) : Nat → Int × Int
  | 0 => (1073741824, -1073741824)
  | i + 1 => segV ks lo hi i (accV ks lo hi i)

/-- What the loop keeps: the box of x at B, the result's at B + 1, v's at C. -/
structure VW (B C : Nat) (w wr : World) (lo hi vl vh : Int) : Prop where
  below : Below B w wr
  bc : B + 1 < C
  size : C < wr.heap.size
  x0 : wr.cell? ⟨B, 0, none⟩ = some (.int .i64 lo)
  x1 : wr.cell? ⟨B, 1, none⟩ = some (.int .i64 hi)
  r0 : wr.cell? ⟨B + 1, 0, none⟩ = some (.int .i64 0)
  r1 : wr.cell? ⟨B + 1, 1, none⟩ = some (.int .i64 0)
  rf0 : wr.frozen? ⟨B + 1, 0, none⟩ = false
  rf1 : wr.frozen? ⟨B + 1, 1, none⟩ = false
  v0 : wr.cell? ⟨C, 0, none⟩ = some (.int .i64 vl)
  v1 : wr.cell? ⟨C, 1, none⟩ = some (.int .i64 vh)
  vf0 : wr.frozen? ⟨C, 0, none⟩ = false
  vf1 : wr.frozen? ⟨C, 1, none⟩ = false

theorem okAt_of {ks : List (Int × Int × Int)} {j : Nat} (h : tableB ks = true) (hj : j < ks.length) : okAt ks j = true := by
  unfold tableB at h
  rw [Bool.and_eq_true, Bool.and_eq_true] at h
  exact List.all_eq_true.1 h.2.2 j (List.mem_range.2 hj)
theorem knot_ok {a l h : Int} (k : knotOK (a, l, h) = true) : -1073741824 ≤ a ∧ a ≤ 1073741824 ∧ -1073741824 ≤ l ∧ l ≤ h ∧ h ≤ 1073741824 := by
  unfold knotOK beyondB at k
  simp at k
  omega
/-- Two knots that follow each other. -/
theorem seg_ok {ks : List (Int × Int × Int)} {k : Nat} {a l h a' l' h' : Int} (ht : tableB ks = true) (h1 : ks[k]? = some (a, l, h)) (h2 : ks[k + 1]? = some (a', l', h')) :
    (-1073741824 ≤ a ∧ a ≤ 1073741824 ∧ -1073741824 ≤ l ∧ l ≤ h ∧ h ≤ 1073741824) ∧ (-1073741824 ≤ a' ∧ a' ≤ 1073741824 ∧ -1073741824 ≤ l' ∧ l' ≤ h' ∧ h' ≤ 1073741824) ∧ a < a' := by
  have k1 := okAt_of ht (j := k) (List.getElem?_eq_some_iff.1 h1).1
  have k2 := okAt_of ht (j := k + 1) (List.getElem?_eq_some_iff.1 h2).1
  unfold okAt at k1 k2
  rw [Bool.and_eq_true, getD_is h1] at k1
  rw [Bool.and_eq_true, getD_is h2] at k2
  refine ⟨knot_ok k1.1, knot_ok k2.1, ?_⟩
  have := k2.2
  unfold atOf at this
  rw [Nat.add_sub_cancel, getD_is h1, getD_is h2] at this
  simpa using this

theorem VW.later {B C : Nat} {w wr w1 : World} {lo hi vl vh : Int} (h : VW B C w wr lo hi vl vh) (hb : Below wr.heap.size wr w1) : VW B C w w1 lo hi vl vh := by
  have hz := h.size
  have hz1 := hb.size
  have hbc := h.bc
  have F : ∀ bb o v, bb < wr.heap.size → wr.frozen? ⟨bb, o, none⟩ = v → w1.frozen? ⟨bb, o, none⟩ = v := fun bb o v hq e => by rw [(bcell hb).2 _ _ hq]; exact e
  exact ⟨h.below.trans (hb.mono (by omega)), h.bc, by omega, cell_later hb h.x0, cell_later hb h.x1, cell_later hb h.r0, cell_later hb h.r1, F (B + 1) 0 _ (by omega) h.rf0, F (B + 1) 1 _ (by omega) h.rf1, cell_later hb h.v0, cell_later hb h.v1, F C 0 _ (by omega) h.vf0, F C 1 _ (by omega) h.vf1⟩
/-- In a round: the boxes of the two knots besides, q's at D, p's at D + 1. -/
structure VX (B C D : Nat) (w wy : World) (lo hi vl vh pa pl ph qa ql qh : Int) : Prop where
  vw : VW B C w wy lo hi vl vh
  cd : C < D
  dsize : D + 1 < wy.heap.size
  q0 : wy.cell? ⟨D, 0, none⟩ = some (.int .i64 qa)
  q1 : wy.cell? ⟨D, 1, none⟩ = some (.int .i64 ql)
  q2 : wy.cell? ⟨D, 2, none⟩ = some (.int .i64 qh)
  p0 : wy.cell? ⟨D + 1, 0, none⟩ = some (.int .i64 pa)
  p1 : wy.cell? ⟨D + 1, 1, none⟩ = some (.int .i64 pl)
  p2 : wy.cell? ⟨D + 1, 2, none⟩ = some (.int .i64 ph)
theorem VX.later {B C D : Nat} {w wr w1 : World} {lo hi vl vh pa pl ph qa ql qh : Int} (h : VX B C D w wr lo hi vl vh pa pl ph qa ql qh) (hb : Below wr.heap.size wr w1) : VX B C D w w1 lo hi vl vh pa pl ph qa ql qh :=
  ⟨h.vw.later hb, h.cd, by have := hb.size; have := h.dsize; omega, cell_later hb h.q0, cell_later hb h.q1, cell_later hb h.q2, cell_later hb h.p0, cell_later hb h.p1, cell_later hb h.p2⟩
theorem VX.drew {B C D : Nat} {w wr : World} {lo hi vl vh pa pl ph qa ql qh : Int} (n : Nat) (h : VX B C D w wr lo hi vl vh pa pl ph qa ql qh) : VX B C D w (wr.drewN n) lo hi vl vh pa pl ph qa ql qh :=
  h.later (below_drewN (Below.refl _ _) n)

theorem VX.put0 {B C D : Nat} {w wr : World} {lo hi vl vh pa pl ph qa ql qh : Int} (h : VX B C D w wr lo hi vl vh pa pl ph qa ql qh) (n : Int) : VX B C D w (wr.setCell ⟨C, 0, none⟩ (.int .i64 n)) lo hi n vh pa pl ph qa ql qh := by
  obtain ⟨⟨a1, a2, a3, a4, a5, a6, a7, a8, a9, a10, a11, a12, a13⟩, b1, b2, b3, b4, b5, b6, b7, b8⟩ := h
  refine ⟨⟨?_, a2, ?_, ?_, ?_, ?_, ?_, ?_, ?_, ?_, ?_, ?_, ?_⟩, b1, ?_, ?_, ?_, ?_, ?_, ?_, ?_⟩
  · go_grown
  · simpa using a3
  all_goals first | go_cell | simpa using b2
theorem VX.put1 {B C D : Nat} {w wr : World} {lo hi vl vh pa pl ph qa ql qh : Int} (h : VX B C D w wr lo hi vl vh pa pl ph qa ql qh) (n : Int) : VX B C D w (wr.setCell ⟨C, 1, none⟩ (.int .i64 n)) lo hi vl n pa pl ph qa ql qh := by
  obtain ⟨⟨a1, a2, a3, a4, a5, a6, a7, a8, a9, a10, a11, a12, a13⟩, b1, b2, b3, b4, b5, b6, b7, b8⟩ := h
  refine ⟨⟨?_, a2, ?_, ?_, ?_, ?_, ?_, ?_, ?_, ?_, ?_, ?_, ?_⟩, b1, ?_, ?_, ?_, ?_, ?_, ?_, ?_⟩
  · go_grown
  · simpa using a3
  all_goals first | go_cell | simpa using b2

/-- What a region of the round keeps of the world wc in which it began. -/
def VS (C D : Nat) (wc w' : World) (vl vh pa pl ph qa ql qh : Int) : Prop :=
  (w'.cell? ⟨C, 0, none⟩ = some (.int .i64 vl) ∧ w'.cell? ⟨C, 1, none⟩ = some (.int .i64 vh) ∧ w'.cell? ⟨D, 0, none⟩ = some (.int .i64 qa) ∧ w'.cell? ⟨D, 1, none⟩ = some (.int .i64 ql) ∧ w'.cell? ⟨D, 2, none⟩ = some (.int .i64 qh) ∧
    w'.cell? ⟨D + 1, 0, none⟩ = some (.int .i64 pa) ∧ w'.cell? ⟨D + 1, 1, none⟩ = some (.int .i64 pl) ∧ w'.cell? ⟨D + 1, 2, none⟩ = some (.int .i64 ph)) ∧ Below wc.heap.size wc w'
theorem VX.vs {B C D : Nat} {w wc w' : World} {lo hi vl vh pa pl ph qa ql qh : Int} (h : VX B C D w wc lo hi vl vh pa pl ph qa ql qh) (hb : Below wc.heap.size wc w') : VS C D wc w' vl vh pa pl ph qa ql qh := by
  have k := h.later hb
  exact ⟨⟨k.vw.v0, k.vw.v1, k.q0, k.q1, k.q2, k.p0, k.p1, k.p2⟩, hb⟩

/-- The loop's head. -/
def VHead (ks : List (Int × Int × Int)) (B C : Nat) (w wr : World) (lo hi : Int) (v44 : Value) : Prop := ∃ k : Nat, k ≤ ks.length - 1 ∧ v44 = .int .i64 k ∧ VW B C w wr lo hi (accV ks lo hi k).1 (accV ks lo hi k).2

/-- The number of Value's error; its span. -/
def valueN (ks : List (Int × Int × Int)) (lo hi : Int) : Int :=
  if bothN ks lo hi = 0 then (if lo < atOf ks 0 ∨ atOf ks (ks.length - 1) < hi then 2 else 0) else bothN ks lo hi
def valueS (ks : List (Int × Int × Int)) (lo hi : Int) : Int × Int := if valueN ks lo hi = 0 then accV ks lo hi (ks.length - 1) else (0, 0)
def valueE (ks : List (Int × Int × Int)) (lo hi : Int) : Ending := .returned (.tuple #[sp (valueS ks lo hi).1 (valueS ks lo hi).2, .int .i64 (valueN ks lo hi)])
theorem valueE_bad {ks : List (Int × Int × Int)} {lo hi n : Int} (h : bothN ks lo hi = n) (hn : n ≠ 0) : Ending.returned (.tuple #[sp 0 0, .int .i64 n]) = valueE ks lo hi := by
  have e : valueN ks lo hi = n := by unfold valueN; rw [if_neg (by rw [h]; exact hn), h]
  unfold valueE valueS
  rw [e, if_neg hn]
theorem valueE_out {ks : List (Int × Int × Int)} {lo hi : Int} (h : bothN ks lo hi = 0) (k : lo < atOf ks 0 ∨ atOf ks (ks.length - 1) < hi) : Ending.returned (.tuple #[sp 0 0, .int .i64 2]) = valueE ks lo hi := by
  have e : valueN ks lo hi = 2 := by unfold valueN; rw [if_pos h, if_pos k]
  unfold valueE valueS
  rw [e, if_neg (by omega)]
theorem valueE_in {ks : List (Int × Int × Int)} {lo hi : Int} (h : bothN ks lo hi = 0) (k : ¬ (lo < atOf ks 0 ∨ atOf ks (ks.length - 1) < hi)) : Ending.returned (.tuple #[sp (accV ks lo hi (ks.length - 1)).1 (accV ks lo hi (ks.length - 1)).2, .int .i64 0]) = valueE ks lo hi := by
  have e : valueN ks lo hi = 0 := by unfold valueN; rw [if_pos h, if_neg k]
  unfold valueE valueS
  rw [e, if_pos rfl]

set_option linter.unusedSimpArgs false in
set_option maxHeartbeats 2000000 in
theorem value_any (v : Value) (ks : List (Int × Int × Int)) (lo hi : Int) (w : World) (hs : SlK w v ks) :
    Calls Try.prog 33 #[v, sp lo hi] w fun e w' => e = valueE ks lo hi ∧ Below w.heap.size w w' := by
  have HS := Lib.hid hs
  clear hs
  go_enter Try.func33, Try.ntmps33
  go_wp2_with fail
  refine (checkBoth_any _ ks _ _ _ (HS.out.later (((Below.refl _ _).alloc (by simp) _).alloc (by simp) _))).mono ?_
  rintro e w1 ⟨rfl, hb1⟩
  obtain ⟨hB, hc, hf⟩ := after (w := w) (by go_grown) hb1
  have hz1 : w.heap.size + 1 < w1.heap.size := by have := hb1.size; simp at this; omega
  have hz0 : w.heap.size < w1.heap.size := by omega
  by_cases ht : tableB ks = true
  · by_cases hv : validB lo hi = true
    · have hN : bothN ks lo hi = 0 := by unfold bothN; rw [if_pos ht, checkN_yes hv]
      rw [hN]
      obtain ⟨v1, v2, v3⟩ := validB_bd hv
      have hlen : 2 ≤ ks.length ∧ ks.length ≤ 32 := by unfold tableB at ht; simp at ht; omega
      rcases HS.out with ⟨e1, _⟩ | ⟨b, off, cap, rfl, hcap, hmax, hb, hcells⟩
      · rw [e1] at hlen; simp at hlen
      obtain ⟨l1, l2⟩ := hlen
      obtain ⟨a0, lo0, hi0, hs0⟩ : ∃ a l h, ks[0]? = some (a, l, h) := ⟨_, _, _, List.getElem?_eq_getElem (by omega)⟩
      obtain ⟨aN, loN, hiN, hsN⟩ : ∃ a l h, ks[ks.length - 1]? = some (a, l, h) := ⟨_, _, _, List.getElem?_eq_getElem (by omega)⟩
      have c0 : w1.cell? ⟨b, off, none⟩ = some (.int .i64 a0) := by rw [hB.cell (by simpa using hb)]; have := (hcells 0 _ _ _ hs0).1; simpa using this
      have cN : w1.cell? ⟨b, off + (ks.length - 1) * 3, none⟩ = some (.int .i64 aN) := by rw [hB.cell (by simpa using hb)]; exact (hcells _ _ _ _ hsN).1
      have x0 : w1.cell? ⟨w.heap.size, 0, none⟩ = some (.int .i64 lo) := by rw [hc _ _ (by simp; omega)]; go_cell
      have x1 : w1.cell? ⟨w.heap.size, 1, none⟩ = some (.int .i64 hi) := by rw [hc _ _ (by simp; omega)]; go_cell
      have r0 : w1.cell? ⟨w.heap.size + 1, 0, none⟩ = some (.int .i64 0) := by rw [hc _ _ (by simp)]; go_cell
      have r1 : w1.cell? ⟨w.heap.size + 1, 1, none⟩ = some (.int .i64 0) := by rw [hc _ _ (by simp)]; go_cell
      have rf0 : w1.frozen? ⟨w.heap.size + 1, 0, none⟩ = false := by rw [hf _ _ (by simp)]; go_cell
      have rf1 : w1.frozen? ⟨w.heap.size + 1, 1, none⟩ = false := by rw [hf _ _ (by simp)]; go_cell
      have HC := Lib.hid hcells
      have H0 := Lib.hid hs0
      have HN := Lib.hid hsN
      have HT := Lib.hid ht
      have HV := Lib.hid hv
      have Hc := Lib.hid hc
      have Hf := Lib.hid hf
      clear hcells hs0 hsN ht hv hN hc hf
      have g0 : (0 : Int) < (ks.length : Int) := by omega
      have g1 : (0 : Int) ≤ (ks.length : Int) - 1 := by omega
      have g2 : (ks.length : Int) - 1 < (ks.length : Int) := by omega
      have g3 : IntKind.i64.wrap ((ks.length : Int) - 1) = (ks.length : Int) - 1 := IntWalk.i64_in _ ⟨by omega, by omega⟩
      have g4 : ((ks.length : Int) - 1).toNat = ks.length - 1 := by omega
      by_cases q1 : lo < a0
      · go_wp2_with fail
        go_quiet (fail)
        have hBq := below_drewN hB nq
        go_wp2_with fail
        exact bodyPost_ret (v := .tuple #[sp 0 0, .int .i64 2]) (by simp [results, Try.results33, go_sem, *]) rfl ⟨valueE_out (show bothN ks lo hi = 0 by unfold bothN; rw [if_pos HT.out, checkN_yes HV.out]) (by unfold atOf; rw [getD_is H0.out, getD_is HN.out]; simp only; omega), by go_grown⟩
      · have hg : decide (lo < a0) = false := by simp; omega
        by_cases q2 : aN < hi
        · go_wp2_with fail
          go_quiet (fail)
          have hBq := below_drewN hB nq
          go_wp2_with fail
          exact bodyPost_ret (v := .tuple #[sp 0 0, .int .i64 2]) (by simp [results, Try.results33, go_sem, *]) rfl ⟨valueE_out (show bothN ks lo hi = 0 by unfold bothN; rw [if_pos HT.out, checkN_yes HV.out]) (by unfold atOf; rw [getD_is H0.out, getD_is HN.out]; simp only; omega), by go_grown⟩
        · go_wp2_with fail
          go_quiet (fail)
          have vw : ∀ nn, Below w.heap.size w (w1.drewN nn) ∧ (w1.drewN nn).heap.size = w1.heap.size ∧ (w1.drewN nn).cell? ⟨w.heap.size, 0, none⟩ = some (.int .i64 lo) ∧ (w1.drewN nn).cell? ⟨w.heap.size, 1, none⟩ = some (.int .i64 hi) ∧ (w1.drewN nn).cell? ⟨w.heap.size + 1, 0, none⟩ = some (.int .i64 0) ∧ (w1.drewN nn).cell? ⟨w.heap.size + 1, 1, none⟩ = some (.int .i64 0) ∧ (w1.drewN nn).frozen? ⟨w.heap.size + 1, 0, none⟩ = false ∧ (w1.drewN nn).frozen? ⟨w.heap.size + 1, 1, none⟩ = false := fun nn => ⟨below_drewN hB nn, rfl, x0, x1, r0, r1, rf0, rf1⟩
          obtain ⟨hB2, hsz, y0, y1, s0, s1, sf0, sf1⟩ := vw nq
          clear vw x0 x1 r0 r1 rf0 rf1 c0 cN
          generalize w1.drewN nq = w2 at *
          have hy1 : w.heap.size + 1 < w2.heap.size := by omega
          have hy0 : w.heap.size < w2.heap.size := by omega
          clear hsz hz1 hz0 hB hb1 Hc Hf
          go_wp2_with fail
          go_loopw [44] (fun v44 wr => VHead ks w.heap.size w2.heap.size w wr lo hi v44) (fun v44 _ => ks.length - 1 - (intOf v44).toNat)
          case atStart => exact ⟨0, by omega, rfl, ⟨by go_grown, hy1, by simp, by go_cell, by go_cell, by go_cell, by go_cell, by go_cell, by go_cell, by show _ = some (Value.int .i64 1073741824); go_cell, by show _ = some (Value.int .i64 (-1073741824)); go_cell, by go_cell, by go_cell⟩⟩
          case round =>
            obtain ⟨k, hk, rfl, hvw⟩ := hrel
            by_cases hlt : k < ks.length - 1
            · obtain ⟨pa, pl, ph, hp⟩ : ∃ a l h, ks[k]? = some (a, l, h) := ⟨_, _, _, List.getElem?_eq_getElem (by omega)⟩
              obtain ⟨qa, ql, qh, hq⟩ : ∃ a l h, ks[k + 1]? = some (a, l, h) := ⟨_, _, _, List.getElem?_eq_getElem (by omega)⟩
              obtain ⟨⟨b1, b2, b3, b4, b5⟩, ⟨b6, b7, b8, b9, b10⟩, b11⟩ := seg_ok HT.out hp hq
              have hbl : ∀ o, wr.cell? ⟨b, o, none⟩ = w.cell? ⟨b, o, none⟩ := fun o => hvw.below.cell (by simpa using hb)
              obtain ⟨e0, e1, e2⟩ := HC.out _ _ _ _ hp
              obtain ⟨f0, f1, f2⟩ := HC.out _ _ _ _ hq
              rw [← hbl] at e0 e1 e2 f0 f1 f2
              rw [show off + (k + 1) * 3 = off + 3 + k * 3 by omega] at f0 f1 f2
              have hbr : b < wr.heap.size := by have := hvw.below.size; omega
              have X0 := hvw.x0
              have X1 := hvw.x1
              have hz := hvw.size
              have hbc := hvw.bc
              have hn0 : w.heap.size < wr.heap.size := by omega
              have HW := Lib.hid hvw
              have HP := Lib.hid hp
              have HQ := Lib.hid hq
              have hlt' : (k : Int) < (ks.length : Int) - 1 := by omega
              have hk0 : (0 : Int) ≤ (k : Int) := by omega
              have hl1 : (k : Int) < (ks.length : Int) := by omega
              clear hvw hp hq hbl y0 y1 s0 s1 sf0 sf1 hB2 hy0
              go_upto_region 11 with fail
              have vx : VX w.heap.size w2.heap.size wr.heap.size w ((wr.alloc (.cells #[.int .i64 qa, .int .i64 ql, .int .i64 qh] 94)).alloc (.cells #[.int .i64 pa, .int .i64 pl, .int .i64 ph] 94)) lo hi (accV ks lo hi k).1 (accV ks lo hi k).2 pa pl ph qa ql qh :=
                ⟨HW.out.later (((Below.refl _ _).alloc (Nat.le_refl _) _).alloc (by simp) _), hz, by simp, by go_cell, by go_cell, by go_cell, by go_cell, by go_cell, by go_cell⟩
              have VX0 := Lib.hid vx
              clear vx
              go_cut [11, 12] from 45 to 96 (fun v11 v12 wy => v11 = .int .i64 (max lo pa) ∧ v12 = .int .i64 (min hi qa) ∧ VX w.heap.size w2.heap.size wr.heap.size w wy lo hi (accV ks lo hi k).1 (accV ks lo hi k).2 pa pl ph qa ql qh)
              case first =>
                go_quiet (fail)
                go_wp2_with fail
                go_meet
                case rel => exact ⟨rfl, rfl, VX0.out.drew _⟩
              case rest =>
                obtain ⟨rfl, rfl, hvx⟩ := hcut
                obtain ⟨fr, hfr⟩ : ∃ fr : Int, max lo pa = fr := ⟨_, rfl⟩
                obtain ⟨tt, hto⟩ : ∃ tt : Int, min hi qa = tt := ⟨_, rfl⟩
                rw [hfr, hto]
                have HX := Lib.hid hvx
                have HF := Lib.hid hfr
                have HTo := Lib.hid hto
                have fr0 : pa ≤ fr := by omega
                have fr1 : -1099511627776 ≤ fr ∧ fr ≤ 1099511627776 := by omega
                have to1 : tt ≤ qa := by omega
                have hlf : lo ≤ fr := by omega
                clear hvx hfr hto e0 e1 e2 f0 f1 f2 VX0 HW X0 X1
                by_cases hft : tt < fr
                · go_wp2_with fail
                  go_roundw
                  case rel => exact ⟨k + 1, by omega, by go_num, by
                    have ea : accV ks lo hi (k + 1) = accV ks lo hi k := by
                      show segV ks lo hi k _ = _
                      rw [segV_is HP.out HQ.out, HF.out, HTo.out, if_pos hft]
                    rw [ea]; exact HX.out.vw⟩
                  case measure => simp [intOf]; omega
                · have kl : LnOk pa pl qa ql fr := ⟨by omega, by omega, by omega, by omega, by omega, by omega, by omega, by omega, by omega⟩
                  have kl2 : LnOk pa pl qa ql tt := ⟨by omega, by omega, by omega, by omega, by omega, by omega, by omega, by omega, by omega⟩
                  have ku : LnOk pa ph qa qh fr := ⟨by omega, by omega, by omega, by omega, by omega, by omega, by omega, by omega, by omega⟩
                  have ku2 : LnOk pa ph qa qh tt := ⟨by omega, by omega, by omega, by omega, by omega, by omega, by omega, by omega, by omega⟩
                  go_wp2_with fail
                  refine AnyT.begin (fun w' => VS w2.heap.size wr.heap.size wc w' (accV ks lo hi k).1 (accV ks lo hi k).2 pa pl ph qa ql qh) 15 (by kernel_rfl) (HX.out.vs (below_drewN (Below.refl _ _) 1)) (fun hHeld => ?_)
                  refine AnyT.take (i := 0) (oi := _) (v := ?_) rfl (by kernel_rfl) (by kernel_rfl) (by kernel_rfl) (by kernel_rfl) (fun _ _ _ h => h) (Or.inl ⟨by rfl, ?_⟩) (by assumption) ?_
                  rotate_left 1
                  · intro wz hSw; unfold VS at hSw; go_simp; try with_reducible rfl
                  try simp only [Act.put, List.setIfInBounds_toArray, List.set_cons_zero, List.set_cons_succ]
                  refine AnyT.take (i := 1) (oi := _) (v := ?_) rfl (by kernel_rfl) (by kernel_rfl) (by kernel_rfl) (by kernel_rfl) (fun _ _ _ h => h) (Or.inl ⟨by rfl, ?_⟩) (by assumption) ?_
                  rotate_left 1
                  · intro wz hSw; unfold VS at hSw; go_simp; try with_reducible rfl
                  try simp only [Act.put, List.setIfInBounds_toArray, List.set_cons_zero, List.set_cons_succ]
                  refine AnyT.take (i := 2) (oi := _) (v := ?_) rfl (by kernel_rfl) (by kernel_rfl) (by kernel_rfl) (by kernel_rfl) (fun _ _ _ h => h) (Or.inl ⟨by rfl, ?_⟩) (by assumption) ?_
                  rotate_left 1
                  · intro wz hSw; unfold VS at hSw; go_simp; try with_reducible rfl
                  try simp only [Act.put, List.setIfInBounds_toArray, List.set_cons_zero, List.set_cons_succ]
                  refine AnyT.take (i := 3) (oi := _) (v := ?_) rfl (by kernel_rfl) (by kernel_rfl) (by kernel_rfl) (by kernel_rfl) (fun _ _ _ h => h) (Or.inl ⟨by rfl, ?_⟩) (by assumption) ?_
                  rotate_left 1
                  · intro wz hSw; unfold VS at hSw; go_simp; try with_reducible rfl
                  try simp only [Act.put, List.setIfInBounds_toArray, List.set_cons_zero, List.set_cons_succ]
                  refine AnyT.take (i := 5) (oi := _) (v := ?_) rfl (by kernel_rfl) (by kernel_rfl) (by kernel_rfl) (by kernel_rfl) (fun _ _ _ h => h) (Or.inl ⟨by rfl, ?_⟩) (by assumption) ?_
                  rotate_left 1
                  · intro wz hSw; unfold VS at hSw; go_simp; try with_reducible rfl
                  try simp only [Act.put, List.setIfInBounds_toArray, List.set_cons_zero, List.set_cons_succ]
                  refine AnyT.take (i := 7) (oi := _) (v := ?_) rfl (by kernel_rfl) (by kernel_rfl) (by kernel_rfl) (by kernel_rfl) (fun _ _ _ h => h) (Or.inl ⟨by rfl, ?_⟩) (by assumption) ?_
                  rotate_left 1
                  · intro wz hSw; unfold VS at hSw; go_simp; try with_reducible rfl
                  try simp only [Act.put, List.setIfInBounds_toArray, List.set_cons_zero, List.set_cons_succ]
                  refine AnyT.take (i := 8) (oi := _) (v := ?_) rfl (by kernel_rfl) (by kernel_rfl) (by kernel_rfl) (by kernel_rfl) (fun _ _ _ h => h) (Or.inl ⟨by rfl, ?_⟩) (by assumption) ?_
                  rotate_left 1
                  · intro wz hSw; unfold VS at hSw; go_simp; try with_reducible rfl
                  try simp only [Act.put, List.setIfInBounds_toArray, List.set_cons_zero, List.set_cons_succ]
                  refine AnyT.take (i := 10) (oi := _) (v := ?_) rfl (by kernel_rfl) (by kernel_rfl) (by kernel_rfl) (by kernel_rfl) (fun _ _ _ h => h) (Or.inl ⟨by rfl, ?_⟩) (by assumption) ?_
                  rotate_left 1
                  · intro wz hSw; unfold VS at hSw; go_simp; try with_reducible rfl
                  try simp only [Act.put, List.setIfInBounds_toArray, List.set_cons_zero, List.set_cons_succ]
                  clear hHeld
                  refine AnyT.one (i := 4) (o := _) rfl (by kernel_rfl) (fun K hK => ?_)
                  go_simp
                  refine (lower_any _ _ _ _ _ _ _).mono ?_
                  rintro e w3 ⟨rfl, hb3⟩
                  have hA3 := chainD (Below.refl wc.heap.size wc) hb3
                  go_wp2_with fail
                  refine hK.out _ _ (fun _ => HX.out.vs hA3) ?_
                  clear hK K hb3
                  try simp only [Act.put, List.setIfInBounds_toArray, List.set_cons_zero, List.set_cons_succ]
                  refine AnyT.one (i := 6) (o := _) rfl (by kernel_rfl) (fun K hK => ?_)
                  go_simp
                  refine (down_any _ _ _ _ _ _ kl).mono ?_
                  rintro e w4 ⟨rfl, hb4⟩
                  have hA4 := two hA3 hb4
                  go_wp2_with fail
                  refine hK.out _ _ (fun _ => HX.out.vs hA4) ?_
                  clear hK K hb4 hA3
                  try simp only [Act.put, List.setIfInBounds_toArray, List.set_cons_zero, List.set_cons_succ]
                  refine AnyT.one (i := 9) (o := _) rfl (by kernel_rfl) (fun K hK => ?_)
                  go_simp
                  refine (lower_any _ _ _ _ _ _ _).mono ?_
                  rintro e w5 ⟨rfl, hb5⟩
                  have hA5 := two hA4 hb5
                  go_wp2_with fail
                  refine hK.out _ _ (fun _ => HX.out.vs hA5) ?_
                  clear hK K hb5 hA4
                  try simp only [Act.put, List.setIfInBounds_toArray, List.set_cons_zero, List.set_cons_succ]
                  refine AnyT.one (i := 11) (o := _) rfl (by kernel_rfl) (fun K hK => ?_)
                  go_simp
                  refine (down_any _ _ _ _ _ _ kl2).mono ?_
                  rintro e w6 ⟨rfl, hb6⟩
                  have hA6 := two hA5 hb6
                  go_wp2_with fail
                  refine hK.out _ _ (fun _ => HX.out.vs hA6) ?_
                  clear hK K hb6 hA5
                  try simp only [Act.put, List.setIfInBounds_toArray, List.set_cons_zero, List.set_cons_succ]
                  refine AnyT.one (i := 12) (o := _) rfl (by kernel_rfl) (fun K hK => ?_)
                  go_simp
                  have hA7 := hA6.alloc hA6.size (.cells #[.int .i64 (dn pa pl qa ql fr), .int .i64 (dn pa pl qa ql tt)] 3)
                  refine hK.out _ _ (fun _ => HX.out.vs hA7) ?_
                  clear hK K
                  try simp only [Act.put, List.setIfInBounds_toArray, List.set_cons_zero, List.set_cons_succ]
                  refine AnyT.one (i := 13) (o := _) rfl (by kernel_rfl) (fun K hK => ?_)
                  go_simp
                  refine (least_any _ 0 _ [dn pa pl qa ql fr, dn pa pl qa ql tt] _ (by simp) (intCells_cons (by go_cell) (intCells_cons (by go_cell) (intCells_nil _ _ _)))).mono ?_
                  rintro e w7 ⟨rfl, rfl⟩
                  go_wp2_with fail
                  refine hK.out _ _ (fun _ => HX.out.vs hA7) ?_
                  clear hK K hA6
                  try simp only [Act.put, List.setIfInBounds_toArray, List.set_cons_zero, List.set_cons_succ]
                  refine AnyT.one (i := 14) (o := _) rfl (by kernel_rfl) (fun K hK => ?_)
                  go_simp
                  refine hK.out _ _ (fun _ => HX.out.vs hA7) ?_
                  clear hK K
                  try simp only [Act.put, List.setIfInBounds_toArray, List.set_cons_zero, List.set_cons_succ]
                  have hv0 := (HX.out.later hA7).vw.v0
                  have hf0 := (HX.out.later hA7).vw.vf0
                  refine AnyT.one (i := 15) (o := _) rfl (by kernel_rfl) (fun K hK => ?_)
                  go_simp
                  refine hK.out _ _ (fun h => absurd rfl h) ?_
                  clear hK K
                  refine AnyT.done (by kernel_rfl) ?_
                  try simp only [Act.put, List.setIfInBounds_toArray, List.set_cons_zero, List.set_cons_succ]
                  have hx2 := (HX.out.later hA7).put0 (min (accV ks lo hi k).1 (min (dn pa pl qa ql fr) (dn pa pl qa ql tt)))
                  clear hA7 hv0 hf0 HX
                  have HX := Lib.hid hx2
                  clear hx2
                  go_wp2_with fail
                  generalize ((w6.alloc (.cells #[.int .i64 (dn pa pl qa ql fr), .int .i64 (dn pa pl qa ql tt)] 3)).setCell ⟨w2.heap.size, 0, none⟩ (.int .i64 (min (accV ks lo hi k).1 (min (dn pa pl qa ql fr) (dn pa pl qa ql tt))))) = wd at HX ⊢
                  refine AnyT.begin (fun w' => VS w2.heap.size wr.heap.size wd w' (min (accV ks lo hi k).1 (min (dn pa pl qa ql fr) (dn pa pl qa ql tt))) (accV ks lo hi k).2 pa pl ph qa ql qh) 15 (by kernel_rfl) (HX.out.vs (below_drewN (Below.refl _ _) 1)) (fun hHeld => ?_)
                  refine AnyT.take (i := 0) (oi := _) (v := ?_) rfl (by kernel_rfl) (by kernel_rfl) (by kernel_rfl) (by kernel_rfl) (fun _ _ _ h => h) (Or.inl ⟨by rfl, ?_⟩) (by assumption) ?_
                  rotate_left 1
                  · intro wz hSw; unfold VS at hSw; go_simp; try with_reducible rfl
                  try simp only [Act.put, List.setIfInBounds_toArray, List.set_cons_zero, List.set_cons_succ]
                  refine AnyT.take (i := 1) (oi := _) (v := ?_) rfl (by kernel_rfl) (by kernel_rfl) (by kernel_rfl) (by kernel_rfl) (fun _ _ _ h => h) (Or.inl ⟨by rfl, ?_⟩) (by assumption) ?_
                  rotate_left 1
                  · intro wz hSw; unfold VS at hSw; go_simp; try with_reducible rfl
                  try simp only [Act.put, List.setIfInBounds_toArray, List.set_cons_zero, List.set_cons_succ]
                  refine AnyT.take (i := 2) (oi := _) (v := ?_) rfl (by kernel_rfl) (by kernel_rfl) (by kernel_rfl) (by kernel_rfl) (fun _ _ _ h => h) (Or.inl ⟨by rfl, ?_⟩) (by assumption) ?_
                  rotate_left 1
                  · intro wz hSw; unfold VS at hSw; go_simp; try with_reducible rfl
                  try simp only [Act.put, List.setIfInBounds_toArray, List.set_cons_zero, List.set_cons_succ]
                  refine AnyT.take (i := 3) (oi := _) (v := ?_) rfl (by kernel_rfl) (by kernel_rfl) (by kernel_rfl) (by kernel_rfl) (fun _ _ _ h => h) (Or.inl ⟨by rfl, ?_⟩) (by assumption) ?_
                  rotate_left 1
                  · intro wz hSw; unfold VS at hSw; go_simp; try with_reducible rfl
                  try simp only [Act.put, List.setIfInBounds_toArray, List.set_cons_zero, List.set_cons_succ]
                  refine AnyT.take (i := 5) (oi := _) (v := ?_) rfl (by kernel_rfl) (by kernel_rfl) (by kernel_rfl) (by kernel_rfl) (fun _ _ _ h => h) (Or.inl ⟨by rfl, ?_⟩) (by assumption) ?_
                  rotate_left 1
                  · intro wz hSw; unfold VS at hSw; go_simp; try with_reducible rfl
                  try simp only [Act.put, List.setIfInBounds_toArray, List.set_cons_zero, List.set_cons_succ]
                  refine AnyT.take (i := 7) (oi := _) (v := ?_) rfl (by kernel_rfl) (by kernel_rfl) (by kernel_rfl) (by kernel_rfl) (fun _ _ _ h => h) (Or.inl ⟨by rfl, ?_⟩) (by assumption) ?_
                  rotate_left 1
                  · intro wz hSw; unfold VS at hSw; go_simp; try with_reducible rfl
                  try simp only [Act.put, List.setIfInBounds_toArray, List.set_cons_zero, List.set_cons_succ]
                  refine AnyT.take (i := 8) (oi := _) (v := ?_) rfl (by kernel_rfl) (by kernel_rfl) (by kernel_rfl) (by kernel_rfl) (fun _ _ _ h => h) (Or.inl ⟨by rfl, ?_⟩) (by assumption) ?_
                  rotate_left 1
                  · intro wz hSw; unfold VS at hSw; go_simp; try with_reducible rfl
                  try simp only [Act.put, List.setIfInBounds_toArray, List.set_cons_zero, List.set_cons_succ]
                  refine AnyT.take (i := 10) (oi := _) (v := ?_) rfl (by kernel_rfl) (by kernel_rfl) (by kernel_rfl) (by kernel_rfl) (fun _ _ _ h => h) (Or.inl ⟨by rfl, ?_⟩) (by assumption) ?_
                  rotate_left 1
                  · intro wz hSw; unfold VS at hSw; go_simp; try with_reducible rfl
                  try simp only [Act.put, List.setIfInBounds_toArray, List.set_cons_zero, List.set_cons_succ]
                  clear hHeld
                  refine AnyT.one (i := 4) (o := _) rfl (by kernel_rfl) (fun K hK => ?_)
                  go_simp
                  refine (upper_any _ _ _ _ _ _ _).mono ?_
                  rintro e w3 ⟨rfl, hb3⟩
                  have hA3 := chainD (Below.refl wd.heap.size wd) hb3
                  go_wp2_with fail
                  refine hK.out _ _ (fun _ => HX.out.vs hA3) ?_
                  clear hK K hb3
                  try simp only [Act.put, List.setIfInBounds_toArray, List.set_cons_zero, List.set_cons_succ]
                  refine AnyT.one (i := 6) (o := _) rfl (by kernel_rfl) (fun K hK => ?_)
                  go_simp
                  refine (up_any _ _ _ _ _ _ ku).mono ?_
                  rintro e w4 ⟨rfl, hb4⟩
                  have hA4 := two hA3 hb4
                  go_wp2_with fail
                  refine hK.out _ _ (fun _ => HX.out.vs hA4) ?_
                  clear hK K hb4 hA3
                  try simp only [Act.put, List.setIfInBounds_toArray, List.set_cons_zero, List.set_cons_succ]
                  refine AnyT.one (i := 9) (o := _) rfl (by kernel_rfl) (fun K hK => ?_)
                  go_simp
                  refine (upper_any _ _ _ _ _ _ _).mono ?_
                  rintro e w5 ⟨rfl, hb5⟩
                  have hA5 := two hA4 hb5
                  go_wp2_with fail
                  refine hK.out _ _ (fun _ => HX.out.vs hA5) ?_
                  clear hK K hb5 hA4
                  try simp only [Act.put, List.setIfInBounds_toArray, List.set_cons_zero, List.set_cons_succ]
                  refine AnyT.one (i := 11) (o := _) rfl (by kernel_rfl) (fun K hK => ?_)
                  go_simp
                  refine (up_any _ _ _ _ _ _ ku2).mono ?_
                  rintro e w6 ⟨rfl, hb6⟩
                  have hA6 := two hA5 hb6
                  go_wp2_with fail
                  refine hK.out _ _ (fun _ => HX.out.vs hA6) ?_
                  clear hK K hb6 hA5
                  try simp only [Act.put, List.setIfInBounds_toArray, List.set_cons_zero, List.set_cons_succ]
                  refine AnyT.one (i := 12) (o := _) rfl (by kernel_rfl) (fun K hK => ?_)
                  go_simp
                  have hA7 := hA6.alloc hA6.size (.cells #[.int .i64 (upw pa ph qa qh fr), .int .i64 (upw pa ph qa qh tt)] 3)
                  refine hK.out _ _ (fun _ => HX.out.vs hA7) ?_
                  clear hK K
                  try simp only [Act.put, List.setIfInBounds_toArray, List.set_cons_zero, List.set_cons_succ]
                  refine AnyT.one (i := 13) (o := _) rfl (by kernel_rfl) (fun K hK => ?_)
                  go_simp
                  refine (greatest_any _ 0 _ [upw pa ph qa qh fr, upw pa ph qa qh tt] _ (by simp) (intCells_cons (by go_cell) (intCells_cons (by go_cell) (intCells_nil _ _ _)))).mono ?_
                  rintro e w7 ⟨rfl, rfl⟩
                  go_wp2_with fail
                  refine hK.out _ _ (fun _ => HX.out.vs hA7) ?_
                  clear hK K hA6
                  try simp only [Act.put, List.setIfInBounds_toArray, List.set_cons_zero, List.set_cons_succ]
                  refine AnyT.one (i := 14) (o := _) rfl (by kernel_rfl) (fun K hK => ?_)
                  go_simp
                  refine hK.out _ _ (fun _ => HX.out.vs hA7) ?_
                  clear hK K
                  try simp only [Act.put, List.setIfInBounds_toArray, List.set_cons_zero, List.set_cons_succ]
                  have hv0 := (HX.out.later hA7).vw.v1
                  have hf0 := (HX.out.later hA7).vw.vf1
                  refine AnyT.one (i := 15) (o := _) rfl (by kernel_rfl) (fun K hK => ?_)
                  go_simp
                  refine hK.out _ _ (fun h => absurd rfl h) ?_
                  clear hK K
                  refine AnyT.done (by kernel_rfl) ?_
                  try simp only [Act.put, List.setIfInBounds_toArray, List.set_cons_zero, List.set_cons_succ]
                  have hx2 := (HX.out.later hA7).put1 (max (accV ks lo hi k).2 (max (upw pa ph qa qh fr) (upw pa ph qa qh tt)))
                  clear hA7 hv0 hf0 HX
                  have HX := Lib.hid hx2
                  clear hx2
                  go_wp2_with fail
                  go_roundw
                  case rel => exact ⟨k + 1, by omega, by go_num, by
                    have ea : accV ks lo hi (k + 1) = (min (accV ks lo hi k).1 (min (dn pa pl qa ql fr) (dn pa pl qa ql tt)), max (accV ks lo hi k).2 (max (upw pa ph qa qh fr) (upw pa ph qa qh tt))) := by
                      show segV ks lo hi k _ = _
                      rw [segV_is HP.out HQ.out, HF.out, HTo.out, if_neg (by omega)]
                    rw [ea]; exact HX.out.vw⟩
                  case measure => simp [intOf]; omega
            · obtain rfl : k = ks.length - 1 := by omega
              have X0 := hvw.r0
              have X1 := hvw.r1
              have X2 := hvw.rf0
              have X3 := hvw.rf1
              have X4 := hvw.v0
              have X5 := hvw.v1
              have hz := hvw.size
              have hbc := hvw.bc
              have hn0 : w.heap.size < wr.heap.size := by omega
              have hBw := hvw.below
              have hat : ¬ (lo < atOf ks 0 ∨ atOf ks (ks.length - 1) < hi) := by unfold atOf; rw [getD_is H0.out, getD_is HN.out]; simp only; omega
              have HE := Lib.hid (valueE_in (show bothN ks lo hi = 0 by unfold bothN; rw [if_pos HT.out, checkN_yes HV.out]) hat)
              clear hvw hat hB2 hy0 y0 y1 s0 s1 sf0 sf1
              go_wp2_with fail
              exact bodyPost_ret (v := .tuple #[sp (accV ks lo hi (ks.length - 1)).1 (accV ks lo hi (ks.length - 1)).2, .int .i64 0]) (by simp [results, Try.results33, go_sem, *]) rfl ⟨HE.out, by go_grown⟩
    · have hN : bothN ks lo hi = 10 := by unfold bothN; rw [if_pos ht, checkN_no (by simpa using hv)]
      have HE := Lib.hid (valueE_bad hN (by omega))
      rw [hN]
      go_wp2_with fail
      exact bodyPost_ret (v := .tuple #[sp 0 0, .int .i64 10]) (by simp [results, Try.results33, go_sem, *]) rfl ⟨HE.out, by go_grown⟩
  · have hN : bothN ks lo hi = 13 := by unfold bothN; rw [if_neg ht]
    have HE := Lib.hid (valueE_bad hN (by omega))
    rw [hN]
    go_wp2_with fail
    exact bodyPost_ret (v := .tuple #[sp 0 0, .int .i64 13]) (by simp [results, Try.results33, go_sem, *]) rfl ⟨HE.out, by go_grown⟩
end Go.Proofs.Ytflgdckeinappaa
