/- BoundTables: the walk. -/
import Derived.Test.YtflgdckeinappaaRMay
import Derived.Test.YtflgdckeinappaaRValue
import Derived.Test.YtflgdckeinappaaSame2
import Derived.Test.YtflgdckeinappaaSame3
import Derived.Laws.AppendOwnNone
namespace Go.Proofs.Ytflgdckeinappaa
open Go.RowKit

/-- The knots' cells. -/
def spK (ks : List (Int × Int × Int)) : List Value := ks.flatMap fun k => [.int .i64 k.1, .int .i64 k.2.1, .int .i64 k.2.2]
theorem spK_len : ∀ (ks : List (Int × Int × Int)), (spK ks).length = ks.length * 3
  | [] => rfl
  | k :: ks => by
    have := spK_len ks
    unfold spK at *
    rw [List.flatMap_cons, List.length_append, this]
    simp; omega
theorem spK_get : ∀ (ks : List (Int × Int × Int)) (i : Nat) (a l h : Int), ks[i]? = some (a, l, h) → (spK ks)[i * 3]? = some (.int .i64 a) ∧ (spK ks)[i * 3 + 1]? = some (.int .i64 l) ∧ (spK ks)[i * 3 + 2]? = some (.int .i64 h)
  | [], i, a, l, h, e => by simp at e
  | k :: ks, 0, a, l, h, e => by
    simp at e
    subst e
    exact ⟨rfl, rfl, rfl⟩
  | k :: ks, i + 1, a, l, h, e => by
    have := spK_get ks i a l h (by simpa using e)
    have hc : spK (k :: ks) = .int .i64 k.1 :: .int .i64 k.2.1 :: .int .i64 k.2.2 :: spK ks := rfl
    rw [hc, show (i + 1) * 3 = i * 3 + 1 + 1 + 1 by omega]
    exact this
theorem spK_cell {w : World} {b off : Nat} {ks : List (Int × Int × Int)} (h : knotCells w b off ks) : ∀ (j : Nat) (u : Value), (spK ks)[j]? = some u → w.cell? ((⟨b, off, none⟩ : Addr).add j) = some u := by
  intro j u hj
  have hlt : j < ks.length * 3 := by have := (List.getElem?_eq_some_iff.1 hj).1; rwa [spK_len] at this
  obtain ⟨a, l, hh, hk⟩ : ∃ a l h, ks[j / 3]? = some (a, l, h) := ⟨_, _, _, List.getElem?_eq_getElem (by omega)⟩
  obtain ⟨e0, e1, e2⟩ := spK_get ks (j / 3) a l hh hk
  obtain ⟨c0, c1, c2⟩ := h (j / 3) a l hh hk
  have hadd : (⟨b, off, none⟩ : Addr).add j = ⟨b, off + j, none⟩ := by
    unfold Addr.add
    split
    · subst_vars; simp
    · rfl
  rw [hadd]
  rcases (show j = j / 3 * 3 ∨ j = j / 3 * 3 + 1 ∨ j = j / 3 * 3 + 2 by omega) with h3 | h3 | h3
  · rw [← h3, hj] at e0; rw [h3, show off + j / 3 * 3 = off + j / 3 * 3 from rfl, c0, e0]
  · rw [← h3, hj] at e1; rw [h3, ← Nat.add_assoc, c1, e1]
  · rw [← h3, hj] at e2; rw [h3, ← Nat.add_assoc, c2, e2]
theorem spK_one {ks : List (Int × Int × Int)} : ∀ u ∈ spK ks, u.oneCell' = true := by
  intro u hu
  unfold spK at hu
  obtain ⟨k, _, hk⟩ := List.mem_flatMap.1 hu
  simp at hk
  rcases hk with rfl | rfl | rfl <;> rfl
theorem SlK.of {w : World} {B : Nat} {v : Value} {ks : List (Int × Int × Int)} (h : w.ownsRow B 94 3 v ks.length (spK ks)) (hk : ks.length ≤ 40) : SlK w v ks := by
  rcases Go.Joins.ownsRow_forms h with ⟨rfl, h0⟩ | ⟨g, cap, rfl⟩
  · obtain rfl : ks = [] := by simpa using h0
    exact .inl ⟨rfl, rfl⟩
  · obtain ⟨hl, h2⟩ := h
    rcases h2 with ⟨h3, _⟩ | ⟨g', cap', cur, h3, h4, h5, h6, h7, h8, h9⟩
    · cases h3
    · simp at h3
      obtain ⟨rfl, rfl⟩ := h3
      have hg : g < w.heap.size := by
        rcases Nat.lt_or_ge g w.heap.size with h' | h'
        · exact h'
        · simp [Array.getElem?_eq_none h'] at h5
      have ho : w.ownsRow B 94 3 (.slice (some ⟨g, 0, none⟩) ks.length cap) ks.length (spK ks) := ⟨hl, .inr ⟨g, cap, cur, rfl, h4, h5, h6, h7, h8, h9⟩⟩
      refine .inr ⟨g, 0, cap, rfl, h6, by omega, hg, fun i a l hh e => ?_⟩
      have hi := (List.getElem?_eq_some_iff.1 e).1
      obtain ⟨e0, e1, e2⟩ := spK_get ks i a l hh e
      refine ⟨?_, ?_, ?_⟩
      · rw [Nat.zero_add, ho.cellAt _ (by omega)]; exact e0
      · rw [Nat.zero_add, ho.cellAt _ (by omega)]; exact e1
      · rw [Nat.zero_add, ho.cellAt _ (by omega)]; exact e2

set_option maxRecDepth 100000 in
set_option maxHeartbeats 1000000 in
theorem boundTables_great (a : Option Addr) (len cap : Nat) (x0 x1 y0 y1 : Int) (w : World) (hl : 40 < len) (hm : len ≤ maxLen) :
    Calls Try.prog 5 #[.slice a len cap, sp x0 x1, sp y0 y1] w fun e w' => e = .returned (.bool true) ∧ Below w.heap.size w w' := by
  unfold maxLen at hm
  go_enter Try.func5, Try.ntmps5
  go_wp2_with fail
  go_returns
  exact ⟨rfl, by go_grown⟩

theorem SpC.later {w w1 : World} {v : Value} {l : List (Int × Int)} (h : SpC w v l) (hb : Below w.heap.size w w1) : SpC w1 v l := by
  obtain ⟨a, cap, hv, hc⟩ := h
  refine ⟨a, cap, hv, fun i x y e => ?_⟩
  obtain ⟨g, hg, c0, c1⟩ := hc i x y e
  exact ⟨g, hg, cell_later hb c0, cell_later hb c1⟩
theorem mayL_len (S : Seg) (ks : List (Int × Int × Int)) (lo hi : Int) (h : ks.length ≤ 40) : (mayL S ks lo hi).length ≤ 1000 := by
  unfold mayL
  split
  · have := wh_len S ks (ks.length - 1); omega
  · simp
/-- Behind the copy of the table. -/
structure OwnC (w wr : World) (v7 : Value) (ks : List (Int × Int × Int)) (x0 x1 y0 y1 : Int) : Prop where
  slk : SlK wr v7 ks
  below : Below w.heap.size w wr
  cells : Cells wr [(w.heap.size, 0, .int .i64 x0), (w.heap.size, 1, .int .i64 x1), (w.heap.size + 1, 0, .int .i64 y0), (w.heap.size + 1, 1, .int .i64 y1)]
  size : w.heap.size + 1 < wr.heap.size
theorem alloc_last (w : World) (o : Obj) : (w.alloc o).heap[w.heap.size]? = some o := by unfold World.alloc; simp
theorem own_empty (w : World) (o1 o2 : Obj) : ((w.alloc o1).alloc o2 |>.alloc (.cells #[] 94)).ownsRow w.heap.size 94 3 (.slice (some ⟨w.heap.size + 1 + 1, 0, none⟩) 0 0) 0 [] := by
  have h := alloc_last ((w.alloc o1).alloc o2) (.cells #[] 94)
  rw [show ((w.alloc o1).alloc o2).heap.size = w.heap.size + 1 + 1 by simp] at h
  exact ⟨rfl, .inr ⟨w.heap.size + 1 + 1, 0, #[], rfl, by omega, h, by omega, by unfold maxLen; omega, rfl, rfl⟩⟩
theorem OwnC.later {w wr w1 : World} {v7 : Value} {ks : List (Int × Int × Int)} {x0 x1 y0 y1 : Int} (h : OwnC w wr v7 ks x0 x1 y0 y1) (hb : Below wr.heap.size wr w1) : OwnC w w1 v7 ks x0 x1 y0 y1 :=
  ⟨h.slk.later hb, h.below.trans (hb.mono h.below.size), h.cells.later hb, by have := h.size; have := hb.size; omega⟩
theorem OwnC.box {w wr : World} {v7 : Value} {ks : List (Int × Int × Int)} {x0 x1 y0 y1 : Int} (h : OwnC w wr v7 ks x0 x1 y0 y1) (o : Obj) : OwnC w (wr.alloc o) v7 ks x0 x1 y0 y1 := h.later (below_box _ _)

set_option maxRecDepth 1000000 in
set_option maxHeartbeats 8000000 in
theorem boundTables_walk (v : Value) (ks : List (Int × Int × Int)) (x0 x1 y0 y1 : Int) (w : World) (hs : SlK w v ks) (h40 : ks.length ≤ 40) :
    Calls Try.prog 5 #[v, sp x0 x1, sp y0 y1] w fun e w' => e = .returned (.bool true) ∧ Below w.heap.size w w' := by
  have HS := Lib.hid hs
  have hv : ∃ (a : Option Addr) (cap : Nat), v = .slice a ks.length cap := by
    rcases hs with ⟨rfl, rfl⟩ | ⟨b, off, cap, rfl, _⟩
    · exact ⟨_, _, rfl⟩
    · exact ⟨_, _, rfl⟩
  obtain ⟨a, cap, rfl⟩ := hv
  clear hs
  obtain ⟨i0, hi, hz0, hz1, hz2⟩ := info_parts (P := Try.prog) (e := 94) (z := .agg #[.int .i64 0, .int .i64 0, .int .i64 0]) (size := 3) (bytes := 24) (by kernel_rfl)
  go_enter Try.func5, Try.ntmps5
  go_upto_region 3 with fail
  go_cut [7] from 23 to 101 (fun v7 wr => OwnC w wr v7 ks x0 x1 y0 y1)
  case first =>
    have hown := own_empty w (.cells #[.int .i64 x0, .int .i64 x1] 23) (.cells #[.int .i64 y0, .int .i64 y1] 23)
    have hbW : Below w.heap.size w ((((w.alloc (.cells #[.int .i64 x0, .int .i64 x1] 23)).alloc (.cells #[.int .i64 y0, .int .i64 y1] 23)).alloc (.cells #[] 94))) := by go_grown
    have hK : Cells ((((w.alloc (.cells #[.int .i64 x0, .int .i64 x1] 23)).alloc (.cells #[.int .i64 y0, .int .i64 y1] 23)).alloc (.cells #[] 94))) [(w.heap.size, 0, .int .i64 x0), (w.heap.size, 1, .int .i64 x1), (w.heap.size + 1, 0, .int .i64 y0), (w.heap.size + 1, 1, .int .i64 y1)] :=
      Cells.cons (by go_cell) (Cells.cons (by go_cell) (Cells.cons (by go_cell) (Cells.cons (by go_cell) (Cells.nil _))))
    rcases HS.out with ⟨hk0, hv⟩ | ⟨b, off, cap', hv, hcap, hmax, hb, hcells⟩
    · subst hk0
      simp at hv
      obtain ⟨rfl, rfl⟩ := hv
      go_wp2_with (at_builtin; refine wpList_append_own_none _ _ 41 rfl w.heap.size 94 i0 3 Try.underlying41 hi _ _ _ rfl hown rfl ?_)
      go_meet
      case rel => exact ⟨.inr ⟨w.heap.size + 1 + 1, 0, 0, rfl, by simp, by simp, by simp, fun i a l h e => by simp at e⟩, hbW, hK, by simp⟩
    · simp at hv
      obtain ⟨rfl, rfl⟩ := hv
      have hcW := hcells.later (show Below w.heap.size w ((((w.alloc (.cells #[.int .i64 x0, .int .i64 x1] 23)).alloc (.cells #[.int .i64 y0, .int .i64 y1] 23)).alloc (.cells #[] 94))) from hbW)
      go_wp2_with (at_builtin; refine wpList_append_own _ rfl _ _ 41 rfl w.heap.size 94 i0 (.agg #[.int .i64 0, .int .i64 0, .int .i64 0]) 3 24 Try.underlying41 hi hz0 hz1 hz2 rfl (by decide) _ _ _ rfl hown ⟨b, off, none⟩ ks.length cap (spK ks) rfl (spK_len ks) (spK_cell hcW) spK_one ?c3 ?c4 ?c5 ?_)
      case c3 => unfold maxLen; omega
      case c4 => omega
      case c5 => simp; omega
      intro v' w1 hown' hgrow hnil
      have HO' : Hid (OwnC w w1 v' ks x0 x1 y0 y1) := by
        have hsz := hgrow.size
        simp at hsz
        refine Lib.hid ⟨SlK.of (by simpa using hown') h40, ?_, ?_, by omega⟩
        · refine hbW.trans ⟨hgrow.os, hgrow.tape, hgrow.output, by simp; omega, fun k hk => ?_⟩
          exact hgrow.block k (by simp; omega) (by simp [Value.ownBlock]; omega)
        · have F : ∀ bb o x, bb < w.heap.size + 1 + 1 → ((((w.alloc (.cells #[.int .i64 x0, .int .i64 x1] 23)).alloc (.cells #[.int .i64 y0, .int .i64 y1] 23)).alloc (.cells #[] 94))).cell? ⟨bb, o, none⟩ = some x → w1.cell? ⟨bb, o, none⟩ = some x := fun bb o x hbb e => by
            rw [World.cell?_of_block (a := ⟨bb, o, none⟩) (hgrow.block bb (by simp; omega) (by simp [Value.ownBlock]; omega))]; exact e
          exact Cells.cons (F _ _ _ (by omega) hK.first) (Cells.cons (F _ _ _ (by omega) hK.rest.first) (Cells.cons (F _ _ _ (by omega) hK.rest.rest.first) (Cells.cons (F _ _ _ (by omega) hK.rest.rest.rest.first) (Cells.nil _))))
      clear hown' hgrow hnil hown hbW hK hcW hcells hi hz0 hz1 hz2
      go_wp2_with fail
      go_meet
      case rel => exact HO'.out
  case rest =>
    have HO := Lib.hid hcut
    clear hcut hi hz0 hz1 hz2
    generalize wc = w0 at *
    obtain ⟨A, hA⟩ : ∃ x, (valueS ks x0 x1).1 = x := ⟨_, rfl⟩
    obtain ⟨B, hB⟩ : ∃ x, (valueS ks x0 x1).2 = x := ⟨_, rfl⟩
    obtain ⟨n, hn⟩ : ∃ x, valueN ks x0 x1 = x := ⟨_, rfl⟩
    have HV : Hid (valueE ks x0 x1 = .returned (.tuple #[sp A B, .int .i64 n])) := Lib.hid (by unfold valueE; rw [hA, hB, hn])
    clear hA hB hn
    have a0 := HO.out.cells.first
    have a1 := HO.out.cells.rest.first
    have b0 := HO.out.cells.rest.rest.first
    have b1 := HO.out.cells.rest.rest.rest.first
    have z1 := HO.out.size
    have z2 : w.heap.size < _ := Nat.lt_of_succ_lt z1
    go_wp2_with fail
    refine (value_any _ ks x0 x1 _ HO.out.slk).mono ?_
    rintro e w1 ⟨rfl, hb1⟩
    rw [HV.out]
    have HO1 := Lib.hid (HO.out.later hb1)
    clear hb1 HO a0 a1 b0 b1 z1 z2
    have a0 := HO1.out.cells.first
    have a1 := HO1.out.cells.rest.first
    have b0 := HO1.out.cells.rest.rest.first
    have b1 := HO1.out.cells.rest.rest.rest.first
    have z1 := HO1.out.size
    have z2 : w.heap.size < _ := Nat.lt_of_succ_lt z1
    go_wp2_with fail
    refine (rvalue_any _ ks x0 x1 _ (HS.out.later (HO1.out.box _).below)).mono ?_
    rintro e w2 ⟨rfl, hb2⟩
    rw [HV.out]
    have HO2 := Lib.hid ((HO1.out.box _).later hb2)
    have K2 := Lib.hid (((Cells.nil w1).box (x := .int .i64 A) (y := .int .i64 B) (t := 23)).later hb2)
    clear hb2 HO1 a0 a1 b0 b1 z1 z2
    have a0 := HO2.out.cells.first
    have a1 := HO2.out.cells.rest.first
    have b0 := HO2.out.cells.rest.rest.first
    have b1 := HO2.out.cells.rest.rest.rest.first
    have z1 := HO2.out.size
    have z2 : w.heap.size < _ := Nat.lt_of_succ_lt z1
    go_wp2_with fail
    refine (may_any _ ks y0 y1 _ (HO2.out.box _).slk).mono ?_
    rintro e w3 hr
    obtain ⟨s1, rfl, ho, hb3⟩ := hr
    have HO3 := Lib.hid ((HO2.out.box _).later hb3)
    have K3 := Lib.hid ((K2.out.box (x := .int .i64 A) (y := .int .i64 B) (t := 23)).later hb3)
    have S1 := Lib.hid (SpC.of ho)
    clear hb3 HO2 K2 ho a0 a1 b0 b1 z1 z2
    have a0 := HO3.out.cells.first
    have a1 := HO3.out.cells.rest.first
    have b0 := HO3.out.cells.rest.rest.first
    have b1 := HO3.out.cells.rest.rest.rest.first
    have z1 := HO3.out.size
    have z2 : w.heap.size < _ := Nat.lt_of_succ_lt z1
    go_wp2_with fail
    refine (rmay_any _ ks y0 y1 _ (HS.out.later HO3.out.below)).mono ?_
    rintro e w4 hr
    obtain ⟨s2, rfl, ho, hb4⟩ := hr
    have HO4 := Lib.hid (HO3.out.later hb4)
    have K4 := Lib.hid (K3.out.later hb4)
    replace S1 := Lib.hid (S1.out.later hb4)
    have S2 := Lib.hid (SpC.of ho)
    clear hb4 HO3 K3 ho a0 a1 b0 b1 z1 z2
    have a0 := HO4.out.cells.first
    have a1 := HO4.out.cells.rest.first
    have b0 := HO4.out.cells.rest.rest.first
    have b1 := HO4.out.cells.rest.rest.rest.first
    have z1 := HO4.out.size
    have z2 : w.heap.size < _ := Nat.lt_of_succ_lt z1
    go_wp2_with fail
    refine (must_any _ ks y0 y1 _ HO4.out.slk).mono ?_
    rintro e w5 hr
    obtain ⟨s3, rfl, ho, hb5⟩ := hr
    have HO5 := Lib.hid (HO4.out.later hb5)
    have K5 := Lib.hid (K4.out.later hb5)
    replace S1 := Lib.hid (S1.out.later hb5)
    replace S2 := Lib.hid (S2.out.later hb5)
    have S3 := Lib.hid (SpC.of ho)
    clear hb5 HO4 K4 ho a0 a1 b0 b1 z1 z2
    have a0 := HO5.out.cells.first
    have a1 := HO5.out.cells.rest.first
    have b0 := HO5.out.cells.rest.rest.first
    have b1 := HO5.out.cells.rest.rest.rest.first
    have z1 := HO5.out.size
    have z2 : w.heap.size < _ := Nat.lt_of_succ_lt z1
    go_wp2_with fail
    refine (rmust_any _ ks y0 y1 _ (HS.out.later HO5.out.below)).mono ?_
    rintro e w6 hr
    obtain ⟨s4, rfl, ho, hb6⟩ := hr
    have HO6 := Lib.hid (HO5.out.later hb6)
    have K6 := Lib.hid (K5.out.later hb6)
    replace S1 := Lib.hid (S1.out.later hb6)
    replace S2 := Lib.hid (S2.out.later hb6)
    replace S3 := Lib.hid (S3.out.later hb6)
    have S4 := Lib.hid (SpC.of ho)
    clear hb6 HO5 K5 ho a0 a1 b0 b1 z1 z2
    go_wp2_with fail
    refine (checkTable_any _ ks _ HO6.out.slk).mono ?_
    rintro e w7 ⟨rfl, hb7⟩
    have HO7 := Lib.hid (HO6.out.later hb7)
    have K7 := Lib.hid (K6.out.later hb7)
    replace S1 := Lib.hid (S1.out.later hb7)
    replace S2 := Lib.hid (S2.out.later hb7)
    replace S3 := Lib.hid (S3.out.later hb7)
    replace S4 := Lib.hid (S4.out.later hb7)
    clear hb7 HO6 K6
    go_wp2_with fail
    refine (rcheckTable_any _ ks _ (HS.out.later HO7.out.below)).mono ?_
    rintro e w8 ⟨rfl, hb8⟩
    have HO8 := Lib.hid (HO7.out.later hb8)
    have k8 := K7.out.later hb8
    replace S1 := Lib.hid (S1.out.later hb8)
    replace S2 := Lib.hid (S2.out.later hb8)
    replace S3 := Lib.hid (S3.out.later hb8)
    replace S4 := Lib.hid (S4.out.later hb8)
    clear hb8 HO7 K7
    have c0 := k8.first
    have c1 := k8.rest.first
    have d0 := k8.rest.rest.first
    have d1 := k8.rest.rest.rest.first
    have l1 := World.block_lt_of_cell? _ _ c0
    have l2 := World.block_lt_of_cell? _ _ d0
    clear k8
    go_wp2_with fail
    refine (sameSpans_any s1 s2 _ _ _ S1.out S2.out (mayL_len _ _ _ _ h40)).mono ?_
    rintro e w9 ⟨rfl, hb9⟩
    rw [show decide (mayL (mayS y0 y1) ks y0 y1 = mayL (mayS y0 y1) ks y0 y1) = true by simp]
    have HO9 := Lib.hid (HO8.out.later hb9)
    replace S3 := Lib.hid (S3.out.later hb9)
    replace S4 := Lib.hid (S4.out.later hb9)
    clear hb9 HO8 S1 S2 c0 c1 d0 d1 l1 l2
    go_wp2_with fail
    refine (sameSpans_any s3 s4 _ _ _ S3.out S4.out (mayL_len _ _ _ _ h40)).mono ?_
    rintro e w10 ⟨rfl, hb10⟩
    rw [show decide (mayL (mustS y0 y1) ks y0 y1 = mayL (mustS y0 y1) ks y0 y1) = true by simp]
    have HO10 := Lib.hid (HO9.out.later hb10)
    clear hb10 HO9 S3 S4
    go_wp2_with fail
    refine (sameKnots_any _ _ ks ks _ HO10.out.slk (HS.out.later HO10.out.below)).mono ?_
    rintro e w11 ⟨rfl, hb11⟩
    rw [show decide (ks = ks) = true by simp]
    have HO11 := Lib.hid (HO10.out.later hb11)
    clear hb11 HO10
    go_wp2_with fail
    go_returns
    exact ⟨rfl, HO11.out.below⟩
end Go.Proofs.Ytflgdckeinappaa
