/- Package trim: inOrder, isLoad, isLimit, isFrame; CheckLoads, CheckLimits, CheckFrames. -/
import Derived.Test.YtldnpnplgfkebaaTSl
import Derived.Test.YtldnpnplgfkebaaTMost
namespace Go.Proofs.Ytldnpnplgfkebaa
open Go.RowKit

set_option maxHeartbeats 400000 in
theorem inOrder_any (b off : Nat) (l : List Int) (w : World) (hl0 : 1 ≤ l.length) (hl : l.length ≤ 1000) (hc : intCells w b off l) :
    Calls Try.prog 75 #[.slice (some ⟨b, off, none⟩) l.length l.length] w fun e w' => e = .returned (.bool (sortedB l)) ∧ Below w.heap.size w w' := by
  go_enter Try.func75, Try.ntmps75
  go_wp2_with fail
  refine (isSorted_any b off l _ hl0 hl hc).mono ?_
  rintro e w1 ⟨rfl, hb1⟩
  obtain ⟨u, hu⟩ : ∃ u, sortedB l = u := ⟨_, rfl⟩
  rw [hu]
  go_wp2_with fail
  go_returns
  exact ⟨ret_bool hu.symm, hb1⟩
theorem inOrder3 (B : Nat) (x y z : Int) (w : World) (h0 : w.cell? ⟨B, 0, none⟩ = some (.int .i64 x)) (h1 : w.cell? ⟨B, 1, none⟩ = some (.int .i64 y)) (h2 : w.cell? ⟨B, 2, none⟩ = some (.int .i64 z)) :
    Calls Try.prog 75 #[.slice (some ⟨B, 0, none⟩) 3 3] w fun e w' => e = .returned (.bool (inB y x z)) ∧ Below w.heap.size w w' := by
  refine (inOrder_any B 0 [x, y, z] w (by simp) (by simp) (intCells_cons h0 (intCells_cons h1 (intCells_cons h2 (intCells_nil _ _ _))))).mono fun e w' ⟨he, hb⟩ => ⟨he.trans (ret_bool ?_), hb⟩
  simp [sortedB, inB]
theorem inOrder4 (B : Nat) (x y z t : Int) (w : World) (h0 : w.cell? ⟨B, 0, none⟩ = some (.int .i64 x)) (h1 : w.cell? ⟨B, 1, none⟩ = some (.int .i64 y)) (h2 : w.cell? ⟨B, 2, none⟩ = some (.int .i64 z)) (h3 : w.cell? ⟨B, 3, none⟩ = some (.int .i64 t)) :
    Calls Try.prog 75 #[.slice (some ⟨B, 0, none⟩) 4 4] w fun e w' => e = .returned (.bool (spB y z x t)) ∧ Below w.heap.size w w' := by
  refine (inOrder_any B 0 [x, y, z, t] w (by simp) (by simp) (intCells_cons h0 (intCells_cons h1 (intCells_cons h2 (intCells_cons h3 (intCells_nil _ _ _)))))).mono fun e w' ⟨he, hb⟩ => ⟨he.trans (ret_bool ?_), hb⟩
  simp [sortedB, spB]

set_option maxHeartbeats 400000 in
theorem isPlace_any (n : Int) (w : World) : Calls Try.prog 106 #[.int .i64 n] w fun e w' => e = .returned (.bool (inB n (-20000) 20000)) ∧ Below w.heap.size w w' := by
  go_enter Try.func106, Try.ntmps106
  go_wp2_with fail
  refine (inOrder3 _ (-20000) n 20000 _ (by go_cell) (by go_cell) (by go_cell)).mono ?_
  rintro e w1 ⟨rfl, hb1⟩
  obtain ⟨hB, hc, hf⟩ := after (w := w) (by go_grown) hb1
  obtain ⟨u, hu⟩ : ∃ u, inB n (-20000) 20000 = u := ⟨_, rfl⟩
  rw [hu]
  go_wp2_with fail
  go_returns
  exact ⟨ret_bool hu.symm, hB⟩


set_option maxHeartbeats 1000000 in
theorem isLoad_any (l : Ld) (w : World) : Calls Try.prog 52 #[ldV l] w fun e w' => e = .returned (.bool l.ok) ∧ Below w.heap.size w w' := by
  go_enter Try.func52, Try.ntmps52
  go_wp2_with fail
  refine (inOrder4 _ (-20000) l.a0 l.a1 20000 _ (by go_cell) (by go_cell) (by go_cell) (by go_cell)).mono ?_
  rintro e w1 ⟨rfl, hb1⟩
  have hB1 : Below w.heap.size w w1 := (after (w := w) (by go_grown) hb1).1
  have k1 : LdAt w1 w.heap.size 0 l := LdAt.later ⟨by go_cell, by go_cell, by go_cell, by go_cell⟩ hb1
  have c2 := k1.c2
  have c3 := k1.c3
  have hz1 : w.heap.size < w1.heap.size := World.block_lt_of_cell? _ _ c2
  clear k1 hb1
  by_cases h1 : spB l.a0 l.a1 (-20000) 20000 = true
  rotate_left 1
  · skip
    rw [show spB l.a0 l.a1 (-20000) 20000 = false by simpa using h1]
    have H1 := Lib.hid (show spB l.a0 l.a1 (-20000) 20000 = false by simpa using h1)
    clear h1
    go_wp2_with fail
    go_returns
    exact ⟨ret_bool (by unfold Ld.ok; rw [H1.out]; simp), by go_grown⟩
  rw [h1]
  have H1 := Lib.hid h1
  clear h1
  go_wp2_with fail
  refine (inOrder4 _ (-1073741824) l.w0 l.w1 1073741824 _ (by go_cell) (by go_cell) (by go_cell) (by go_cell)).mono ?_
  rintro e w2 ⟨rfl, hb2⟩
  have hB2 : Below w.heap.size w w2 := (after (w := w) (by go_grown) hb2).1
  clear hb2 hB1 c2 c3
  obtain ⟨u, hu⟩ : ∃ u, spB l.w0 l.w1 (-1073741824) 1073741824 = u := ⟨_, rfl⟩
  rw [hu]
  have H2 := Lib.hid hu
  clear hu
  go_wp2_with fail
  go_returns
  exact ⟨ret_bool (by unfold Ld.ok; rw [H1.out, H2.out]; simp), by go_grown⟩
set_option maxHeartbeats 1000000 in
theorem isLimit_any (l : Li) (w : World) : Calls Try.prog 55 #[liV l] w fun e w' => e = .returned (.bool l.ok) ∧ Below w.heap.size w w' := by
  go_enter Try.func55, Try.ntmps55
  go_wp2_with fail
  refine (inOrder3 _ (-1000) l.a 1000 _ (by go_cell) (by go_cell) (by go_cell)).mono ?_
  rintro e w1 ⟨rfl, hb1⟩
  have hB1 : Below w.heap.size w w1 := (after (w := w) (by go_grown) hb1).1
  have k1 : LiAt w1 w.heap.size 0 l := LiAt.later ⟨by go_cell, by go_cell, by go_cell⟩ hb1
  have c1 := k1.c1
  have c2 := k1.c2
  have hz1 : w.heap.size < w1.heap.size := World.block_lt_of_cell? _ _ c2
  clear k1 hb1
  by_cases h1 : inB l.a (-1000) 1000 = true
  rotate_left 1
  · skip
    rw [show inB l.a (-1000) 1000 = false by simpa using h1]
    have H1 := Lib.hid (show inB l.a (-1000) 1000 = false by simpa using h1)
    clear h1
    go_wp2_with fail
    go_returns
    exact ⟨ret_bool (by unfold Li.ok; rw [H1.out]; simp), by go_grown⟩
  rw [h1]
  have H1 := Lib.hid h1
  clear h1
  go_wp2_with fail
  refine (inOrder3 _ (-1000) l.b 1000 _ (by go_cell) (by go_cell) (by go_cell)).mono ?_
  rintro e w2 ⟨rfl, hb2⟩
  have hB2 : Below w.heap.size w w2 := (after (w := w) (by go_grown) hb2).1
  have c2' : w2.cell? ⟨w.heap.size, 2, none⟩ = some (.int .i64 l.c) := cell_later hb2 (by go_cell)
  have hz2 : w.heap.size < w2.heap.size := World.block_lt_of_cell? _ _ c2'
  clear hb2 hB1 c1 c2 hz1
  by_cases h2 : inB l.b (-1000) 1000 = true
  rotate_left 1
  · skip
    rw [show inB l.b (-1000) 1000 = false by simpa using h2]
    have H2 := Lib.hid (show inB l.b (-1000) 1000 = false by simpa using h2)
    clear h2
    go_wp2_with fail
    go_returns
    exact ⟨ret_bool (by unfold Li.ok; rw [H1.out, H2.out]; simp), by go_grown⟩
  rw [h2]
  have H2 := Lib.hid h2
  clear h2
  go_wp2_with fail
  refine (inOrder3 _ (-1000000000000000000) l.c 1000000000000000000 _ (by go_cell) (by go_cell) (by go_cell)).mono ?_
  rintro e w3 ⟨rfl, hb3⟩
  have hB3 : Below w.heap.size w w3 := (after (w := w) (by go_grown) hb3).1
  clear hb3 hB2 c2' hz2
  obtain ⟨u, hu⟩ : ∃ u, inB l.c (-1000000000000000000) 1000000000000000000 = u := ⟨_, rfl⟩
  rw [hu]
  have H3 := Lib.hid hu
  clear hu
  go_wp2_with fail
  go_returns
  exact ⟨ret_bool (by unfold Li.ok; rw [H1.out, H2.out, H3.out]; simp), by go_grown⟩
set_option maxHeartbeats 1000000 in
theorem isFrame_any (l : Fr) (w : World) : Calls Try.prog 58 #[frV l] w fun e w' => e = .returned (.bool l.ok) ∧ Below w.heap.size w w' := by
  go_enter Try.func58, Try.ntmps58
  go_wp2_with fail
  refine (isPlace_any l.p _).mono ?_
  rintro e w1 ⟨rfl, hb1⟩
  have hB1 : Below w.heap.size w w1 := (after (w := w) (by go_grown) hb1).1
  have k1 : FrAt w1 w.heap.size 0 l := FrAt.later ⟨by go_cell, by go_cell, by go_cell⟩ hb1
  have c1 := k1.c1
  have c2 := k1.c2
  have hz1 : w.heap.size < w1.heap.size := World.block_lt_of_cell? _ _ c2
  clear k1 hb1
  by_cases h1 : inB l.p (-20000) 20000 = true
  rotate_left 1
  · skip
    rw [show inB l.p (-20000) 20000 = false by simpa using h1]
    have H1 := Lib.hid (show inB l.p (-20000) 20000 = false by simpa using h1)
    clear h1
    go_wp2_with fail
    go_returns
    exact ⟨ret_bool (by unfold Fr.ok; rw [H1.out]; simp), by go_grown⟩
  rw [h1]
  have H1 := Lib.hid h1
  clear h1
  go_wp2_with fail
  refine (inOrder3 _ 0 l.s 1000000000000 _ (by go_cell) (by go_cell) (by go_cell)).mono ?_
  rintro e w2 ⟨rfl, hb2⟩
  have hB2 : Below w.heap.size w w2 := (after (w := w) (by go_grown) hb2).1
  have c2' : w2.cell? ⟨w.heap.size, 2, none⟩ = some (.int .i64 l.b) := cell_later hb2 (by go_cell)
  have hz2 : w.heap.size < w2.heap.size := World.block_lt_of_cell? _ _ c2'
  clear hb2 hB1 c1 c2 hz1
  by_cases h2 : inB l.s 0 1000000000000 = true
  rotate_left 1
  · skip
    rw [show inB l.s 0 1000000000000 = false by simpa using h2]
    have H2 := Lib.hid (show inB l.s 0 1000000000000 = false by simpa using h2)
    clear h2
    go_wp2_with fail
    go_returns
    exact ⟨ret_bool (by unfold Fr.ok; rw [H1.out, H2.out]; simp), by go_grown⟩
  rw [h2]
  have H2 := Lib.hid h2
  clear h2
  go_wp2_with fail
  refine (inOrder3 _ 0 l.b 10000000000000000 _ (by go_cell) (by go_cell) (by go_cell)).mono ?_
  rintro e w3 ⟨rfl, hb3⟩
  have hB3 : Below w.heap.size w w3 := (after (w := w) (by go_grown) hb3).1
  clear hb3 hB2 c2' hz2
  obtain ⟨u, hu⟩ : ∃ u, inB l.b 0 10000000000000000 = u := ⟨_, rfl⟩
  rw [hu]
  have H3 := Lib.hid hu
  clear hu
  go_wp2_with fail
  go_returns
  exact ⟨ret_bool (by unfold Fr.ok; rw [H1.out, H2.out, H3.out]; simp), by go_grown⟩
end Go.Proofs.Ytldnpnplgfkebaa
/- Package trim: all, checkList, over loads, limits and frames; CheckLoads, CheckLimits, CheckFrames. -/
namespace Go.Proofs.Ytldnpnplgfkebaa
open Go.RowKit

set_option maxHeartbeats 2000000 in
theorem allLd_any (v : Value) (l : List Ld) (w : World) (hs : SlAny LdAt 4 w v l) :
    Calls Try.prog 103 #[v, .func (.func 52) #[] #[]] w fun e w' => e = .returned (.bool (l.all Ld.ok)) ∧ Below w.heap.size w w' := by
  obtain ⟨a, cap, rfl, hlen, hcap⟩ := hs.form
  have HS := Lib.hid hs
  clear hs
  go_enter Try.func103, Try.ntmps103
  go_wp2_with fail
  go_loopw [9] (fun v9 wr => AllHead Ld.ok l w wr v9) (fun v9 _ => l.length - (intOf v9).toNat)
  case atStart => exact ⟨0, by omega, rfl, rfl, Below.refl _ _⟩
  case round =>
    obtain ⟨k, hk, rfl, he, hbr⟩ := hrel
    have HE := Lib.hid he
    clear he
    by_cases hlt : k < l.length
    · obtain ⟨b, off, c, rfl, hb, hc, hat⟩ := HS.out.at hlt
      obtain ⟨c0, c1, c2, c3⟩ := LdAt.later hat (show Below w.heap.size w wr from hbr)
      have hlt' : (k : Int) < (l.length : Int) := by omega
      have hk0 : (0 : Int) ≤ (k : Int) := by omega
      have HC := Lib.hid hc
      clear hc hat
      go_wp2_with fail
      refine (isLoad_any c _).mono ?_
      rintro e w1 ⟨rfl, hb1⟩
      have hB1 : Below w.heap.size w w1 := hbr.trans ((two (W := wr) (by go_grown) hb1).mono hbr.size)
      clear hb1
      by_cases h : c.ok = true
      · rw [h]
        have H := Lib.hid h
        clear h
        go_wp2_with fail
        go_roundw
        case rel => exact ⟨k + 1, by omega, by go_num, by rw [HE.out, drop_some HC.out, List.all_cons, H.out]; rfl, hB1⟩
        case measure => simp [intOf]; omega
      · rw [show c.ok = false by simpa using h]
        have H := Lib.hid (show c.ok = false by simpa using h)
        clear h
        go_wp2_with fail
        go_returns
        exact ⟨ret_bool (by rw [HE.out, drop_some HC.out, List.all_cons, H.out]; rfl), hB1⟩
    · have hw : l.all Ld.ok = true := by rw [HE.out, drop_none hlt]; rfl
      have HW := Lib.hid hw
      clear hw
      go_wp2_with fail
      go_returns
      exact ⟨ret_bool HW.out.symm, hbr⟩
set_option maxHeartbeats 1000000 in
theorem checkListLd_any (v : Value) (l : List Ld) (most : Nat) (bad : Int) (w : World) (hs : SlAny LdAt 4 w v l) :
    Calls Try.prog 51 #[v, .int .i64 most, .func (.func 52) #[] #[], .int .i64 bad] w fun e w' => e = .returned (.int .i64 (listN most Ld.ok bad l)) ∧ Below w.heap.size w w' := by
  obtain ⟨a, cap, rfl, hlen, hcap⟩ := hs.form
  have HS := Lib.hid hs
  clear hs
  by_cases hm : most < l.length
  · have hm' : (most : Int) < (l.length : Int) := by omega
    have HM := Lib.hid hm
    go_enter Try.func51, Try.ntmps51
    go_wp2_with fail
    go_returns
    exact ⟨ret_int (by unfold listN; rw [if_pos HM.out]), by go_grown⟩
  · have hm' : ¬ (most : Int) < (l.length : Int) := by omega
    have HM := Lib.hid hm
    go_enter Try.func51, Try.ntmps51
    go_wp2_with fail
    refine (allLd_any _ l _ HS.out).mono ?_
    rintro e w1 ⟨rfl, hb1⟩
    by_cases h : l.all Ld.ok = true
    · rw [h]
      have H := Lib.hid h
      clear h
      go_wp2_with fail
      go_returns
      exact ⟨ret_int (by unfold listN; rw [if_neg HM.out, if_pos H.out]), by go_grown⟩
    · rw [show l.all Ld.ok = false by simpa using h]
      have H := Lib.hid h
      clear h
      go_wp2_with fail
      go_returns
      exact ⟨ret_int (by unfold listN; rw [if_neg HM.out, if_neg H.out]), by go_grown⟩
set_option maxHeartbeats 400000 in
theorem checkLd_any (v : Value) (l : List Ld) (w : World) (hs : SlAny LdAt 4 w v l) :
    Calls Try.prog 16 #[v] w fun e w' => e = .returned (.int .i64 (loadsN l)) ∧ Below w.heap.size w w' := by
  have HS := Lib.hid hs
  clear hs
  go_enter Try.func16, Try.ntmps16
  go_wp2_with fail
  refine (checkListLd_any _ l 40 40 _ HS.out).mono ?_
  rintro e w1 ⟨rfl, hb1⟩
  obtain ⟨n, hn⟩ : ∃ n, listN 40 Ld.ok 40 l = n := ⟨_, rfl⟩
  rw [hn]
  have HN := Lib.hid hn
  clear hn
  go_wp2_with fail
  go_returns
  exact ⟨ret_int HN.out.symm, hb1⟩
set_option maxHeartbeats 2000000 in
theorem allLi_any (v : Value) (l : List Li) (w : World) (hs : SlAny LiAt 3 w v l) :
    Calls Try.prog 104 #[v, .func (.func 55) #[] #[]] w fun e w' => e = .returned (.bool (l.all Li.ok)) ∧ Below w.heap.size w w' := by
  obtain ⟨a, cap, rfl, hlen, hcap⟩ := hs.form
  have HS := Lib.hid hs
  clear hs
  go_enter Try.func104, Try.ntmps104
  go_wp2_with fail
  go_loopw [9] (fun v9 wr => AllHead Li.ok l w wr v9) (fun v9 _ => l.length - (intOf v9).toNat)
  case atStart => exact ⟨0, by omega, rfl, rfl, Below.refl _ _⟩
  case round =>
    obtain ⟨k, hk, rfl, he, hbr⟩ := hrel
    have HE := Lib.hid he
    clear he
    by_cases hlt : k < l.length
    · obtain ⟨b, off, c, rfl, hb, hc, hat⟩ := HS.out.at hlt
      obtain ⟨c0, c1, c2⟩ := LiAt.later hat (show Below w.heap.size w wr from hbr)
      have hlt' : (k : Int) < (l.length : Int) := by omega
      have hk0 : (0 : Int) ≤ (k : Int) := by omega
      have HC := Lib.hid hc
      clear hc hat
      go_wp2_with fail
      refine (isLimit_any c _).mono ?_
      rintro e w1 ⟨rfl, hb1⟩
      have hB1 : Below w.heap.size w w1 := hbr.trans ((two (W := wr) (by go_grown) hb1).mono hbr.size)
      clear hb1
      by_cases h : c.ok = true
      · rw [h]
        have H := Lib.hid h
        clear h
        go_wp2_with fail
        go_roundw
        case rel => exact ⟨k + 1, by omega, by go_num, by rw [HE.out, drop_some HC.out, List.all_cons, H.out]; rfl, hB1⟩
        case measure => simp [intOf]; omega
      · rw [show c.ok = false by simpa using h]
        have H := Lib.hid (show c.ok = false by simpa using h)
        clear h
        go_wp2_with fail
        go_returns
        exact ⟨ret_bool (by rw [HE.out, drop_some HC.out, List.all_cons, H.out]; rfl), hB1⟩
    · have hw : l.all Li.ok = true := by rw [HE.out, drop_none hlt]; rfl
      have HW := Lib.hid hw
      clear hw
      go_wp2_with fail
      go_returns
      exact ⟨ret_bool HW.out.symm, hbr⟩
set_option maxHeartbeats 1000000 in
theorem checkListLi_any (v : Value) (l : List Li) (most : Nat) (bad : Int) (w : World) (hs : SlAny LiAt 3 w v l) :
    Calls Try.prog 54 #[v, .int .i64 most, .func (.func 55) #[] #[], .int .i64 bad] w fun e w' => e = .returned (.int .i64 (listN most Li.ok bad l)) ∧ Below w.heap.size w w' := by
  obtain ⟨a, cap, rfl, hlen, hcap⟩ := hs.form
  have HS := Lib.hid hs
  clear hs
  by_cases hm : most < l.length
  · have hm' : (most : Int) < (l.length : Int) := by omega
    have HM := Lib.hid hm
    go_enter Try.func54, Try.ntmps54
    go_wp2_with fail
    go_returns
    exact ⟨ret_int (by unfold listN; rw [if_pos HM.out]), by go_grown⟩
  · have hm' : ¬ (most : Int) < (l.length : Int) := by omega
    have HM := Lib.hid hm
    go_enter Try.func54, Try.ntmps54
    go_wp2_with fail
    refine (allLi_any _ l _ HS.out).mono ?_
    rintro e w1 ⟨rfl, hb1⟩
    by_cases h : l.all Li.ok = true
    · rw [h]
      have H := Lib.hid h
      clear h
      go_wp2_with fail
      go_returns
      exact ⟨ret_int (by unfold listN; rw [if_neg HM.out, if_pos H.out]), by go_grown⟩
    · rw [show l.all Li.ok = false by simpa using h]
      have H := Lib.hid h
      clear h
      go_wp2_with fail
      go_returns
      exact ⟨ret_int (by unfold listN; rw [if_neg HM.out, if_neg H.out]), by go_grown⟩
set_option maxHeartbeats 400000 in
theorem checkLi_any (v : Value) (l : List Li) (w : World) (hs : SlAny LiAt 3 w v l) :
    Calls Try.prog 18 #[v] w fun e w' => e = .returned (.int .i64 (limitsN l)) ∧ Below w.heap.size w w' := by
  have HS := Lib.hid hs
  clear hs
  go_enter Try.func18, Try.ntmps18
  go_wp2_with fail
  refine (checkListLi_any _ l 12 41 _ HS.out).mono ?_
  rintro e w1 ⟨rfl, hb1⟩
  obtain ⟨n, hn⟩ : ∃ n, listN 12 Li.ok 41 l = n := ⟨_, rfl⟩
  rw [hn]
  have HN := Lib.hid hn
  clear hn
  go_wp2_with fail
  go_returns
  exact ⟨ret_int HN.out.symm, hb1⟩
set_option maxHeartbeats 2000000 in
theorem allFr_any (v : Value) (l : List Fr) (w : World) (hs : SlAny FrAt 3 w v l) :
    Calls Try.prog 105 #[v, .func (.func 58) #[] #[]] w fun e w' => e = .returned (.bool (l.all Fr.ok)) ∧ Below w.heap.size w w' := by
  obtain ⟨a, cap, rfl, hlen, hcap⟩ := hs.form
  have HS := Lib.hid hs
  clear hs
  go_enter Try.func105, Try.ntmps105
  go_wp2_with fail
  go_loopw [9] (fun v9 wr => AllHead Fr.ok l w wr v9) (fun v9 _ => l.length - (intOf v9).toNat)
  case atStart => exact ⟨0, by omega, rfl, rfl, Below.refl _ _⟩
  case round =>
    obtain ⟨k, hk, rfl, he, hbr⟩ := hrel
    have HE := Lib.hid he
    clear he
    by_cases hlt : k < l.length
    · obtain ⟨b, off, c, rfl, hb, hc, hat⟩ := HS.out.at hlt
      obtain ⟨c0, c1, c2⟩ := FrAt.later hat (show Below w.heap.size w wr from hbr)
      have hlt' : (k : Int) < (l.length : Int) := by omega
      have hk0 : (0 : Int) ≤ (k : Int) := by omega
      have HC := Lib.hid hc
      clear hc hat
      go_wp2_with fail
      refine (isFrame_any c _).mono ?_
      rintro e w1 ⟨rfl, hb1⟩
      have hB1 : Below w.heap.size w w1 := hbr.trans ((two (W := wr) (by go_grown) hb1).mono hbr.size)
      clear hb1
      by_cases h : c.ok = true
      · rw [h]
        have H := Lib.hid h
        clear h
        go_wp2_with fail
        go_roundw
        case rel => exact ⟨k + 1, by omega, by go_num, by rw [HE.out, drop_some HC.out, List.all_cons, H.out]; rfl, hB1⟩
        case measure => simp [intOf]; omega
      · rw [show c.ok = false by simpa using h]
        have H := Lib.hid (show c.ok = false by simpa using h)
        clear h
        go_wp2_with fail
        go_returns
        exact ⟨ret_bool (by rw [HE.out, drop_some HC.out, List.all_cons, H.out]; rfl), hB1⟩
    · have hw : l.all Fr.ok = true := by rw [HE.out, drop_none hlt]; rfl
      have HW := Lib.hid hw
      clear hw
      go_wp2_with fail
      go_returns
      exact ⟨ret_bool HW.out.symm, hbr⟩
set_option maxHeartbeats 1000000 in
theorem checkListFr_any (v : Value) (l : List Fr) (most : Nat) (bad : Int) (w : World) (hs : SlAny FrAt 3 w v l) :
    Calls Try.prog 57 #[v, .int .i64 most, .func (.func 58) #[] #[], .int .i64 bad] w fun e w' => e = .returned (.int .i64 (listN most Fr.ok bad l)) ∧ Below w.heap.size w w' := by
  obtain ⟨a, cap, rfl, hlen, hcap⟩ := hs.form
  have HS := Lib.hid hs
  clear hs
  by_cases hm : most < l.length
  · have hm' : (most : Int) < (l.length : Int) := by omega
    have HM := Lib.hid hm
    go_enter Try.func57, Try.ntmps57
    go_wp2_with fail
    go_returns
    exact ⟨ret_int (by unfold listN; rw [if_pos HM.out]), by go_grown⟩
  · have hm' : ¬ (most : Int) < (l.length : Int) := by omega
    have HM := Lib.hid hm
    go_enter Try.func57, Try.ntmps57
    go_wp2_with fail
    refine (allFr_any _ l _ HS.out).mono ?_
    rintro e w1 ⟨rfl, hb1⟩
    by_cases h : l.all Fr.ok = true
    · rw [h]
      have H := Lib.hid h
      clear h
      go_wp2_with fail
      go_returns
      exact ⟨ret_int (by unfold listN; rw [if_neg HM.out, if_pos H.out]), by go_grown⟩
    · rw [show l.all Fr.ok = false by simpa using h]
      have H := Lib.hid h
      clear h
      go_wp2_with fail
      go_returns
      exact ⟨ret_int (by unfold listN; rw [if_neg HM.out, if_neg H.out]), by go_grown⟩
set_option maxHeartbeats 400000 in
theorem checkFr_any (v : Value) (l : List Fr) (w : World) (hs : SlAny FrAt 3 w v l) :
    Calls Try.prog 20 #[v] w fun e w' => e = .returned (.int .i64 (framesN l)) ∧ Below w.heap.size w w' := by
  have HS := Lib.hid hs
  clear hs
  go_enter Try.func20, Try.ntmps20
  go_wp2_with fail
  refine (checkListFr_any _ l 12 42 _ HS.out).mono ?_
  rintro e w1 ⟨rfl, hb1⟩
  obtain ⟨n, hn⟩ : ∃ n, listN 12 Fr.ok 42 l = n := ⟨_, rfl⟩
  rw [hn]
  have HN := Lib.hid hn
  clear hn
  go_wp2_with fail
  go_returns
  exact ⟨ret_int HN.out.symm, hb1⟩
end Go.Proofs.Ytldnpnplgfkebaa
/- Package trim: ends, heavinessOf, momentOf, Balance. -/
namespace Go.Proofs.Ytldnpnplgfkebaa
open Go.RowKit

theorem loads_bound {ls : List Ld} (h : ls.all Ld.ok = true) : ∀ l, l ∈ ls → LdB l := fun l hl => Ld.bound (List.all_eq_true.1 h l hl)
theorem loadsN_ok {ls : List Ld} (h : loadsN ls = 0) : ls.length ≤ 40 ∧ ls.all Ld.ok = true := by
  unfold loadsN listN at h
  split at h
  · omega
  · split at h
    · exact ⟨by omega, by assumption⟩
    · omega
theorem mostL_bound {a b : Int} {ls : List Ld} (hs : ScB a b) (hl : ∀ l, l ∈ ls → LdB l) (h50 : ls.length ≤ 50) : -2147637335328358450 ≤ mostL a b ls ∧ mostL a b ls ≤ 2147637335328358450 := by
  have := most_take (k := ls.length) hs hl h50
  rw [List.take_length] at this
  exact this
set_option maxHeartbeats 2000000 in
theorem ends_any (a b : Int) (v : Value) (ls : List Ld) (w : World) (hv : SlLd w v ls) (h50 : ls.length ≤ 50) (hs : ScB a b) (hl : ∀ l, l ∈ ls → LdB l) :
    Calls Try.prog 107 #[sp a b, v] w fun e w' => e = .returned (sp (-mostL (-a) (-b) ls) (mostL a b ls)) ∧ Below w.heap.size w w' := by
  have hs' : ScB (-a) (-b) := by unfold ScB at hs ⊢; omega
  obtain ⟨x0, x1⟩ := mostL_bound hs hl h50
  obtain ⟨y0, y1⟩ := mostL_bound hs' hl h50
  obtain ⟨X, hX⟩ : ∃ X, mostL a b ls = X := ⟨_, rfl⟩
  obtain ⟨Y, hY⟩ : ∃ Y, mostL (-a) (-b) ls = Y := ⟨_, rfl⟩
  rw [hX] at x0 x1
  rw [hY] at y0 y1
  rw [hX, hY]
  have HX := Lib.hid hX
  have HY := Lib.hid hY
  have HV := Lib.hid hv
  have HS := Lib.hid hs
  have HS' := Lib.hid hs'
  have HL := Lib.hid hl
  obtain ⟨a0, a1, b0, b1⟩ := hs
  have eY : IntKind.i64.wrap (-Y) = -Y := IntWalk.i64_in _ ⟨by omega, by omega⟩
  clear hX hY hv hs' hl
  go_enter Try.func107, Try.ntmps107
  go_wp2_with fail
  obtain ⟨W, hW⟩ : ∃ W, ((w.alloc (.cells #[.int .i64 a, .int .i64 b] 117)).alloc (.cells #[.int .i64 0, .int .i64 0] 37)).alloc (.cells #[.int .i64 (-a), .int .i64 (-b)] 117) = W := ⟨_, rfl⟩
  have c0 : W.cell? ⟨w.heap.size, 0, none⟩ = some (.int .i64 a) := by subst hW; go_cell
  have c1 : W.cell? ⟨w.heap.size, 1, none⟩ = some (.int .i64 b) := by subst hW; go_cell
  have d0 : W.cell? ⟨w.heap.size + 1 + 1, 0, none⟩ = some (.int .i64 (-a)) := by subst hW; go_cell
  have d1 : W.cell? ⟨w.heap.size + 1 + 1, 1, none⟩ = some (.int .i64 (-b)) := by subst hW; go_cell
  have hN : Box2 W (w.heap.size + 1) 0 0 := by subst hW; exact ⟨by go_cell, by go_cell, by go_cell, by go_cell⟩
  have hBw : Below w.heap.size w W := by subst hW; go_grown
  have HN := Lib.hid hN
  have HVW := Lib.hid (ldLater HV.out hBw)
  rw [hW]
  clear hW hN
  have hB : Below W.heap.size W W := Below.refl _ _
  go_region_held3 (fun w' => w'.cell? ⟨w.heap.size, 0, none⟩ = some (.int .i64 a) ∧ w'.cell? ⟨w.heap.size, 1, none⟩ = some (.int .i64 b) ∧ w'.cell? ⟨w.heap.size + 1 + 1, 0, none⟩ = some (.int .i64 (-a)) ∧ w'.cell? ⟨w.heap.size + 1 + 1, 1, none⟩ = some (.int .i64 (-b)))
    (first | (go_split_ands; (repeat' apply And.intro) <;> first | assumption | exact cell_later hb (by assumption) | ((repeat rw [cell_far _ _ (by omega)]); assumption)) | go_keep)
    (first
      | (go_at_call 72; refine (most_any _ _ v ls _ (ldLater HVW.out (by first | exact hB | exact hB.drew)) h50 (by first | exact HS.out | exact HS'.out) HL.out).mono ?_; rintro e wx ⟨rfl, hb⟩; have hB : Below W.heap.size W wx := (by first | exact chain hB hb | exact chainD hB hb); have z0 := (HN.out.later hB).c0; have z1 := (HN.out.later hB).c1; have f0 := (HN.out.later hB).f0; have f1 := (HN.out.later hB).f1))
  rw [HX.out, HY.out]
  go_wp2_with fail
  have hBx := hBw.trans (hB.mono hBw.size)
  exact bodyPost_ret (v := sp (-Y) X) (by simp [results, Try.results107, go_sem, *]) rfl ⟨rfl, by go_grown⟩

theorem scb10 : ScB 1 0 := by unfold ScB; omega
theorem scb01 : ScB 0 1 := by unfold ScB; omega
set_option maxHeartbeats 1000000 in
theorem heavinessOf_any (v : Value) (ls : List Ld) (w : World) (hv : SlLd w v ls) (h50 : ls.length ≤ 50) (hl : ∀ l, l ∈ ls → LdB l) :
    Calls Try.prog 61 #[v] w fun e w' => e = .returned (sp (-mostL (-1) (-0) ls) (mostL 1 0 ls)) ∧ Below w.heap.size w w' := by
  have HV := Lib.hid hv
  have HL := Lib.hid hl
  obtain ⟨X, hX⟩ : ∃ X, mostL 1 0 ls = X := ⟨_, rfl⟩
  obtain ⟨Y, hY⟩ : ∃ Y, -mostL (-1) (-0) ls = Y := ⟨_, rfl⟩
  have HX := Lib.hid hX
  have HY := Lib.hid hY
  rw [hX, hY]
  clear hv hl hX hY
  go_enter Try.func61, Try.ntmps61
  go_wp2_with fail
  refine (ends_any 1 0 v ls _ (ldLater HV.out (by go_grown)) h50 scb10 HL.out).mono ?_
  rintro e w1 ⟨rfl, hb1⟩
  rw [HX.out, HY.out]
  have hB1 : Below w.heap.size w w1 := (after (w := w) (by go_grown) hb1).1
  obtain ⟨z0, z1, f0, f1⟩ := show Box2 w1 w.heap.size 0 0 from Box2.later ⟨by go_cell, by go_cell, by go_cell, by go_cell⟩ hb1
  clear hb1
  go_wp2_with fail
  exact bodyPost_ret (v := sp Y X) (by simp [results, Try.results61, go_sem, *]) rfl ⟨rfl, by go_grown⟩
set_option maxHeartbeats 1000000 in
theorem momentOf_any (v : Value) (ls : List Ld) (w : World) (hv : SlLd w v ls) (h50 : ls.length ≤ 50) (hl : ∀ l, l ∈ ls → LdB l) :
    Calls Try.prog 62 #[v] w fun e w' => e = .returned (sp (-mostL (-0) (-1) ls) (mostL 0 1 ls)) ∧ Below w.heap.size w w' := by
  have HV := Lib.hid hv
  have HL := Lib.hid hl
  obtain ⟨X, hX⟩ : ∃ X, mostL 0 1 ls = X := ⟨_, rfl⟩
  obtain ⟨Y, hY⟩ : ∃ Y, -mostL (-0) (-1) ls = Y := ⟨_, rfl⟩
  have HX := Lib.hid hX
  have HY := Lib.hid hY
  rw [hX, hY]
  clear hv hl hX hY
  go_enter Try.func62, Try.ntmps62
  go_wp2_with fail
  refine (ends_any 0 1 v ls _ (ldLater HV.out (by go_grown)) h50 scb01 HL.out).mono ?_
  rintro e w1 ⟨rfl, hb1⟩
  rw [HX.out, HY.out]
  have hB1 : Below w.heap.size w w1 := (after (w := w) (by go_grown) hb1).1
  obtain ⟨z0, z1, f0, f1⟩ := show Box2 w1 w.heap.size 0 0 from Box2.later ⟨by go_cell, by go_cell, by go_cell, by go_cell⟩ hb1
  clear hb1
  go_wp2_with fail
  exact bodyPost_ret (v := sp Y X) (by simp [results, Try.results62, go_sem, *]) rfl ⟨rfl, by go_grown⟩

/-- What Balance returns. -/
def heavyS (ls : List Ld) : Int × Int := if loadsN ls = 0 then (-mostL (-1) (-0) ls, mostL 1 0 ls) else (0, 0)
def momentS (ls : List Ld) : Int × Int := if loadsN ls = 0 then (-mostL (-0) (-1) ls, mostL 0 1 ls) else (0, 0)
set_option maxHeartbeats 2000000 in
theorem balance_any (v : Value) (ls : List Ld) (w : World) (hv : SlLd w v ls) :
    Calls Try.prog 22 #[v] w fun e w' => e = .returned (.tuple #[sp (heavyS ls).1 (heavyS ls).2, sp (momentS ls).1 (momentS ls).2, .int .i64 (loadsN ls)]) ∧ Below w.heap.size w w' := by
  have HV := Lib.hid hv
  obtain ⟨n, hn⟩ : ∃ n, loadsN ls = n := ⟨_, rfl⟩
  have HN := Lib.hid hn
  unfold heavyS momentS
  rw [hn]
  clear hv
  by_cases h0 : n = 0
  · subst h0
    obtain ⟨h40, hok⟩ := loadsN_ok hn
    rw [if_pos rfl, if_pos rfl]
    obtain ⟨A, hA⟩ : ∃ X, -mostL (-1) (-0) ls = X := ⟨_, rfl⟩
    obtain ⟨B, hB⟩ : ∃ X, mostL 1 0 ls = X := ⟨_, rfl⟩
    obtain ⟨C, hC⟩ : ∃ X, -mostL (-0) (-1) ls = X := ⟨_, rfl⟩
    obtain ⟨D, hD⟩ : ∃ X, mostL 0 1 ls = X := ⟨_, rfl⟩
    have HA := Lib.hid hA
    have HB := Lib.hid hB
    have HC := Lib.hid hC
    have HD := Lib.hid hD
    have HL := Lib.hid (loads_bound hok)
    rw [hA, hB, hC, hD]
    clear hA hB hC hD hok hn
    go_enter Try.func22, Try.ntmps22
    go_wp2_with fail
    refine (checkLd_any v ls _ (ldLater HV.out (by go_grown))).mono ?_
    rintro e w1 ⟨rfl, hb1⟩
    rw [HN.out]
    have hB1 : Below w.heap.size w w1 := (after (w := w) (by go_grown) hb1).1
    have R1 := Lib.hid (show Box2 w1 w.heap.size 0 0 from Box2.later ⟨by go_cell, by go_cell, by go_cell, by go_cell⟩ hb1)
    have R2 := Lib.hid (show Box2 w1 (w.heap.size + 1) 0 0 from Box2.later ⟨by go_cell, by go_cell, by go_cell, by go_cell⟩ hb1)
    clear hb1
    go_wp2_with fail
    refine (heavinessOf_any v ls _ (ldLater HV.out hB1) (by omega) HL.out).mono ?_
    rintro e w2 ⟨rfl, hb2⟩
    rw [HA.out, HB.out]
    have hB2 : Below w.heap.size w w2 := hB1.trans (hb2.mono hB1.size)
    replace R1 := Lib.hid (R1.out.later hb2)
    replace R2 := Lib.hid (R2.out.later hb2)
    clear hb2 hB1
    go_wp2_with fail
    refine (momentOf_any v ls _ (ldLater HV.out hB2) (by omega) HL.out).mono ?_
    rintro e w3 ⟨rfl, hb3⟩
    rw [HC.out, HD.out]
    have hB3 : Below w.heap.size w w3 := hB2.trans (hb3.mono hB2.size)
    obtain ⟨r0, r1, f0, f1⟩ := R1.out.later hb3
    obtain ⟨s0, s1, g0, g1⟩ := R2.out.later hb3
    clear hb3 hB2
    have z1 := World.block_lt_of_cell? _ _ s0
    go_wp2_with fail
    exact bodyPost_ret (v := .tuple #[sp A B, sp C D, .int .i64 0]) (by simp [results, Try.results22, go_sem, *]) rfl ⟨rfl, by go_grown⟩
  · rw [if_neg h0, if_neg h0]
    clear hn
    go_enter Try.func22, Try.ntmps22
    go_wp2_with fail
    refine (checkLd_any v ls _ (ldLater HV.out (by go_grown))).mono ?_
    rintro e w1 ⟨rfl, hb1⟩
    rw [HN.out]
    have hB1 : Below w.heap.size w w1 := (after (w := w) (by go_grown) hb1).1
    obtain ⟨r0, r1, f0, f1⟩ := show Box2 w1 w.heap.size 0 0 from Box2.later ⟨by go_cell, by go_cell, by go_cell, by go_cell⟩ hb1
    obtain ⟨s0, s1, g0, g1⟩ := show Box2 w1 (w.heap.size + 1) 0 0 from Box2.later ⟨by go_cell, by go_cell, by go_cell, by go_cell⟩ hb1
    have z1 := World.block_lt_of_cell? _ _ s0
    clear hb1
    go_wp2_with fail
    exact bodyPost_ret (v := .tuple #[sp 0 0, sp 0 0, .int .i64 n]) (by simp [results, Try.results22, go_sem, *]) rfl ⟨rfl, by go_grown⟩
end Go.Proofs.Ytldnpnplgfkebaa
