/- Package trim: what is stowed: holds (places and rooms), parcels (weights and classes), rules. -/
import Derived.Test.YtldnpnplgfkebaaTSlk
namespace Go.Proofs.Ytldnpnplgfkebaa
open Go.RowKit

/-- A hold, as a place with its room; a parcel, as a weight with its class; a rule, as two classes and a distance. -/
def hoOk (h : Pu) : Bool := inB h.p (-20000) 20000 && inB h.w 0 1073741824
def paOk (p : Pu) : Bool := inB p.p 1 1000000 && inB p.w 0 9
def ruOk (r : Li) : Bool := inB r.a 0 9 && inB r.b 0 9 && inB r.c 1 5
set_option maxHeartbeats 1000000 in
theorem isClass_any (n : Int) (w : World) : Calls Try.prog 140 #[.int .i64 n] w fun e w' => e = .returned (.bool (inB n 0 9)) ∧ Below w.heap.size w w' := by
  obtain ⟨u, hu⟩ : ∃ u, inB n 0 9 = u := ⟨_, rfl⟩
  have HU := Lib.hid hu
  rw [hu]
  clear hu
  go_enter Try.func140, Try.ntmps140
  go_wp2_with fail
  refine (inOrder3 _ 0 n 9 _ (by go_cell) (by go_cell) (by go_cell)).mono ?_
  rintro e w1 ⟨rfl, hb1⟩
  rw [HU.out]
  have hB : Below w.heap.size w w1 := (after (w := w) (by go_grown) hb1).1
  clear hb1
  go_wp2_with fail
  go_returns
  exact ⟨rfl, hB⟩
set_option maxHeartbeats 2000000 in
theorem isHold_any (p : Pu) (w : World) : Calls Try.prog 122 #[puV p] w fun e w' => e = .returned (.bool (hoOk p)) ∧ Below w.heap.size w w' := by
  obtain ⟨t0, ht0⟩ : ∃ u, inB p.p (-20000) 20000 = u := ⟨_, rfl⟩
  have HT0 := Lib.hid ht0
  obtain ⟨t1, ht1⟩ : ∃ u, inB p.w 0 1073741824 = u := ⟨_, rfl⟩
  have HT1 := Lib.hid ht1
  have HR := Lib.hid (show hoOk p = (t0 && t1) by unfold hoOk; rw [ht0, ht1])
  clear ht0 ht1
  go_enter Try.func122, Try.ntmps122
  go_wp2_with fail
  refine (isPlace_any p.p _).mono ?_
  rintro e w1 ⟨rfl, hb1⟩
  rw [HT0.out]
  have hB1 : Below w.heap.size w w1 := (after (w := w) (by go_grown) hb1).1
  have K1 : PuAt w1 w.heap.size 0 p := PuAt.later (w := (w.alloc (.cells #[.int .i64 p.p, .int .i64 p.w] 175))) ⟨by go_cell, by go_cell⟩ (by first | exact hb1 | exact two (by go_grown) hb1)
  clear hb1
  cases t0
  · go_wp2_with fail
    go_returns
    exact ⟨ret_bool (by rw [HR.out]; rfl), hB1⟩
  obtain ⟨c0, c1⟩ := K1
  have K1 : PuAt w1 w.heap.size 0 p := ⟨c0, c1⟩
  have hz : w.heap.size < w1.heap.size := World.block_lt_of_cell? _ _ c0
  go_wp2_with fail
  clear c0 c1
  refine (inOrder3 _ 0 p.w 1073741824 _ (by go_cell) (by go_cell) (by go_cell)).mono ?_
  rintro e w2 ⟨rfl, hb2⟩
  rw [HT1.out]
  have hb9 : Below w1.heap.size w1 w2 := (by first | exact hb2 | exact two (by go_grown) hb2)
  have hB2 : Below w.heap.size w w2 := two hB1 hb9
  have K2 := PuAt.later K1 hb9
  clear hb9
  clear hb2
  clear hz
  cases t1
  · go_wp2_with fail
    go_returns
    exact ⟨ret_bool (by rw [HR.out]; rfl), hB2⟩
  · go_wp2_with fail
    go_returns
    exact ⟨ret_bool (by rw [HR.out]; rfl), hB2⟩
set_option maxHeartbeats 2000000 in
theorem isParcel_any (p : Pu) (w : World) : Calls Try.prog 124 #[puV p] w fun e w' => e = .returned (.bool (paOk p)) ∧ Below w.heap.size w w' := by
  obtain ⟨t0, ht0⟩ : ∃ u, inB p.p 1 1000000 = u := ⟨_, rfl⟩
  have HT0 := Lib.hid ht0
  obtain ⟨t1, ht1⟩ : ∃ u, inB p.w 0 9 = u := ⟨_, rfl⟩
  have HT1 := Lib.hid ht1
  have HR := Lib.hid (show paOk p = (t0 && t1) by unfold paOk; rw [ht0, ht1])
  clear ht0 ht1
  go_enter Try.func124, Try.ntmps124
  go_wp2_with fail
  refine (inOrder3 _ 1 p.p 1000000 _ (by go_cell) (by go_cell) (by go_cell)).mono ?_
  rintro e w1 ⟨rfl, hb1⟩
  rw [HT0.out]
  have hB1 : Below w.heap.size w w1 := (after (w := w) (by go_grown) hb1).1
  have K1 : PuAt w1 w.heap.size 0 p := PuAt.later (w := (w.alloc (.cells #[.int .i64 p.p, .int .i64 p.w] 179))) ⟨by go_cell, by go_cell⟩ (by first | exact hb1 | exact two (by go_grown) hb1)
  clear hb1
  cases t0
  · go_wp2_with fail
    go_returns
    exact ⟨ret_bool (by rw [HR.out]; rfl), hB1⟩
  obtain ⟨c0, c1⟩ := K1
  have K1 : PuAt w1 w.heap.size 0 p := ⟨c0, c1⟩
  have hz : w.heap.size < w1.heap.size := World.block_lt_of_cell? _ _ c0
  go_wp2_with fail
  clear c0 c1
  refine (isClass_any p.w _).mono ?_
  rintro e w2 ⟨rfl, hb2⟩
  rw [HT1.out]
  have hb9 : Below w1.heap.size w1 w2 := (by first | exact hb2 | exact two (by go_grown) hb2)
  have hB2 : Below w.heap.size w w2 := two hB1 hb9
  have K2 := PuAt.later K1 hb9
  clear hb9
  clear hb2
  clear hz
  cases t1
  · go_wp2_with fail
    go_returns
    exact ⟨ret_bool (by rw [HR.out]; rfl), hB2⟩
  · go_wp2_with fail
    go_returns
    exact ⟨ret_bool (by rw [HR.out]; rfl), hB2⟩
set_option maxHeartbeats 2000000 in
theorem isRule_any (p : Li) (w : World) : Calls Try.prog 126 #[liV p] w fun e w' => e = .returned (.bool (ruOk p)) ∧ Below w.heap.size w w' := by
  obtain ⟨t0, ht0⟩ : ∃ u, inB p.a 0 9 = u := ⟨_, rfl⟩
  have HT0 := Lib.hid ht0
  obtain ⟨t1, ht1⟩ : ∃ u, inB p.b 0 9 = u := ⟨_, rfl⟩
  have HT1 := Lib.hid ht1
  obtain ⟨t2, ht2⟩ : ∃ u, inB p.c 1 5 = u := ⟨_, rfl⟩
  have HT2 := Lib.hid ht2
  have HR := Lib.hid (show ruOk p = (t0 && t1 && t2) by unfold ruOk; rw [ht0, ht1, ht2])
  clear ht0 ht1 ht2
  go_enter Try.func126, Try.ntmps126
  go_wp2_with fail
  refine (isClass_any p.a _).mono ?_
  rintro e w1 ⟨rfl, hb1⟩
  rw [HT0.out]
  have hB1 : Below w.heap.size w w1 := (after (w := w) (by go_grown) hb1).1
  have K1 : LiAt w1 w.heap.size 0 p := LiAt.later (w := (w.alloc (.cells #[.int .i64 p.a, .int .i64 p.b, .int .i64 p.c] 157))) ⟨by go_cell, by go_cell, by go_cell⟩ (by first | exact hb1 | exact two (by go_grown) hb1)
  clear hb1
  cases t0
  · go_wp2_with fail
    go_returns
    exact ⟨ret_bool (by rw [HR.out]; rfl), hB1⟩
  obtain ⟨c0, c1, c2⟩ := K1
  have K1 : LiAt w1 w.heap.size 0 p := ⟨c0, c1, c2⟩
  have hz : w.heap.size < w1.heap.size := World.block_lt_of_cell? _ _ c0
  go_wp2_with fail
  clear c0 c1 c2
  refine (isClass_any p.b _).mono ?_
  rintro e w2 ⟨rfl, hb2⟩
  rw [HT1.out]
  have hb9 : Below w1.heap.size w1 w2 := (by first | exact hb2 | exact two (by go_grown) hb2)
  have hB2 : Below w.heap.size w w2 := two hB1 hb9
  have K2 := LiAt.later K1 hb9
  clear hb9
  clear hb2
  clear hz
  cases t1
  · go_wp2_with fail
    go_returns
    exact ⟨ret_bool (by rw [HR.out]; rfl), hB2⟩
  obtain ⟨c0, c1, c2⟩ := K2
  have K2 : LiAt w2 w.heap.size 0 p := ⟨c0, c1, c2⟩
  have hz : w.heap.size < w2.heap.size := World.block_lt_of_cell? _ _ c0
  go_wp2_with fail
  clear c0 c1 c2
  refine (inOrder3 _ 1 p.c 5 _ (by go_cell) (by go_cell) (by go_cell)).mono ?_
  rintro e w3 ⟨rfl, hb3⟩
  rw [HT2.out]
  have hb9 : Below w2.heap.size w2 w3 := (by first | exact hb3 | exact two (by go_grown) hb3)
  have hB3 : Below w.heap.size w w3 := two hB2 hb9
  have K3 := LiAt.later K2 hb9
  clear hb9
  clear hb3
  clear hz
  cases t2
  · go_wp2_with fail
    go_returns
    exact ⟨ret_bool (by rw [HR.out]; rfl), hB3⟩
  · go_wp2_with fail
    go_returns
    exact ⟨ret_bool (by rw [HR.out]; rfl), hB3⟩
set_option maxHeartbeats 2000000 in
theorem allHo_any (v : Value) (l : List Pu) (w : World) (hs : SlAny PuAt 2 w v l) :
    Calls Try.prog 121 #[v, .func (.func 122) #[] #[]] w fun e w' => e = .returned (.bool (l.all hoOk)) ∧ Below w.heap.size w w' := by
  obtain ⟨a, cap, rfl, hlen, hcap⟩ := hs.form
  have HS := Lib.hid hs
  clear hs
  go_enter Try.func121, Try.ntmps121
  go_wp2_with fail
  go_loopw [9] (fun v9 wr => AllHead hoOk l w wr v9) (fun v9 _ => l.length - (intOf v9).toNat)
  case atStart => exact ⟨0, by omega, rfl, rfl, Below.refl _ _⟩
  case round =>
    obtain ⟨k, hk, rfl, he, hbr⟩ := hrel
    have HE := Lib.hid he
    clear he
    by_cases hlt : k < l.length
    · obtain ⟨b, off, c, rfl, hb, hc, hat⟩ := HS.out.at hlt
      obtain ⟨c0, c1⟩ := PuAt.later hat (show Below w.heap.size w wr from hbr)
      have hlt' : (k : Int) < (l.length : Int) := by omega
      have hk0 : (0 : Int) ≤ (k : Int) := by omega
      have HC := Lib.hid hc
      clear hc hat
      go_wp2_with fail
      refine (isHold_any c _).mono ?_
      rintro e w1 ⟨rfl, hb1⟩
      have hB1 : Below w.heap.size w w1 := hbr.trans ((two (W := wr) (by go_grown) hb1).mono hbr.size)
      clear hb1
      by_cases h : hoOk c = true
      · rw [h]
        have H := Lib.hid h
        clear h
        go_wp2_with fail
        go_roundw
        case rel => exact ⟨k + 1, by omega, by go_num, by rw [HE.out, drop_some HC.out, List.all_cons, H.out]; rfl, hB1⟩
        case measure => simp [intOf]; omega
      · rw [show hoOk c = false by simpa using h]
        have H := Lib.hid (show hoOk c = false by simpa using h)
        clear h
        go_wp2_with fail
        go_returns
        exact ⟨ret_bool (by rw [HE.out, drop_some HC.out, List.all_cons, H.out]; rfl), hB1⟩
    · have hw : l.all hoOk = true := by rw [HE.out, drop_none hlt]; rfl
      have HW := Lib.hid hw
      clear hw
      go_wp2_with fail
      go_returns
      exact ⟨ret_bool HW.out.symm, hbr⟩
set_option maxHeartbeats 2000000 in
theorem allPa_any (v : Value) (l : List Pu) (w : World) (hs : SlAny PuAt 2 w v l) :
    Calls Try.prog 123 #[v, .func (.func 124) #[] #[]] w fun e w' => e = .returned (.bool (l.all paOk)) ∧ Below w.heap.size w w' := by
  obtain ⟨a, cap, rfl, hlen, hcap⟩ := hs.form
  have HS := Lib.hid hs
  clear hs
  go_enter Try.func123, Try.ntmps123
  go_wp2_with fail
  go_loopw [9] (fun v9 wr => AllHead paOk l w wr v9) (fun v9 _ => l.length - (intOf v9).toNat)
  case atStart => exact ⟨0, by omega, rfl, rfl, Below.refl _ _⟩
  case round =>
    obtain ⟨k, hk, rfl, he, hbr⟩ := hrel
    have HE := Lib.hid he
    clear he
    by_cases hlt : k < l.length
    · obtain ⟨b, off, c, rfl, hb, hc, hat⟩ := HS.out.at hlt
      obtain ⟨c0, c1⟩ := PuAt.later hat (show Below w.heap.size w wr from hbr)
      have hlt' : (k : Int) < (l.length : Int) := by omega
      have hk0 : (0 : Int) ≤ (k : Int) := by omega
      have HC := Lib.hid hc
      clear hc hat
      go_wp2_with fail
      refine (isParcel_any c _).mono ?_
      rintro e w1 ⟨rfl, hb1⟩
      have hB1 : Below w.heap.size w w1 := hbr.trans ((two (W := wr) (by go_grown) hb1).mono hbr.size)
      clear hb1
      by_cases h : paOk c = true
      · rw [h]
        have H := Lib.hid h
        clear h
        go_wp2_with fail
        go_roundw
        case rel => exact ⟨k + 1, by omega, by go_num, by rw [HE.out, drop_some HC.out, List.all_cons, H.out]; rfl, hB1⟩
        case measure => simp [intOf]; omega
      · rw [show paOk c = false by simpa using h]
        have H := Lib.hid (show paOk c = false by simpa using h)
        clear h
        go_wp2_with fail
        go_returns
        exact ⟨ret_bool (by rw [HE.out, drop_some HC.out, List.all_cons, H.out]; rfl), hB1⟩
    · have hw : l.all paOk = true := by rw [HE.out, drop_none hlt]; rfl
      have HW := Lib.hid hw
      clear hw
      go_wp2_with fail
      go_returns
      exact ⟨ret_bool HW.out.symm, hbr⟩
set_option maxHeartbeats 2000000 in
theorem allRu_any (v : Value) (l : List Li) (w : World) (hs : SlAny LiAt 3 w v l) :
    Calls Try.prog 125 #[v, .func (.func 126) #[] #[]] w fun e w' => e = .returned (.bool (l.all ruOk)) ∧ Below w.heap.size w w' := by
  obtain ⟨a, cap, rfl, hlen, hcap⟩ := hs.form
  have HS := Lib.hid hs
  clear hs
  go_enter Try.func125, Try.ntmps125
  go_wp2_with fail
  go_loopw [9] (fun v9 wr => AllHead ruOk l w wr v9) (fun v9 _ => l.length - (intOf v9).toNat)
  case atStart => exact ⟨0, by omega, rfl, rfl, Below.refl _ _⟩
  case round =>
    obtain ⟨k, hk, rfl, he, hbr⟩ := hrel
    have HE := Lib.hid he
    clear he
    by_cases hlt : k < l.length
    · obtain ⟨b, off, c, rfl, hb, hc, hat⟩ := HS.out.at hlt
      obtain ⟨c0, c1, c2⟩ := LiAt.later hat (show Below w.heap.size w wr from hbr)
      have hlt' : (k : Int) < (l.length : Int) := by omega
      have hk0 : (0 : Int) ≤ (k : Int) := by omega
      have HC := Lib.hid hc
      clear hc hat
      go_wp2_with fail
      refine (isRule_any c _).mono ?_
      rintro e w1 ⟨rfl, hb1⟩
      have hB1 : Below w.heap.size w w1 := hbr.trans ((two (W := wr) (by go_grown) hb1).mono hbr.size)
      clear hb1
      by_cases h : ruOk c = true
      · rw [h]
        have H := Lib.hid h
        clear h
        go_wp2_with fail
        go_roundw
        case rel => exact ⟨k + 1, by omega, by go_num, by rw [HE.out, drop_some HC.out, List.all_cons, H.out]; rfl, hB1⟩
        case measure => simp [intOf]; omega
      · rw [show ruOk c = false by simpa using h]
        have H := Lib.hid (show ruOk c = false by simpa using h)
        clear h
        go_wp2_with fail
        go_returns
        exact ⟨ret_bool (by rw [HE.out, drop_some HC.out, List.all_cons, H.out]; rfl), hB1⟩
    · have hw : l.all ruOk = true := by rw [HE.out, drop_none hlt]; rfl
      have HW := Lib.hid hw
      clear hw
      go_wp2_with fail
      go_returns
      exact ⟨ret_bool HW.out.symm, hbr⟩
end Go.Proofs.Ytldnpnplgfkebaa
/- Package trim: checkCargo. -/
namespace Go.Proofs.Ytldnpnplgfkebaa
open Go.RowKit

def manyB (ls : List Ld) (hs ps : List Pu) (rs : List Li) : Bool := decide (5 < hs.length) || decide (6 < ps.length) || decide (20 < rs.length) || decide (40 < ls.length + ps.length)
/-- The error of loads, limits and cargo. -/
def cargoN (ls : List Ld) (hs ps : List Pu) (rs : List Li) (ms : List Li) : Int := if bothN ls ms = 0 then (if manyB ls hs ps rs then 4 else if (hs.all hoOk && ps.all paOk && rs.all ruOk) = true then 0 else 43) else bothN ls ms
theorem cargoN_both {ls : List Ld} {hs ps : List Pu} {rs ms : List Li} (h : bothN ls ms ≠ 0) : cargoN ls hs ps rs ms = bothN ls ms := by unfold cargoN; rw [if_neg h]
theorem cargoN_many {ls : List Ld} {hs ps : List Pu} {rs ms : List Li} (h : bothN ls ms = 0) (h2 : manyB ls hs ps rs = true) : cargoN ls hs ps rs ms = 4 := by unfold cargoN; rw [if_pos h, if_pos h2]
theorem cargoN_few {ls : List Ld} {hs ps : List Pu} {rs ms : List Li} (h : bothN ls ms = 0) (h2 : manyB ls hs ps rs = false) (t0 t1 t2 : Bool) (e0 : hs.all hoOk = t0) (e1 : ps.all paOk = t1) (e2 : rs.all ruOk = t2) :
    cargoN ls hs ps rs ms = if (t0 && t1 && t2) = true then 0 else 43 := by
  unfold cargoN
  rw [if_pos h, if_neg (by rw [h2]; decide), e0, e1, e2]
set_option maxHeartbeats 4000000 in
theorem checkCargo_any (v q p r u : Value) (ls : List Ld) (hs ps : List Pu) (rs ms : List Li) (w : World) (hv : SlLd w v ls) (hq : SlPu w q hs) (hp : SlPu w p ps) (hr : SlLi w r rs) (hu : SlLi w u ms) :
    Calls Try.prog 92 #[v, q, p, r, u] w fun e w' => e = .returned (.int .i64 (cargoN ls hs ps rs ms)) ∧ Below w.heap.size w w' := by
  obtain ⟨a0, cap0, rfl, hl0, _⟩ := hv.form
  obtain ⟨a1, cap1, rfl, hl1, _⟩ := hq.form
  obtain ⟨a2, cap2, rfl, hl2, _⟩ := hp.form
  obtain ⟨a3, cap3, rfl, hl3, _⟩ := hr.form
  have HV := Lib.hid hv
  have HQ := Lib.hid hq
  have HP := Lib.hid hp
  have HRr := Lib.hid hr
  have HU := Lib.hid hu
  obtain ⟨n, hn⟩ : ∃ n, bothN ls ms = n := ⟨_, rfl⟩
  have HN := Lib.hid hn
  clear hv hq hp hr hu hn
  by_cases h0 : n = 0
  rotate_left 1
  · have HB := Lib.hid (show cargoN ls hs ps rs ms = n by rw [cargoN_both (by rw [HN.out]; exact h0), HN.out])
    go_enter Try.func92, Try.ntmps92
    go_wp2_with fail
    refine (checkBoth_any _ u ls ms _ HV.out HU.out).mono ?_
    rintro e w1 ⟨rfl, hb1⟩
    rw [HN.out]
    go_wp2_with fail
    go_returns
    exact ⟨ret_int HB.out.symm, hb1⟩
  subst h0
  by_cases h5 : 5 < hs.length
  · have h5' : (5 : Int) < (hs.length : Int) := by omega
    have HB := Lib.hid (cargoN_many (ms := ms) HN.out (show manyB ls hs ps rs = true by unfold manyB; simp [h5]))
    go_enter Try.func92, Try.ntmps92
    go_wp2_with fail
    refine (checkBoth_any _ u ls ms _ HV.out HU.out).mono ?_
    rintro e w1 ⟨rfl, hb1⟩
    rw [HN.out]
    go_wp2_with fail
    go_returns
    exact ⟨ret_int HB.out.symm, hb1⟩
  have h5' : ¬ (5 : Int) < (hs.length : Int) := by omega
  by_cases h6 : 6 < ps.length
  · have h6' : (6 : Int) < (ps.length : Int) := by omega
    have HB := Lib.hid (cargoN_many (ms := ms) HN.out (show manyB ls hs ps rs = true by unfold manyB; simp [h6]))
    go_enter Try.func92, Try.ntmps92
    go_wp2_with fail
    refine (checkBoth_any _ u ls ms _ HV.out HU.out).mono ?_
    rintro e w1 ⟨rfl, hb1⟩
    rw [HN.out]
    go_wp2_with fail
    go_returns
    exact ⟨ret_int HB.out.symm, hb1⟩
  have h6' : ¬ (6 : Int) < (ps.length : Int) := by omega
  by_cases h20 : 20 < rs.length
  · have h20' : (20 : Int) < (rs.length : Int) := by omega
    have HB := Lib.hid (cargoN_many (ms := ms) HN.out (show manyB ls hs ps rs = true by unfold manyB; simp [h20]))
    go_enter Try.func92, Try.ntmps92
    go_wp2_with fail
    refine (checkBoth_any _ u ls ms _ HV.out HU.out).mono ?_
    rintro e w1 ⟨rfl, hb1⟩
    rw [HN.out]
    go_wp2_with fail
    go_returns
    exact ⟨ret_int HB.out.symm, hb1⟩
  have h20' : ¬ (20 : Int) < (rs.length : Int) := by omega
  by_cases h40 : 40 < ls.length + ps.length
  · have h40' : (40 : Int) < (ls.length : Int) + (ps.length : Int) := by omega
    have HB := Lib.hid (cargoN_many (ms := ms) HN.out (show manyB ls hs ps rs = true by unfold manyB; simp [h40]))
    go_enter Try.func92, Try.ntmps92
    go_wp2_with fail
    refine (checkBoth_any _ u ls ms _ HV.out HU.out).mono ?_
    rintro e w1 ⟨rfl, hb1⟩
    rw [HN.out]
    go_wp2_with fail
    go_returns
    exact ⟨ret_int HB.out.symm, hb1⟩
  have h40' : ¬ (40 : Int) < (ls.length : Int) + (ps.length : Int) := by omega
  have hmn : manyB ls hs ps rs = false := by unfold manyB; simp [h5, h6, h20, h40]
  obtain ⟨t0, e0⟩ : ∃ t, hs.all hoOk = t := ⟨_, rfl⟩
  obtain ⟨t1, e1⟩ : ∃ t, ps.all paOk = t := ⟨_, rfl⟩
  obtain ⟨t2, e2⟩ : ∃ t, rs.all ruOk = t := ⟨_, rfl⟩
  have HB := Lib.hid (cargoN_few (ms := ms) HN.out hmn t0 t1 t2 e0 e1 e2)
  have HT0 := Lib.hid e0
  have HT1 := Lib.hid e1
  have HT2 := Lib.hid e2
  clear hmn e0 e1 e2 h5 h6 h20 h40
  go_enter Try.func92, Try.ntmps92
  go_wp2_with fail
  refine (checkBoth_any _ u ls ms _ HV.out HU.out).mono ?_
  rintro e w1 ⟨rfl, hb1⟩
  rw [HN.out]
  go_wp2_with fail
  refine (allHo_any _ hs _ (puLater HQ.out hb1)).mono ?_
  rintro e w2 ⟨rfl, hb2⟩
  rw [HT0.out]
  have hB2 := two hb1 hb2
  clear hb1 hb2
  cases t0
  · go_wp2_with fail
    go_returns
    exact ⟨ret_int (by rw [HB.out]; rfl), hB2⟩
  go_wp2_with fail
  refine (allPa_any _ ps _ (puLater HP.out hB2)).mono ?_
  rintro e w3 ⟨rfl, hb3⟩
  rw [HT1.out]
  have hB3 := two hB2 hb3
  clear hB2 hb3
  cases t1
  · go_wp2_with fail
    go_returns
    exact ⟨ret_int (by rw [HB.out]; rfl), hB3⟩
  go_wp2_with fail
  refine (allRu_any _ rs _ (liLater HRr.out hB3)).mono ?_
  rintro e w4 ⟨rfl, hb4⟩
  rw [HT2.out]
  have hB4 := two hB3 hb4
  clear hB3 hb4
  cases t2
  · go_wp2_with fail
    go_returns
    exact ⟨ret_int (by rw [HB.out]; rfl), hB4⟩
  · go_wp2_with fail
    go_returns
    exact ⟨ret_int (by rw [HB.out]; rfl), hB4⟩
end Go.Proofs.Ytldnpnplgfkebaa
