/- Package mast: areAxes, arePulls, isIndex, arePeople, isMost; the reference's axes, pulls. -/
import Derived.Test.YtbkabgbkdggnhaaMSl
namespace Go.Proofs.Ytbkabgbkdggnhaa
open Go.RowKit

def Pr.ax (p : Pr) : Bool := axisB p.a p.b
def Pr.pu (p : Pr) : Bool := spB p.a p.b 0 1000000
def axesB (l : List Pr) : Bool := inB l.length 1 32 && l.all Pr.ax
def pullsB (l : List Pr) : Bool := decide (l.length ≤ 8) && l.all Pr.pu

set_option maxHeartbeats 400000 in
theorem isIndex_any (n m : Int) (w : World) (h0 : -4611686018427387904 ≤ m) (h1 : m ≤ 4611686018427387904) : Calls Try.prog 57 #[.int .i64 n, .int .i64 m] w fun e w' => e = .returned (.bool (inB n 0 (m - 1))) ∧ Below w.heap.size w w' := by
  have f : IntKind.i64.wrap (m - 1) = m - 1 := IntWalk.i64_in _ ⟨by omega, by omega⟩
  go_enter Try.func57, Try.ntmps57
  go_wp2_with fail
  refine (inOrder3 _ 0 n (m - 1) _ (by go_cell) (by go_cell) (by go_cell)).mono ?_
  rintro e w1 ⟨rfl, hb1⟩
  obtain ⟨hB, hc, hf⟩ := after (w := w) (by go_grown) hb1
  obtain ⟨u, hu⟩ : ∃ u, inB n 0 (m - 1) = u := ⟨_, rfl⟩
  rw [hu]
  go_wp2_with fail
  go_returns
  exact ⟨ret_bool hu.symm, hB⟩
set_option maxHeartbeats 400000 in
theorem arePeople_any (n : Int) (w : World) : Calls Try.prog 60 #[.int .i64 n] w fun e w' => e = .returned (.bool (inB n 0 200)) ∧ Below w.heap.size w w' := by
  go_enter Try.func60, Try.ntmps60
  go_wp2_with fail
  refine (inOrder3 _ 0 n 200 _ (by go_cell) (by go_cell) (by go_cell)).mono ?_
  rintro e w1 ⟨rfl, hb1⟩
  obtain ⟨hB, hc, hf⟩ := after (w := w) (by go_grown) hb1
  obtain ⟨u, hu⟩ : ∃ u, inB n 0 200 = u := ⟨_, rfl⟩
  rw [hu]
  go_wp2_with fail
  go_returns
  exact ⟨ret_bool hu.symm, hB⟩
set_option maxHeartbeats 400000 in
theorem isMost_any (n : Int) (w : World) : Calls Try.prog 61 #[.int .i64 n] w fun e w' => e = .returned (.bool (inB n 1 1000000)) ∧ Below w.heap.size w w' := by
  go_enter Try.func61, Try.ntmps61
  go_wp2_with fail
  refine (inOrder3 _ 1 n 1000000 _ (by go_cell) (by go_cell) (by go_cell)).mono ?_
  rintro e w1 ⟨rfl, hb1⟩
  obtain ⟨hB, hc, hf⟩ := after (w := w) (by go_grown) hb1
  obtain ⟨u, hu⟩ : ∃ u, inB n 1 1000000 = u := ⟨_, rfl⟩
  rw [hu]
  go_wp2_with fail
  go_returns
  exact ⟨ret_bool hu.symm, hB⟩

set_option maxHeartbeats 1000000 in
theorem areAxes1_any (p : Pr) (w : World) : Calls Try.prog 92 #[prV p] w fun e w' => e = .returned (.bool (!p.ax)) ∧ Below w.heap.size w w' := by
  go_enter Try.func92, Try.ntmps92
  go_wp2_with fail
  refine (checkAxis_any p.a p.b _).mono ?_
  rintro e w1 ⟨rfl, hb1⟩
  obtain ⟨hB, hc, hf⟩ := after (w := w) (by go_grown) hb1
  cases hu : axisB p.a p.b
  · rw [show axisN p.a p.b = 70 by unfold axisN; rw [hu]; rfl]
    have HU := Lib.hid hu
    clear hu
    go_wp2_with fail
    go_returns
    exact ⟨ret_bool (by unfold Pr.ax; rw [HU.out]; rfl), hB⟩
  · rw [show axisN p.a p.b = 0 by unfold axisN; rw [hu]; rfl]
    have HU := Lib.hid hu
    clear hu
    go_wp2_with fail
    go_returns
    exact ⟨ret_bool (by unfold Pr.ax; rw [HU.out]; rfl), hB⟩
set_option maxHeartbeats 1000000 in
theorem arePulls1_any (p : Pr) (w : World) : Calls Try.prog 93 #[prV p] w fun e w' => e = .returned (.bool (!p.pu)) ∧ Below w.heap.size w w' := by
  go_enter Try.func93, Try.ntmps93
  go_wp2_with fail
  refine (inOrder4 _ 0 p.a p.b 1000000 _ (by go_cell) (by go_cell) (by go_cell) (by go_cell)).mono ?_
  rintro e w1 ⟨rfl, hb1⟩
  obtain ⟨hB, hc, hf⟩ := after (w := w) (by go_grown) hb1
  obtain ⟨u, hu⟩ : ∃ u, spB p.a p.b 0 1000000 = u := ⟨_, rfl⟩
  rw [hu]
  have HU := Lib.hid hu
  clear hu
  go_wp2_with fail
  go_returns
  exact ⟨ret_bool (by unfold Pr.pu; rw [HU.out]), hB⟩

set_option maxHeartbeats 2000000 in
theorem indexAx (v : Value) (l : List Pr) (w : World) (hs : SlPr w v l) :
    Calls Try.prog 108 #[v, .func (.func 92) #[] #[]] w fun e w' => (∃ n : Int, e = .returned (.int .i64 n) ∧ ((0 ≤ n) ↔ l.all Pr.ax = false)) ∧ Below w.heap.size w w' := by
  obtain ⟨a, cap, rfl, hlen, hcap⟩ := hs.form
  have HS := Lib.hid hs
  clear hs
  go_enter Try.func108, Try.ntmps108
  go_wp2_with fail
  go_loopw [8] (fun v8 wr => AllHead Pr.ax l w wr v8) (fun v8 _ => l.length - (intOf v8).toNat)
  case atStart => exact ⟨0, by omega, rfl, rfl, Below.refl _ _⟩
  case round =>
    obtain ⟨k, hk, rfl, he, hbr⟩ := hrel
    have HE := Lib.hid he
    clear he
    by_cases hlt : k < l.length
    · obtain ⟨b, off, c, rfl, hb, hc, hat⟩ := HS.out.at hlt
      obtain ⟨c0, c1⟩ := PrAt.later hat (show Below w.heap.size w wr from hbr)
      have hlt' : (k : Int) < (l.length : Int) := by omega
      have hk0 : (0 : Int) ≤ (k : Int) := by omega
      have HC := Lib.hid hc
      clear hc hat
      go_wp2_with fail
      refine (areAxes1_any c _).mono ?_
      rintro e w1 ⟨rfl, hb1⟩
      have hB1 : Below w.heap.size w w1 := hbr.trans ((two (W := wr) (by go_grown) hb1).mono hbr.size)
      clear hb1
      cases h : Pr.ax c
      · have H := Lib.hid h
        clear h
        go_wp2_with fail
        go_returns
        exact ⟨⟨k, rfl, by rw [HE.out, drop_some HC.out, List.all_cons, H.out]; simp⟩, hB1⟩
      · have H := Lib.hid h
        clear h
        go_wp2_with fail
        go_roundw
        case rel => exact ⟨k + 1, by omega, by go_num, by rw [HE.out, drop_some HC.out, List.all_cons, H.out]; rfl, hB1⟩
        case measure => simp [intOf]; omega
    · have hw : l.all Pr.ax = true := by rw [HE.out, drop_none hlt]; rfl
      have HW := Lib.hid hw
      clear hw
      go_wp2_with fail
      go_returns
      exact ⟨⟨-1, rfl, by rw [HW.out]; simp⟩, hbr⟩
set_option maxHeartbeats 1000000 in
theorem containsAx (v : Value) (l : List Pr) (w : World) (hs : SlPr w v l) :
    Calls Try.prog 91 #[v, .func (.func 92) #[] #[]] w fun e w' => e = .returned (.bool (!l.all Pr.ax)) ∧ Below w.heap.size w w' := by
  have HS := Lib.hid hs
  clear hs
  go_enter Try.func91, Try.ntmps91
  go_wp2_with fail
  refine (indexAx _ l _ HS.out).mono ?_
  rintro e w1 ⟨⟨n, rfl, hn⟩, hb1⟩
  have HN := Lib.hid hn
  clear hn
  go_wp2_with fail
  go_returns
  refine ⟨ret_bool ?_, by go_grown⟩
  have := HN.out
  cases h : l.all Pr.ax
  · simp [this.2 h]
  · have h2 : ¬ 0 ≤ n := fun h3 => by have := this.1 h3; rw [h] at this; cases this
    simp; omega
set_option maxHeartbeats 2000000 in
theorem indexPu (v : Value) (l : List Pr) (w : World) (hs : SlPr w v l) :
    Calls Try.prog 109 #[v, .func (.func 93) #[] #[]] w fun e w' => (∃ n : Int, e = .returned (.int .i64 n) ∧ ((0 ≤ n) ↔ l.all Pr.pu = false)) ∧ Below w.heap.size w w' := by
  obtain ⟨a, cap, rfl, hlen, hcap⟩ := hs.form
  have HS := Lib.hid hs
  clear hs
  go_enter Try.func109, Try.ntmps109
  go_wp2_with fail
  go_loopw [8] (fun v8 wr => AllHead Pr.pu l w wr v8) (fun v8 _ => l.length - (intOf v8).toNat)
  case atStart => exact ⟨0, by omega, rfl, rfl, Below.refl _ _⟩
  case round =>
    obtain ⟨k, hk, rfl, he, hbr⟩ := hrel
    have HE := Lib.hid he
    clear he
    by_cases hlt : k < l.length
    · obtain ⟨b, off, c, rfl, hb, hc, hat⟩ := HS.out.at hlt
      obtain ⟨c0, c1⟩ := PrAt.later hat (show Below w.heap.size w wr from hbr)
      have hlt' : (k : Int) < (l.length : Int) := by omega
      have hk0 : (0 : Int) ≤ (k : Int) := by omega
      have HC := Lib.hid hc
      clear hc hat
      go_wp2_with fail
      refine (arePulls1_any c _).mono ?_
      rintro e w1 ⟨rfl, hb1⟩
      have hB1 : Below w.heap.size w w1 := hbr.trans ((two (W := wr) (by go_grown) hb1).mono hbr.size)
      clear hb1
      cases h : Pr.pu c
      · have H := Lib.hid h
        clear h
        go_wp2_with fail
        go_returns
        exact ⟨⟨k, rfl, by rw [HE.out, drop_some HC.out, List.all_cons, H.out]; simp⟩, hB1⟩
      · have H := Lib.hid h
        clear h
        go_wp2_with fail
        go_roundw
        case rel => exact ⟨k + 1, by omega, by go_num, by rw [HE.out, drop_some HC.out, List.all_cons, H.out]; rfl, hB1⟩
        case measure => simp [intOf]; omega
    · have hw : l.all Pr.pu = true := by rw [HE.out, drop_none hlt]; rfl
      have HW := Lib.hid hw
      clear hw
      go_wp2_with fail
      go_returns
      exact ⟨⟨-1, rfl, by rw [HW.out]; simp⟩, hbr⟩
set_option maxHeartbeats 1000000 in
theorem containsPu (v : Value) (l : List Pr) (w : World) (hs : SlPr w v l) :
    Calls Try.prog 94 #[v, .func (.func 93) #[] #[]] w fun e w' => e = .returned (.bool (!l.all Pr.pu)) ∧ Below w.heap.size w w' := by
  have HS := Lib.hid hs
  clear hs
  go_enter Try.func94, Try.ntmps94
  go_wp2_with fail
  refine (indexPu _ l _ HS.out).mono ?_
  rintro e w1 ⟨⟨n, rfl, hn⟩, hb1⟩
  have HN := Lib.hid hn
  clear hn
  go_wp2_with fail
  go_returns
  refine ⟨ret_bool ?_, by go_grown⟩
  have := HN.out
  cases h : l.all Pr.pu
  · simp [this.2 h]
  · have h2 : ¬ 0 ≤ n := fun h3 => by have := this.1 h3; rw [h] at this; cases this
    simp; omega

set_option maxHeartbeats 1000000 in
theorem areAxes_any (v : Value) (l : List Pr) (w : World) (hs : SlPr w v l) :
    Calls Try.prog 56 #[v] w fun e w' => e = .returned (.bool (axesB l)) ∧ Below w.heap.size w w' := by
  obtain ⟨a, cap, rfl, hlen, hcap⟩ := hs.form
  have HS := Lib.hid hs
  clear hs
  go_enter Try.func56, Try.ntmps56
  go_wp2_with fail
  refine (inOrder3 _ 1 l.length 32 _ (by go_cell) (by go_cell) (by go_cell)).mono ?_
  rintro e w1 ⟨rfl, hb1⟩
  obtain ⟨hB, hc, hf⟩ := after (w := w) (by go_grown) hb1
  cases hu : inB l.length 1 32
  · have HU := Lib.hid hu
    clear hu
    go_wp2_with fail
    go_returns
    exact ⟨ret_bool (by unfold axesB; rw [HU.out]; rfl), hB⟩
  · have HU := Lib.hid hu
    clear hu
    go_wp2_with fail
    refine (containsAx _ l _ (prLater HS.out hB)).mono ?_
    rintro e w2 ⟨rfl, hb2⟩
    have hB2 : Below w.heap.size w w2 := hB.trans (hb2.mono hB.size)
    obtain ⟨u, hv⟩ : ∃ u, l.all Pr.ax = u := ⟨_, rfl⟩
    rw [hv]
    have HV := Lib.hid hv
    clear hv
    go_wp2_with fail
    go_returns
    exact ⟨ret_bool (by unfold axesB; rw [HU.out, HV.out]; simp), hB2⟩
set_option maxHeartbeats 1000000 in
theorem arePulls_any (v : Value) (l : List Pr) (w : World) (hs : SlPr w v l) :
    Calls Try.prog 59 #[v] w fun e w' => e = .returned (.bool (pullsB l)) ∧ Below w.heap.size w w' := by
  obtain ⟨a, cap, rfl, hlen, hcap⟩ := hs.form
  have HS := Lib.hid hs
  clear hs
  by_cases h : l.length ≤ 8
  · have h' : (l.length : Int) ≤ 8 := by omega
    go_enter Try.func59, Try.ntmps59
    go_wp2_with fail
    refine (containsPu _ l _ HS.out).mono ?_
    rintro e w2 ⟨rfl, hb2⟩
    obtain ⟨u, hv⟩ : ∃ u, l.all Pr.pu = u := ⟨_, rfl⟩
    rw [hv]
    have HV := Lib.hid hv
    clear hv
    go_wp2_with fail
    go_returns
    exact ⟨ret_bool (by unfold pullsB; rw [HV.out]; simp [h]), by go_grown⟩
  · have h' : ¬ (l.length : Int) ≤ 8 := by omega
    go_enter Try.func59, Try.ntmps59
    go_wp2_with fail
    go_returns
    exact ⟨ret_bool (by unfold pullsB; simp [h]), by go_grown⟩

set_option maxHeartbeats 1000000 in
theorem raxes_any (v : Value) (l : List Pr) (w : World) (hs : SlPr w v l) :
    Calls Try.prog 58 #[v] w fun e w' => e = .returned (.bool (axesB l)) ∧ Below w.heap.size w w' := by
  obtain ⟨a, cap, rfl, hlen, hcap⟩ := hs.form
  have HS := Lib.hid hs
  clear hs
  go_enter Try.func58, Try.ntmps58
  go_wp2_with fail
  refine (rwithin_any l.length 1 32 _).mono ?_
  rintro e w1 ⟨rfl, rfl⟩
  cases hu : inB l.length 1 32
  · have HU := Lib.hid hu
    clear hu
    go_wp2_with fail
    go_returns
    exact ⟨ret_bool (by unfold axesB; rw [HU.out]; rfl), by go_grown⟩
  have HU := Lib.hid hu
  clear hu
  go_wp2_with fail
  go_loopw [3] (fun v3 wr => AllHead Pr.ax l w wr v3) (fun v3 _ => l.length - (intOf v3).toNat)
  case atStart => exact ⟨0, by omega, rfl, rfl, Below.refl _ _⟩
  case round =>
    obtain ⟨k, hk, rfl, he, hbr⟩ := hrel
    have HE := Lib.hid he
    clear he
    by_cases hlt : k < l.length
    · obtain ⟨b, off, c, rfl, hb, hc, hat⟩ := HS.out.at hlt
      obtain ⟨c0, c1⟩ := PrAt.later hat (show Below w.heap.size w wr from hbr)
      have hlt' : (k : Int) < (l.length : Int) := by omega
      have hk0 : (0 : Int) ≤ (k : Int) := by omega
      have HC := Lib.hid hc
      clear hc hat
      go_wp2_with fail
      refine (raxis_any c.a c.b _).mono ?_
      rintro e w1 ⟨rfl, hb1⟩
      have hB1 : Below w.heap.size w w1 := hbr.trans ((two (W := wr) (by go_grown) hb1).mono hbr.size)
      clear hb1
      cases h : axisB c.a c.b
      · have H := Lib.hid h
        clear h
        go_wp2_with fail
        go_returns
        exact ⟨ret_bool (by unfold axesB; rw [HU.out, HE.out, drop_some HC.out, List.all_cons]; unfold Pr.ax; rw [H.out]; simp), hB1⟩
      · have H := Lib.hid h
        clear h
        go_wp2_with fail
        go_roundw
        case rel => exact ⟨k + 1, by omega, by go_num, by rw [HE.out, drop_some HC.out, List.all_cons]; rw [show c.ax = true from H.out]; simp, hB1⟩
        case measure => simp [intOf]; omega
    · have hw : l.all Pr.ax = true := by rw [HE.out, drop_none hlt]; rfl
      have HW := Lib.hid hw
      clear hw
      go_wp2_with fail
      go_returns
      exact ⟨ret_bool (by unfold axesB; rw [HU.out, HW.out]; rfl), hbr⟩
set_option maxHeartbeats 1000000 in
theorem rpulls_any (v : Value) (l : List Pr) (w : World) (hs : SlPr w v l) :
    Calls Try.prog 65 #[v] w fun e w' => e = .returned (.bool (pullsB l)) ∧ Below w.heap.size w w' := by
  obtain ⟨a, cap, rfl, hlen, hcap⟩ := hs.form
  have HS := Lib.hid hs
  clear hs
  by_cases hu : l.length ≤ 8
  rotate_left 1
  · have h' : ¬ (l.length : Int) ≤ 8 := by omega
    go_enter Try.func65, Try.ntmps65
    go_wp2_with fail
    go_returns
    exact ⟨ret_bool (by unfold pullsB; simp [hu]), by go_grown⟩
  have h' : (l.length : Int) ≤ 8 := by omega
  have HU := Lib.hid hu
  go_enter Try.func65, Try.ntmps65
  go_wp2_with fail
  go_loopw [3] (fun v3 wr => AllHead Pr.pu l w wr v3) (fun v3 _ => l.length - (intOf v3).toNat)
  case atStart => exact ⟨0, by omega, rfl, rfl, Below.refl _ _⟩
  case round =>
    obtain ⟨k, hk, rfl, he, hbr⟩ := hrel
    have HE := Lib.hid he
    clear he
    by_cases hlt : k < l.length
    · obtain ⟨b, off, c, rfl, hb, hc, hat⟩ := HS.out.at hlt
      obtain ⟨c0, c1⟩ := PrAt.later hat (show Below w.heap.size w wr from hbr)
      have hlt' : (k : Int) < (l.length : Int) := by omega
      have hk0 : (0 : Int) ≤ (k : Int) := by omega
      have HC := Lib.hid hc
      clear hc hat
      go_wp2_with fail
      refine (rspanned_any c.a c.b 0 1000000 _).mono ?_
      rintro e w1 ⟨rfl, hb1⟩
      have hB1 : Below w.heap.size w w1 := hbr.trans ((two (W := wr) (by go_grown) hb1).mono hbr.size)
      clear hb1
      cases h : spB c.a c.b 0 1000000
      · have H := Lib.hid h
        clear h
        go_wp2_with fail
        go_returns
        exact ⟨ret_bool (by unfold pullsB; rw [HE.out, drop_some HC.out, List.all_cons]; unfold Pr.pu; rw [H.out]; simp), hB1⟩
      · have H := Lib.hid h
        clear h
        go_wp2_with fail
        go_roundw
        case rel => exact ⟨k + 1, by omega, by go_num, by rw [HE.out, drop_some HC.out, List.all_cons]; rw [show c.pu = true from H.out]; simp, hB1⟩
        case measure => simp [intOf]; omega
    · have hw : l.all Pr.pu = true := by rw [HE.out, drop_none hlt]; rfl
      have HW := Lib.hid hw
      clear hw
      go_wp2_with fail
      go_returns
      exact ⟨ret_bool (by unfold pullsB; rw [HW.out]; simp [HU.out]), hbr⟩
end Go.Proofs.Ytbkabgbkdggnhaa
