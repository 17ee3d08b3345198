/- Package mast: isHardest, sendOn, Man. -/
import Derived.Test.YtbkabgbkdggnhaaMNeed
import Derived.BigQuiet
namespace Go.Proofs.Ytbkabgbkdggnhaa
open Go.RowKit

def hiD (l : List Pr) (i : Nat) : Int := (l.getD i default).b
def zD (zs : List Int) (i : Nat) : Int := zs.getD i 0
theorem hiD_at {l : List Pr} {i : Nat} {c : Pr} (h : l[i]? = some c) : hiD l i = c.b := by unfold hiD; rw [List.getD_eq_getElem?_getD, h]; rfl
theorem zD_at {zs : List Int} {i : Nat} {z : Int} (h : zs[i]? = some z) : zD zs i = z := by unfold zD; rw [List.getD_eq_getElem?_getD, h]; rfl
/-- No line pulls harder at each of its people. -/
def allB (l : List Pr) (zs : List Int) (i : Nat) : Bool := (List.range l.length).all fun j => decide (hiD l j * zD zs i ≤ hiD l i * zD zs j)
def hardB (l : List Pr) (zs : List Int) (i : Nat) : Bool := decide (0 < hiD l i) && allB l zs i
theorem allB_iff {l : List Pr} {zs : List Int} {i : Nat} : allB l zs i = true ↔ ∀ j, j < l.length → hiD l j * zD zs i ≤ hiD l i * zD zs j := by
  unfold allB
  simp
/-- The line to which the next one goes; one more step; so many steps. -/
def pickO (l : List Pr) (zs : List Int) : Option Nat := (List.range l.length).find? (hardB l zs)
def stepS (l : List Pr) (zs : List Int) : List Int := match pickO l zs with
  | some i => zs.set i (zD zs i + 1)
  | none => zs
def iterS (l : List Pr) : List Int → Nat → List Int
  | zs, 0 => zs
  | zs, k + 1 => iterS l (stepS l zs) k
theorem pick_some {l : List Pr} {zs : List Int} {i : Nat} (hi : i < l.length) (h : hardB l zs i = true) (hn : ∀ j, j < i → hardB l zs j = false) : pickO l zs = some i := by
  unfold pickO
  rw [List.find?_range_eq_some]
  exact ⟨h, by simpa using hi, fun j hj => by rw [hn j hj]; rfl⟩
theorem pick_none {l : List Pr} {zs : List Int} (hn : ∀ j, j < l.length → hardB l zs j = false) : pickO l zs = none := by
  unfold pickO
  rw [List.find?_eq_none]
  intro j hj
  rw [hn j (by simpa using hj)]
  simp
theorem iter_none {l : List Pr} {zs : List Int} (h : pickO l zs = none) : ∀ k, iterS l zs k = zs
  | 0 => rfl
  | k + 1 => by
    have : stepS l zs = zs := by unfold stepS; rw [h]
    unfold iterS
    rw [this]
    exact iter_none h k
theorem iter_some {l : List Pr} {zs : List Int} {i k : Nat} (h : pickO l zs = some i) : iterS l zs (k + 1) = iterS l (zs.set i (zD zs i + 1)) k := by
  have : stepS l zs = zs.set i (zD zs i + 1) := by unfold stepS; rw [h]
  show iterS l (stepS l zs) k = _
  rw [this]
/-- Numbers of people, each up to M, and someone where a line pulls. -/
def InvZ (l : List Pr) (zs : List Int) (M : Int) : Prop := zs.length = l.length ∧ ∀ i z, zs[i]? = some z → 0 ≤ z ∧ z ≤ M ∧ (0 < hiD l i → 0 < z)
theorem InvZ.set {l : List Pr} {zs : List Int} {M : Int} {i : Nat} (h : InvZ l zs M) : InvZ l (zs.set i (zD zs i + 1)) (M + 1) := by
  refine ⟨by rw [List.length_set]; exact h.1, fun j z e => ?_⟩
  by_cases hi : i < zs.length
  · have h0 := h.2 i zs[i] (List.getElem?_eq_getElem hi)
    have hz := zD_at (List.getElem?_eq_getElem hi)
    by_cases he : j = i
    · subst he
      rw [List.getElem?_set_self hi] at e
      cases e
      rw [hz]
      exact ⟨by omega, by omega, fun _ => by omega⟩
    · rw [List.getElem?_set_ne (Ne.symm he)] at e
      have := h.2 j z e
      exact ⟨this.1, by omega, this.2.2⟩
  · rw [List.set_eq_of_length_le (by omega)] at e
    have := h.2 j z e
    exact ⟨this.1, by omega, this.2.2⟩
theorem mul_few {a b : Int} (h0 : 0 ≤ a) (h1 : a ≤ 1000000) (h2 : 0 ≤ b) (h3 : b ≤ 1000) : 0 ≤ a * b ∧ a * b ≤ 1000000000 := ⟨Int.mul_nonneg h0 h2, by have := Int.mul_le_mul h1 h3 h2 (by omega); omega⟩

def HaHead (l : List Pr) (zs : List Int) (i : Nat) (w wr : World) (v : Value) : Prop := ∃ k : Nat, k ≤ l.length ∧ v = .int .i64 k ∧ (∀ j, j < k → hiD l j * zD zs i ≤ hiD l i * zD zs j) ∧ Below w.heap.size w wr
set_option linter.unusedSimpArgs false in
set_option maxRecDepth 100000 in
set_option maxHeartbeats 4000000 in
theorem isHardest_any (v u : Value) (l : List Pr) (zs : List Int) (i : Nat) (M : Int) (w : World) (hv : SlPr w v l) (hu : SlI w u zs) (hi : i < l.length) (hpu : pullsB l = true) (hz : InvZ l zs M) (hM : M ≤ 1000) :
    Calls Try.prog 95 #[v, u, .int .i64 i] w fun e w' => e = .returned (.bool (allB l zs i)) ∧ Below w.heap.size w w' := by
  obtain ⟨a, cap, rfl, hlen, hcap⟩ := hv.form
  obtain ⟨a2, cap2, rfl, hlen2, hcap2⟩ := hu.form
  obtain ⟨h8, hpb⟩ := puB_of hpu
  have hzl : zs.length = l.length := hz.1
  have HV := Lib.hid hv
  have HU := Lib.hid hu
  have HP := Lib.hid hpb
  have HZ := Lib.hid hz
  obtain ⟨b, off, ci, rfl, hb, hci, hati⟩ := hv.at hi
  obtain ⟨b2, off2, zi, rfl, hb2, hzi, hatz⟩ := hu.at (i := i) (by omega)
  obtain ⟨ci0, ci1⟩ := hati
  unfold IntAt at hatz
  rw [Nat.mul_one] at hatz
  obtain ⟨z0, z1, _⟩ := hz.2 i zi hzi
  obtain ⟨p0, p1⟩ := hpb ci (List.mem_of_getElem? hci)
  have HI := Lib.hid (And.intro (hiD_at hci) (zD_at hzi))
  have hi0 : (0 : Int) ≤ (i : Int) := by omega
  have hi1 : (i : Int) < (l.length : Int) := by omega
  have hin : ((i : Int).toNat) = i := by omega
  rw [hzl]
  have HL := Lib.hid hzl
  clear hci hzi hv hu hpb hpu hz hzl
  go_enter Try.func95, Try.ntmps95
  go_wp2_with fail
  go_loopw [10] (fun v10 wr => HaHead l zs i w wr v10) (fun v10 _ => l.length - (intOf v10).toNat)
  case atStart => exact ⟨0, by omega, rfl, fun j hj => absurd hj (by omega), Below.refl _ _⟩
  case round =>
    obtain ⟨k, hk, rfl, hall, hbr⟩ := hrel
    have HA := Lib.hid hall
    clear hall
    by_cases hlt : k < l.length
    · obtain ⟨b', off', c, hbo, hb', hc, hat⟩ := HV.out.at hlt
      injection hbo with hbo
      injection hbo with hbo1 hbo2
      subst hbo1 hbo2
      obtain ⟨b3', off3', z, hbo, hb3', hzz, hatzz⟩ := HU.out.at (i := k) (by rw [HL.out]; exact hlt)
      injection hbo with hbo
      injection hbo with hbo1 hbo2
      subst hbo1 hbo2
      obtain ⟨c0, c1⟩ := PrAt.later hat (show Below w.heap.size w wr from hbr)
      have hatz2 := IntAt.later hatzz (show Below w.heap.size w wr from hbr)
      unfold IntAt at hatz2
      rw [Nat.mul_one] at hatz2
      have d1 := cell_later hbr ci1
      have d2 := cell_later hbr hatz
      have hlt' : (k : Int) < (l.length : Int) := by omega
      have hk0 : (0 : Int) ≤ (k : Int) := by omega
      have hkn : ((k : Int).toNat) = k := by omega
      obtain ⟨y0, y1, _⟩ := HZ.out.2 k z hzz
      obtain ⟨q0, q1⟩ := HP.out c (List.mem_of_getElem? hc)
      have HK := Lib.hid (And.intro (hiD_at hc) (zD_at hzz))
      obtain ⟨m0, m1⟩ := mul_few q0 q1 z0 (by omega)
      obtain ⟨n0, n1⟩ := mul_few p0 p1 y0 (by omega)
      obtain ⟨X, hX⟩ : ∃ X, c.b * zi = X := ⟨_, rfl⟩
      obtain ⟨Y, hY⟩ : ∃ Y, ci.b * z = Y := ⟨_, rfl⟩
      rw [hX] at m0 m1
      rw [hY] at n0 n1
      have f1 : IntKind.i64.wrap X = X := IntWalk.i64_in _ ⟨by omega, by omega⟩
      have f2 : IntKind.i64.wrap Y = Y := IntWalk.i64_in _ ⟨by omega, by omega⟩
      have HXY := Lib.hid (show (hiD l k * zD zs i ≤ hiD l i * zD zs k) ↔ X ≤ Y by rw [HK.out.1, HK.out.2, HI.out.1, HI.out.2, hX, hY])
      clear hc hat hzz hatzz m0 m1 n0 n1 y0 y1 q0 q1
      by_cases h : Y < X
      · have hd : decide (Y < X) = true := by simpa using h
        have HF : Hid (allB l zs i = false) := Lib.hid (by
          cases hh : allB l zs i
          · rfl
          · have := HXY.out.1 (allB_iff.1 hh k hlt)
            omega)
        go_wp2_with fail
        go_quiet (fail)
        go_wp2_with fail
        go_returns
        exact ⟨ret_bool HF.out.symm, below_drewN hbr _⟩
      · have hd : decide (Y < X) = false := by simpa using h
        have HN := Lib.hid (HXY.out.2 (by omega))
        go_wp2_with fail
        go_quiet (fail)
        have hbr2 := below_drewN hbr nq
        go_wp2_with fail
        go_roundw
        case rel =>
          refine ⟨k + 1, by omega, by go_num, fun j hj => ?_, hbr2⟩
          rcases Nat.lt_succ_iff_lt_or_eq.1 hj with hj | hj
          · exact HA.out j hj
          · subst hj; exact HN.out
        case measure => simp [intOf]; omega
    · have HF : Hid (allB l zs i = true) := Lib.hid (allB_iff.2 fun j hj => HA.out j (by omega))
      go_wp2_with fail
      go_returns
      exact ⟨ret_bool HF.out.symm, hbr⟩

/-- The heads of sendOn's loops. -/
def SnHead (l : List Pr) (zs : List Int) (left : Nat) (M : Int) (g : Nat) (W0 : World) (gk : Nat) (wr : World) (v : Value) : Prop :=
  ∃ (k : Nat) (ys : List Int), gk + k = left + 1 ∧ k ≤ left ∧ v = .int .i64 k ∧ iterS l ys (left - k) = iterS l zs left ∧ InvZ l ys (M + k) ∧ Own wr g ys ∧ Below W0.heap.size W0 wr
def SmHead (l : List Pr) (ys : List Int) (g n : Nat) (W0 : World) (gk : Nat) (wr : World) (v : Value) : Prop :=
  ∃ j : Nat, gk + j = n + 1 ∧ j ≤ n ∧ v = .int .i64 j ∧ (∀ i, i < j → hardB l ys i = false) ∧ Own wr g ys ∧ Below W0.heap.size W0 wr
set_option linter.unusedSimpArgs false in
set_option maxRecDepth 100000 in
set_option maxHeartbeats 8000000 in
theorem sendOn_any (v : Value) (l : List Pr) (zs : List Int) (g n cap left : Nat) (M : Int) (W0 w : World) (hs : SlPr W0 v l) (hW : Below W0.heap.size W0 w) (hg : W0.heap.size ≤ g) (ho : Own w g zs) (hn : l.length = n) (hcap0 : n ≤ cap)
    (hpu : pullsB l = true) (hz : InvZ l zs M) (hM0 : 0 ≤ M) (hM : M + left ≤ 1000) :
    Calls Try.prog 64 #[v, .slice (some ⟨g, 0, none⟩) n cap, .int .i64 left] w fun e w' => (e = .returned (.tuple #[]) ∧ Own w' g (iterS l zs left)) ∧ Below W0.heap.size W0 w' := by
  obtain ⟨a, capv, rfl, hlen, hcap⟩ := hs.form
  obtain ⟨h8, hpb⟩ := puB_of hpu
  have HS := Lib.hid hs
  have HP := Lib.hid hpu
  have HPb := Lib.hid hpb
  have HN := Lib.hid hn
  rw [hn]
  have hn8 : n ≤ 8 := by omega
  clear hs hpu hpb hn h8 hlen hcap
  go_enter Try.func64, Try.ntmps64
  go_wp2_with fail
  go_step3
  go_wp2_with fail
  go_step3
  go_wp2_with fail
  go_loopg [8] (left + 1) (fun gk v8 wr => SnHead l zs left M g W0 gk wr v8)
  case atStart => exact ⟨0, zs, by omega, by omega, rfl, rfl, by simpa using hz, ho, hW⟩
  case round =>
    obtain ⟨k, ys, hgk, hk, rfl, hit, hzs, hown, hbr⟩ := hrel
    have HO := Lib.hid hown
    have HZ := Lib.hid hzs
    have HIt := Lib.hid hit
    have HBr := Lib.hid hbr
    clear hown hzs hit hbr
    by_cases hlt : k < left
    rotate_left 1
    · have hk2 : k = left := by omega
      have HF : Hid (ys = iterS l zs left) := Lib.hid (by rw [← HIt.out, hk2, Nat.sub_self]; rfl)
      clear hz
      go_wp2_with fail
      (try simp only [Exit.noGoto]); refine bodyPost_end (results_none rfl _ _ _) rfl ?_
      exact ⟨⟨rfl, by rw [← HF.out]; exact HO.out⟩, HBr.out⟩
    have hlt' : (k : Int) < (left : Int) := by omega
    go_wp2_with fail
    have hd9 : decide ((k : Int) < (left : Int)) = true := by simpa using hlt'
    clear hz
    go_loopg [12] (n + 1) (fun gk v12 wr => SmHead l ys g n W0 gk wr v12)
    case atStart => exact ⟨0, by omega, by omega, rfl, fun i hi => absurd hi (by omega), HO.out, HBr.out⟩
    case round =>
      obtain ⟨j, hgj, hj, rfl, hno, hown, hbr⟩ := hrel
      have HO2 := Lib.hid hown
      have HNo := Lib.hid hno
      clear hown hno
      by_cases hjl : j < n
      rotate_left 1
      · have HF : Hid (ys = iterS l zs left) := Lib.hid (by rw [← HIt.out, iter_none (pick_none fun i hi => HNo.out i (by have := HN.out; omega))])
        go_wp2_with fail
        (try simp only [Exit.noGoto]); refine bodyPost_end (results_none rfl _ _ _) rfl ?_
        exact ⟨⟨rfl, by rw [← HF.out]; exact HO2.out⟩, hbr⟩
      obtain ⟨bb, off, c, rfl, hb, hc, hat⟩ := HS.out.at (i := j) (by have := HN.out; omega)
      obtain ⟨c0, c1⟩ := PrAt.later hat (show Below W0.heap.size W0 wr from hbr)
      have hjl' : (j : Int) < (n : Int) := by omega
      have hj0 : (0 : Int) ≤ (j : Int) := by omega
      have hjn : ((j : Int).toNat) = j := by omega
      have HC := Lib.hid (hiD_at hc)
      clear hc hat
      by_cases hpos : 0 < c.b
      rotate_left 1
      · have hd : decide (0 < c.b) = false := by simpa using hpos
        have HF : Hid (hardB l ys j = false) := Lib.hid (by unfold hardB; rw [HC.out, hd]; rfl)
        go_wp2_with fail
        go_roundg (n - j)
        case rel =>
          refine ⟨j + 1, by omega, by omega, by go_num, fun i hi => ?_, HO2.out, hbr⟩
          rcases Nat.lt_succ_iff_lt_or_eq.1 hi with hi | hi
          · exact HNo.out i hi
          · subst hi; exact HF.out
        case measure => omega
      have hd : decide (0 < c.b) = true := by simpa using hpos
      have hsl : SlI wr (.slice (some ⟨g, 0, none⟩) n cap) ys := by
        have h1 : ys.length = n := by rw [HZ.out.1]; exact HN.out
        have := HO2.out.sl (cap := cap) (by omega) (by omega)
        rwa [h1] at this
      have HSl := Lib.hid hsl
      have HVl := Lib.hid (prLater HS.out hbr)
      rw [HN.out] at HVl
      clear hsl
      go_wp2_with fail
      refine (isHardest_any _ _ l ys j (M + k) _ HVl.out HSl.out (by have := HN.out; omega) HP.out HZ.out (by omega)).mono ?_
      rintro e w2 ⟨rfl, hb2⟩
      have hB2 : Below W0.heap.size W0 w2 := hbr.trans (hb2.mono hbr.size)
      have HO3 := Lib.hid (HO2.out.later hb2)
      clear hb2 c0 c1 hbr
      cases hh : allB l ys j
      · have HF : Hid (hardB l ys j = false) := Lib.hid (by unfold hardB; rw [hh]; simp)
        clear hh
        go_wp2_with fail
        go_roundg (n - j)
        case rel =>
          refine ⟨j + 1, by omega, by omega, by go_num, fun i hi => ?_, HO3.out, hB2⟩
          rcases Nat.lt_succ_iff_lt_or_eq.1 hi with hi | hi
          · exact HNo.out i hi
          · subst hi; exact HF.out
        case measure => omega
      · have HF : Hid (hardB l ys j = true) := Lib.hid (by unfold hardB; rw [HC.out, hd, hh]; rfl)
        clear hh
        have hyl : j < ys.length := by rw [HZ.out.1]; have := HN.out; omega
        have hy := HO3.out.put j ys[j] (List.getElem?_eq_getElem hyl)
        have hyb := HZ.out.2 j ys[j] (List.getElem?_eq_getElem hyl)
        have hyz := zD_at (List.getElem?_eq_getElem hyl)
        obtain ⟨y, hyy⟩ : ∃ y, ys[j] = y := ⟨_, rfl⟩
        rw [hyy] at hy hyb hyz
        have HY := Lib.hid (And.intro hyl hyz)
        have hf := HO3.out.fz j
        have hgl := HO3.out.lt
        obtain ⟨y0, y1, _⟩ := hyb
        have HSt := Lib.hid (show iterS l (ys.set j (y + 1)) (left - (k + 1)) = iterS l zs left by
          have h2 := HIt.out
          rw [show left - k = left - (k + 1) + 1 by omega, iter_some (pick_some (by have := HN.out; omega) HF.out HNo.out), hyz] at h2
          exact h2)
        have HZn := Lib.hid (show InvZ l (ys.set j (y + 1)) (M + ((k + 1 : Nat) : Int)) by
          have h2 := HZ.out.set (i := j)
          rw [hyz] at h2
          rw [show M + ((k + 1 : Nat) : Int) = M + k + 1 by omega]
          exact h2)
        clear hyl hyz hyy
        go_wp2_with fail
        go_roundg (left - k)
        case rel => exact ⟨k + 1, ys.set j (y + 1), by omega, by omega, by go_num, HSt.out, HZn.out, HO3.out.set HY.out.1 (y + 1), hB2.setCell (by omega) _⟩
        case measure => omega
end Go.Proofs.Ytbkabgbkdggnhaa
