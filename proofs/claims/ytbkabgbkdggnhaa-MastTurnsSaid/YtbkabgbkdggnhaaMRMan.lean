/- The reference of package mast: Man. -/
import Derived.Test.YtbkabgbkdggnhaaMMan2
namespace Go.Proofs.Ytbkabgbkdggnhaa
open Go.RowKit

/-- The best of the first i lines, as the reference finds it. -/
def BestTo (l : List Pr) (ys : List Int) (i : Nat) (x : Int) : Prop :=
  (x = -1 ∧ ∀ j, j < i → ¬ 0 < hiD l j) ∨ ∃ p : Nat, p < i ∧ x = p ∧ 0 < hiD l p ∧ (∀ j, j < i → 0 < hiD l j → hiD l j * zD ys p ≤ hiD l p * zD ys j) ∧ (∀ j, j < p → 0 < hiD l j → hiD l j * zD ys p < hiD l p * zD ys j)
theorem BestTo.start (l : List Pr) (ys : List Int) : BestTo l ys 0 (-1) := .inl ⟨rfl, fun j hj => absurd hj (by omega)⟩
theorem lt_succ {i j : Nat} (h : j < i + 1) : j < i ∨ j = i := by omega
theorem BestTo.skip {l : List Pr} {ys : List Int} {i : Nat} {x : Int} (h : BestTo l ys i x) (hi : ¬ 0 < hiD l i) : BestTo l ys (i + 1) x := by
  rcases h with ⟨rfl, h⟩ | ⟨p, h1, rfl, h2, h3, h4⟩
  · refine .inl ⟨rfl, fun j hj => ?_⟩
    rcases lt_succ hj with hj | rfl
    · exact h j hj
    · exact hi
  · refine .inr ⟨p, by omega, rfl, h2, fun j hj h0 => ?_, h4⟩
    rcases lt_succ hj with hj | rfl
    · exact h3 j hj h0
    · exact absurd h0 hi
theorem BestTo.first {l : List Pr} {ys : List Int} {i : Nat} (h : BestTo l ys i (-1)) (hi : 0 < hiD l i) : BestTo l ys (i + 1) i := by
  rcases h with ⟨_, h⟩ | ⟨p, h1, hx, _⟩
  · refine .inr ⟨i, by omega, rfl, hi, fun j hj h0 => ?_, fun j hj h0 => absurd h0 (h j hj)⟩
    rcases lt_succ hj with hj | rfl
    · exact absurd h0 (h j hj)
    · exact Int.le_refl _
  · omega
theorem BestTo.keep {l : List Pr} {ys : List Int} {i p : Nat} (h : BestTo l ys i (p : Int)) (hc : hiD l i * zD ys p ≤ hiD l p * zD ys i) : BestTo l ys (i + 1) (p : Int) := by
  rcases h with ⟨hx, _⟩ | ⟨q, h1, hx, h2, h3, h4⟩
  · omega
  · obtain rfl : p = q := by omega
    refine .inr ⟨p, by omega, rfl, h2, fun j hj h0 => ?_, h4⟩
    rcases lt_succ hj with hj | rfl
    · exact h3 j hj h0
    · exact hc
theorem cross_strict {a b c d e f : Int} (hb : 0 < b) (hd : 0 < d) (hf : 0 < f) (h1 : a * d ≤ c * b) (h2 : c * f < e * d) : a * f < e * b := by
  have h3 : a * d * f ≤ c * b * f := Int.mul_le_mul_of_nonneg_right h1 (by omega)
  have h4 : c * f * b < e * d * b := Int.mul_lt_mul_of_pos_right h2 hb
  have h5 : a * f * d < e * b * d := by
    rw [show a * f * d = a * d * f from Int.mul_right_comm _ _ _, show e * b * d = e * d * b from Int.mul_right_comm _ _ _]
    have : c * b * f = c * f * b := Int.mul_right_comm _ _ _
    omega
  exact Int.lt_of_mul_lt_mul_right h5 (by omega)
theorem zD_pos {l : List Pr} {ys : List Int} {M : Int} {j : Nat} (hz : InvZ l ys M) (hj : j < l.length) (h0 : 0 < hiD l j) : 0 < zD ys j := by
  have hj' : j < ys.length := by rw [hz.1]; exact hj
  rw [zD_at (List.getElem?_eq_getElem hj')]
  exact (hz.2 j _ (List.getElem?_eq_getElem hj')).2.2 h0
theorem BestTo.better {l : List Pr} {ys : List Int} {M : Int} {i p : Nat} (hz : InvZ l ys M) (hl : i < l.length) (h : BestTo l ys i (p : Int)) (hi : 0 < hiD l i) (hc : hiD l p * zD ys i < hiD l i * zD ys p) : BestTo l ys (i + 1) (i : Int) := by
  rcases h with ⟨hx, _⟩ | ⟨q, h1, hx, h2, h3, h4⟩
  · omega
  · obtain rfl : p = q := by omega
    have hs : ∀ j, j < i → 0 < hiD l j → hiD l j * zD ys i < hiD l i * zD ys j := fun j hj h0 =>
      cross_strict (zD_pos hz (by omega) h0) (zD_pos hz (by omega) h2) (zD_pos hz hl hi) (h3 j hj h0) hc
    refine .inr ⟨i, by omega, rfl, hi, fun j hj h0 => ?_, hs⟩
    rcases lt_succ hj with hj | rfl
    · have := hs j hj h0; omega
    · exact Int.le_refl _
theorem BestTo.pick {l : List Pr} {ys : List Int} {M x : Int} (hz : InvZ l ys M) (hp : ∀ j, j < l.length → 0 ≤ hiD l j) (h : BestTo l ys l.length x) : (x = -1 ∧ pickO l ys = none) ∨ ∃ p : Nat, p < l.length ∧ x = p ∧ pickO l ys = some p := by
  rcases h with ⟨rfl, h⟩ | ⟨p, h1, rfl, h2, h3, h4⟩
  · refine .inl ⟨rfl, pick_none fun j hj => ?_⟩
    unfold hardB
    rw [decide_eq_false (h j hj)]
    rfl
  · refine .inr ⟨p, h1, rfl, pick_some h1 ?_ fun j hj => ?_⟩
    · unfold hardB
      rw [Bool.and_eq_true]
      refine ⟨by simpa using h2, allB_iff.2 fun j hj => ?_⟩
      by_cases h0 : 0 < hiD l j
      · exact h3 j hj h0
      · have e : hiD l j = 0 := by have := hp j hj; omega
        rw [e, Int.zero_mul]
        have hj' : j < ys.length := by rw [hz.1]; exact hj
        have hzj := (hz.2 j _ (List.getElem?_eq_getElem hj')).1
        rw [zD_at (List.getElem?_eq_getElem hj')]
        exact Int.mul_nonneg (by omega) hzj
    · unfold hardB
      by_cases h0 : 0 < hiD l j
      · have h5 := h4 j hj h0
        cases hh : allB l ys j
        · simp
        · have := allB_iff.1 hh p h1
          omega
      · rw [decide_eq_false h0]; rfl
theorem hi_nonneg {l : List Pr} (h : pullsB l = true) : ∀ j, j < l.length → 0 ≤ hiD l j := fun j hj => by
  rw [hiD_at (List.getElem?_eq_getElem hj)]
  exact ((puB_of h).2 _ (List.getElem_mem hj)).1
theorem OwnV.sl {W0 w : World} {u : Value} {zs : List Int} (h : OwnV W0 w u zs) (hn : zs.length ≤ 1000) : SlI w u zs := by
  rcases h with ⟨rfl, rfl⟩ | ⟨g, cap, rfl, h1, h2, _⟩
  · exact nil_sl _
  · exact h2.sl h1 hn
theorem OwnV.base {W0 W1 w : World} {u : Value} {zs : List Int} (h : OwnV W1 w u zs) (hb : W0.heap.size ≤ W1.heap.size) : OwnV W0 w u zs := by
  rcases h with h | ⟨g, cap, h0, h1, h2, h3⟩
  · exact .inl h
  · exact .inr ⟨g, cap, h0, h1, h2, by omega⟩
theorem OwnV.later {W0 w w1 : World} {u : Value} {zs : List Int} (h : OwnV W0 w u zs) (hb : Below w.heap.size w w1) : OwnV W0 w1 u zs := by
  rcases h with h | ⟨g, cap, h0, h1, h2, h3⟩
  · exact .inl h
  · exact .inr ⟨g, cap, h0, h1, h2.later hb, h3⟩
theorem OwnV.row {W0 w : World} {a : Option Addr} {cap k n : Nat} {zs : List Int} (h : OwnV W0 w (.slice a n cap) zs) (hk : k < zs.length) : ∃ g : Nat, a = some ⟨g, 0, none⟩ ∧ Own w g zs ∧ W0.heap.size ≤ g := by
  rcases h with ⟨rfl, _⟩ | ⟨g, cap', h0, h1, h2, h3⟩
  · simp at hk
  · injection h0 with h0
    exact ⟨g, h0, h2, h3⟩
theorem OwnV.form {W0 w : World} {u : Value} {zs : List Int} (h : OwnV W0 w u zs) : ∃ (a : Option Addr) (cap : Nat), u = .slice a zs.length cap ∧ zs.length ≤ cap := by
  rcases h with ⟨rfl, rfl⟩ | ⟨g, cap, rfl, h1, _⟩
  · exact ⟨_, _, rfl, Nat.le_refl _⟩
  · exact ⟨_, _, rfl, h1⟩

theorem InvZ.up {l : List Pr} {ys : List Int} {M : Int} (h : InvZ l ys M) : InvZ l ys (M + 1) := ⟨h.1, fun i z e => by have := h.2 i z e; exact ⟨this.1, by omega, this.2.2⟩⟩
/-- The heads of the reference's loops. -/
def RmHead (l : List Pr) (zs : List Int) (left : Nat) (M : Int) (u : Value) (W0 wr : World) (v : Value) : Prop :=
  ∃ (k : Nat) (ys : List Int), k ≤ left ∧ v = .int .i64 ((left : Int) - k) ∧ iterS l ys (left - k) = iterS l zs left ∧ InvZ l ys (M + k) ∧ OwnV W0 wr u ys ∧ Below W0.heap.size W0 wr
def RkHead (l : List Pr) (ys : List Int) (n : Nat) (u : Value) (W0 wr : World) (v v' : Value) : Prop :=
  ∃ (i : Nat) (x : Int), i ≤ n ∧ v = .int .i64 x ∧ v' = .int .i64 i ∧ BestTo l ys i x ∧ OwnV W0 wr u ys ∧ Below W0.heap.size W0 wr

set_option linter.unusedSimpArgs false in
set_option maxRecDepth 100000 in
set_option maxHeartbeats 8000000 in
theorem rman_any (v : Value) (l : List Pr) (people m : Int) (w : World) (hs : SlPr w v l) :
    Calls Try.prog 21 #[v, .int .i64 people, .int .i64 m] w fun e w' => ManP l people m e w' ∧ Below w.heap.size w w' := by
  obtain ⟨a, cap, rfl, hlen, hcap⟩ := hs.form
  have HS := Lib.hid hs
  clear hs
  go_enter Try.func21, Try.ntmps21
  go_wp2_with fail
  refine (rpulls_any _ l _ HS.out).mono ?_
  rintro e w1 ⟨rfl, hb1⟩
  cases h1 : pullsB l
  · have H1 := Lib.hid h1
    clear h1
    have HB := Lib.hid (manL_bad (l := l) (people := people) (m := m) (by unfold manOk; rw [H1.out]; simp))
    go_wp2_with fail
    go_returns
    exact ⟨⟨.slice none 0 0, ret_si (n := 2) (by rw [HB.out]), by rw [HB.out]; exact nil_sl _⟩, by first | assumption | go_grown⟩
  have H1 := Lib.hid h1
  clear h1
  go_wp2_with fail
  refine (rwithin_any people 0 200 _).mono ?_
  rintro e w2 ⟨rfl, rfl⟩
  cases h2 : inB people 0 200
  · have H2 := Lib.hid h2
    clear h2
    have HB := Lib.hid (manL_bad (l := l) (people := people) (m := m) (by unfold manOk; rw [H1.out, H2.out]; simp))
    go_wp2_with fail
    go_returns
    exact ⟨⟨.slice none 0 0, ret_si (n := 2) (by rw [HB.out]), by rw [HB.out]; exact nil_sl _⟩, by first | assumption | go_grown⟩
  have H2 := Lib.hid h2
  clear h2
  go_wp2_with fail
  refine (rwithin_any m 1 1000000 _).mono ?_
  rintro e w3 ⟨rfl, rfl⟩
  cases h3 : inB m 1 1000000
  · have H3 := Lib.hid h3
    clear h3
    have HB := Lib.hid (manL_bad (l := l) (people := people) (m := m) (by unfold manOk; rw [H1.out, H2.out, H3.out]; simp))
    go_wp2_with fail
    go_returns
    exact ⟨⟨.slice none 0 0, ret_si (n := 2) (by rw [HB.out]), by rw [HB.out]; exact nil_sl _⟩, by first | assumption | go_grown⟩
  have HOk := Lib.hid (show manOk l people m = true by unfold manOk; rw [H1.out, H2.out, h3]; rfl)
  clear h3
  obtain ⟨_, p0, p1, m0, m1⟩ := manOk_yes HOk.out
  have HFew := Lib.hid (need_few H1.out m0 m1)
  go_wp2_with fail
  refine (rneeds_any _ l m _ (prLater HS.out hb1) H1.out m0 m1).mono ?_
  rintro e w4 ⟨⟨u, rfl, how⟩, hb4⟩
  have hB4 : Below w.heap.size w w4 := hb1.trans (hb4.mono hb1.size)
  replace how := how.base hb1.size
  have hlen20 : (needL l m).length ≤ 20 := HFew.out.1
  have hnl := needL_len l m
  obtain ⟨a4, cap4, rfl, hcap4⟩ := how.form
  have hsl := how.sl (by omega)
  rw [hnl] at how hcap4 hsl ⊢
  have HSl := Lib.hid hsl
  have HO := Lib.hid how
  clear how hb4 hb1 hsl hnl hlen20
  go_wp2_with fail
  refine (rtotal_any _ _ _ HSl.out HFew.out).mono ?_
  rintro e w5 ⟨rfl, rfl⟩
  have hsb := HFew.out.part (needL l m).length
  rw [List.take_length] at hsb
  obtain ⟨S, hS⟩ : ∃ S, (needL l m).sum = S := ⟨_, rfl⟩
  rw [hS] at hsb
  rw [hS]
  obtain ⟨s0, s1⟩ := hsb
  have HSum := Lib.hid hS
  by_cases hfew : people < S
  · have HB := Lib.hid (manL_few HOk.out (by rw [hS]; exact hfew))
    clear hS
    go_wp2_with fail
    go_returns
    exact ⟨⟨.slice none 0 0, ret_si (n := 75) (by rw [HB.out]), by rw [HB.out]; exact nil_sl _⟩, hB4⟩
  have HB := Lib.hid (manL_ok HOk.out (by rw [hS]; exact hfew))
  obtain ⟨left, hleft⟩ : ∃ k : Nat, people - S = k := ⟨(people - S).toNat, by omega⟩
  have HInv := Lib.hid (need_inv H1.out m0 m1 (by omega))
  have HLf := Lib.hid (show (people - (needL l m).sum).toNat = left by rw [hS]; omega)
  clear hS
  go_wp2_with fail
  refine (rtotal_any _ _ _ HSl.out HFew.out).mono ?_
  rintro e w6 ⟨rfl, rfl⟩
  rw [HSum.out]
  have f1 : IntKind.i64.wrap (people - S) = (left : Int) := by rw [IntWalk.i64_in _ ⟨by omega, by omega⟩]; exact hleft
  have hl200 : left ≤ 200 := by omega
  obtain ⟨h8, _⟩ := puB_of H1.out
  clear s0 s1 hfew HSl hleft
  go_wp2_with fail
  go_loopw [9] (fun v9 wr => RmHead l (needL l m) left 200 (.slice a4 l.length cap4) w wr v9) (fun v9 _ => (intOf v9).toNat)
  case atStart => exact ⟨0, _, by omega, by simp, rfl, by simpa using HInv.out, HO.out, hB4⟩
  case round =>
    obtain ⟨k, ys, hk, rfl, hit, hzs, hown, hbr⟩ := hrel
    have HO2 := Lib.hid hown
    have HZ := Lib.hid hzs
    have HIt := Lib.hid hit
    have HBr := Lib.hid hbr
    clear hown hzs hit hbr
    by_cases hlt : k < left
    rotate_left 1
    · have hk2 : k = left := by omega
      have HF : Hid (ys = iterS l (needL l m) left) := Lib.hid (by rw [← HIt.out, hk2, Nat.sub_self]; rfl)
      have hg0 : ¬ 0 < (left : Int) - (k : Int) := by omega
      go_wp2_with fail
      go_returns
      exact ⟨⟨.slice a4 l.length cap4, ret_si (n := 0) (by rw [HB.out]), by rw [HB.out, HLf.out, ← HF.out]; exact HO2.out.sl (by rw [HZ.out.1]; omega)⟩, HBr.out⟩
    have hg0 : 0 < (left : Int) - (k : Int) := by omega
    have hd37 : decide (0 < (left : Int) - (k : Int)) = true := by simpa using hg0
    go_wp2_with fail
    clear hd37 hg0
    go_loopw [10, 11] (fun v10 v11 wr => RkHead l ys l.length (.slice a4 l.length cap4) w wr v10 v11) (fun _ v11 _ => l.length - (intOf v11).toNat)
    case atStart => exact ⟨0, -1, by omega, rfl, rfl, BestTo.start _ _, HO2.out, HBr.out⟩
    case round =>
      obtain ⟨i, x, hi, rfl, rfl, hbest, hown, hbr⟩ := hrel
      have HBe := Lib.hid hbest
      have HO3 := Lib.hid hown
      clear hbest hown
      by_cases hil : i < l.length
      rotate_left 1
      · have hil2 : i = l.length := by omega
        have hpk := BestTo.pick HZ.out (hi_nonneg H1.out) (show BestTo l ys l.length x by rw [← hil2]; exact HBe.out)
        have f9 : IntKind.i64.wrap ((left : Int) - (k : Int) - 1) = (left : Int) - ((k + 1 : Nat) : Int) := by rw [IntWalk.i64_in _ ⟨by omega, by omega⟩]; omega
        rcases hpk with ⟨rfl, hpk⟩ | ⟨p, hp, rfl, hpk⟩
        · have HSt := Lib.hid (show iterS l ys (left - (k + 1)) = iterS l (needL l m) left by rw [← HIt.out, iter_none hpk, iter_none hpk])
          have HZn := Lib.hid (show InvZ l ys (200 + ((k + 1 : Nat) : Int)) by rw [show (200 : Int) + ((k + 1 : Nat) : Int) = 200 + k + 1 by omega]; exact HZ.out.up)
          clear hpk
          go_wp2_with fail
          go_roundw
          case rel => exact ⟨k + 1, ys, by omega, rfl, HSt.out, HZn.out, HO3.out, hbr⟩
          case measure => simp [intOf]; omega
        · have hpl : p < ys.length := by rw [HZ.out.1]; exact hp
          obtain ⟨g, rfl, hog, hg0⟩ := HO3.out.row hpl
          have hy := hog.put p ys[p] (List.getElem?_eq_getElem hpl)
          have hyb := HZ.out.2 p ys[p] (List.getElem?_eq_getElem hpl)
          have hyz := zD_at (List.getElem?_eq_getElem hpl)
          obtain ⟨y, hyy⟩ : ∃ y, ys[p] = y := ⟨_, rfl⟩
          rw [hyy] at hy hyb hyz
          have hf := hog.fz p
          have hgl := hog.lt
          have HOg := Lib.hid hog
          obtain ⟨y0, y1, _⟩ := hyb
          have HSt := Lib.hid (show iterS l (ys.set p (y + 1)) (left - (k + 1)) = iterS l (needL l m) left by
            have h2 := HIt.out
            rw [show left - k = left - (k + 1) + 1 by omega, iter_some hpk, hyz] at h2
            exact h2)
          have HZn := Lib.hid (show InvZ l (ys.set p (y + 1)) (200 + ((k + 1 : Nat) : Int)) by
            have h2 := HZ.out.set (i := p)
            rw [hyz] at h2
            rw [show (200 : Int) + ((k + 1 : Nat) : Int) = 200 + k + 1 by omega]
            exact h2)
          have HPl := Lib.hid hpl
          have hp0 : (0 : Int) ≤ (p : Int) := by omega
          have hp1 : (p : Int) < (l.length : Int) := by omega
          have hpn : ((p : Int).toNat) = p := by omega
          have HLn := Lib.hid HZ.out.1
          clear hpl hyz hyy hpk hog
          go_wp2_with fail
          go_roundw
          case rel => exact ⟨k + 1, ys.set p (y + 1), by omega, rfl, HSt.out, HZn.out, .inr ⟨g, cap4, by rw [List.length_set, HLn.out], by rw [List.length_set, HLn.out]; exact hcap4, HOg.out.set HPl.out (y + 1), hg0⟩, hbr.setCell (by omega) _⟩
          case measure => simp [intOf]; omega
      obtain ⟨bb, off, c, rfl, hb, hc, hat⟩ := HS.out.at hil
      obtain ⟨c0, c1⟩ := PrAt.later hat (show Below w.heap.size w wr from hbr)
      have hil' : (i : Int) < (l.length : Int) := by omega
      have hi0 : (0 : Int) ≤ (i : Int) := by omega
      have hin : ((i : Int).toNat) = i := by omega
      have HC := Lib.hid (hiD_at hc)
      have hcb := (puB_of H1.out).2 c (List.mem_of_getElem? hc)
      obtain ⟨cb0, cb1⟩ := hcb
      clear hc hat
      by_cases hpos : 0 < c.b
      rotate_left 1
      · have hd : decide (0 < c.b) = false := by simpa using hpos
        have HBn := Lib.hid (BestTo.skip HBe.out (by rw [HC.out]; exact hpos))
        go_wp2_with fail
        go_quiet (fail)
        have HO4 := Lib.hid (HO3.out.later (below_drewN (Below.refl _ _) nq))
        have hbr2 := below_drewN hbr nq
        go_wp2_with fail
        go_roundw
        case rel => exact ⟨i + 1, x, by omega, rfl, by go_num, HBn.out, HO4.out, hbr2⟩
        case measure => simp [intOf]; omega
      have hd : decide (0 < c.b) = true := by simpa using hpos
      have hcases : x = -1 ∨ ∃ p : Nat, p < i ∧ x = p := by
        rcases HBe.out with ⟨h, _⟩ | ⟨p, h1, h2, _⟩
        · exact .inl h
        · exact .inr ⟨p, h1, h2⟩
      rcases hcases with rfl | ⟨p, hpi, rfl⟩
      · have HBn := Lib.hid (BestTo.first HBe.out (by rw [HC.out]; exact hpos))
        go_wp2_with fail
        go_quiet (fail)
        have HO4 := Lib.hid (HO3.out.later (below_drewN (Below.refl _ _) nq))
        have hbr2 := below_drewN hbr nq
        go_wp2_with fail
        go_roundw
        case rel => exact ⟨i + 1, i, by omega, rfl, by go_num, HBn.out, HO4.out, hbr2⟩
        case measure => simp [intOf]; omega
      · have hpl : p < l.length := by omega
        obtain ⟨bb', off', cp, hbo, hb', hcp, hatp⟩ := HS.out.at hpl
        injection hbo with hbo
        injection hbo with hbo1 hbo2
        subst hbo1 hbo2
        obtain ⟨cp0, cp1⟩ := PrAt.later hatp (show Below w.heap.size w wr from hbr)
        have hiy : i < ys.length := by rw [HZ.out.1]; exact hil
        have hpy : p < ys.length := by rw [HZ.out.1]; exact hpl
        obtain ⟨g, rfl, hog, hg0⟩ := HO3.out.row hiy
        have ei := hog.put i ys[i] (List.getElem?_eq_getElem hiy)
        have ep := hog.put p ys[p] (List.getElem?_eq_getElem hpy)
        obtain ⟨zi0, zi1, -⟩ := HZ.out.2 i ys[i] (List.getElem?_eq_getElem hiy)
        obtain ⟨zp0, zp1, -⟩ := HZ.out.2 p ys[p] (List.getElem?_eq_getElem hpy)
        have hzi := zD_at (List.getElem?_eq_getElem hiy)
        have hzp := zD_at (List.getElem?_eq_getElem hpy)
        obtain ⟨zi, hzi2⟩ : ∃ z, ys[i] = z := ⟨_, rfl⟩
        obtain ⟨zp, hzp2⟩ : ∃ z, ys[p] = z := ⟨_, rfl⟩
        rw [hzi2] at ei zi0 zi1 hzi
        rw [hzp2] at ep zp0 zp1 hzp
        obtain ⟨q0, q1⟩ := (puB_of H1.out).2 cp (List.mem_of_getElem? hcp)
        have HK := Lib.hid (And.intro (hiD_at hcp) (And.intro hzi hzp))
        have hp0 : (0 : Int) ≤ (p : Int) := by omega
        have hp1 : (p : Int) < (l.length : Int) := by omega
        have hpn : ((p : Int).toNat) = p := by omega
        have hpneg : ¬ (p : Int) < 0 := by omega
        obtain ⟨m2, m3⟩ := mul_few cb0 cb1 zp0 (by omega)
        obtain ⟨n2, n3⟩ := mul_few q0 q1 zi0 (by omega)
        obtain ⟨X, hX⟩ : ∃ X, c.b * zp = X := ⟨_, rfl⟩
        obtain ⟨Y, hY⟩ : ∃ Y, cp.b * zi = Y := ⟨_, rfl⟩
        rw [hX] at m2 m3
        rw [hY] at n2 n3
        have f1 : IntKind.i64.wrap X = X := IntWalk.i64_in _ ⟨by omega, by omega⟩
        have f2 : IntKind.i64.wrap Y = Y := IntWalk.i64_in _ ⟨by omega, by omega⟩
        have HXY := Lib.hid (show hiD l i * zD ys p = X ∧ hiD l p * zD ys i = Y by rw [HC.out, HK.out.1, HK.out.2.1, HK.out.2.2, hX, hY]; exact ⟨rfl, rfl⟩)
        clear hcp hatp hiy hpy hog hzi hzp hzi2 hzp2 m2 m3 n2 n3
        by_cases hxy : Y < X
        · have hd2 : decide (Y < X) = true := by simpa using hxy
          have HBn := Lib.hid (BestTo.better HZ.out hil HBe.out (by rw [HC.out]; exact hpos) (by rw [HXY.out.1, HXY.out.2]; exact hxy))
          go_wp2_with fail
          go_quiet (fail)
          have HO4 := Lib.hid (HO3.out.later (below_drewN (Below.refl _ _) nq))
          have hbr2 := below_drewN hbr nq
          go_wp2_with fail
          go_roundw
          case rel => exact ⟨i + 1, i, by omega, rfl, by go_num, HBn.out, HO4.out, hbr2⟩
          case measure => simp [intOf]; omega
        · have hd2 : decide (Y < X) = false := by simpa using hxy
          have HBn := Lib.hid (BestTo.keep HBe.out (by rw [HXY.out.1, HXY.out.2]; omega))
          go_wp2_with fail
          go_quiet (fail)
          have HO4 := Lib.hid (HO3.out.later (below_drewN (Below.refl _ _) nq))
          have hbr2 := below_drewN hbr nq
          go_wp2_with fail
          go_roundw
          case rel => exact ⟨i + 1, p, by omega, rfl, by go_num, HBn.out, HO4.out, hbr2⟩
          case measure => simp [intOf]; omega
end Go.Proofs.Ytbkabgbkdggnhaa
