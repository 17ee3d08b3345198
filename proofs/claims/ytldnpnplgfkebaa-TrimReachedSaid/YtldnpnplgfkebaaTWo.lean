/- Package trim: scaleOf, choose, total over puts, checkBoth, Worst. -/
import Derived.Test.YtldnpnplgfkebaaTAst
import Derived.Test.YtldnpnplgfkebaaTEnds
namespace Go.Proofs.Ytldnpnplgfkebaa
open Go.RowKit

set_option maxHeartbeats 400000 in
theorem scaleOf_any (x : Li) (w : World) : Calls Try.prog 65 #[liV x] w fun e w' => e = .returned (sp x.a x.b) ∧ Below w.heap.size w w' := by
  go_enter Try.func65, Try.ntmps65
  go_wp2_with fail
  exact bodyPost_ret (v := sp x.a x.b) (by simp [results, Try.results65, go_sem, *]) rfl ⟨rfl, by go_grown⟩

/-- The head of choose's loop. -/
def ChHead (a b : Int) (ls : List Ld) (w wr : World) (v : Value) : Prop := ∃ k : Nat, k ≤ ls.length ∧ v = .int .i64 k ∧ MadeTo wr w.heap.size ls.length k (fun i => worstP a b (ls.getD i default)) ∧ Below w.heap.size w wr
/-- What choose returns. -/
def ChP (n : Nat) (ps : List Pu) (w : World) (e : Ending) (w' : World) : Prop := ∃ g : Nat, e = .returned (.slice (some ⟨g, 0, none⟩) n n) ∧ SlPu w' (.slice (some ⟨g, 0, none⟩) n n) ps ∧ Below w.heap.size w w'
set_option maxHeartbeats 2000000 in
theorem choose_any (a b : Int) (v : Value) (ls : List Ld) (w : World) (hv : SlLd w v ls) (h50 : ls.length ≤ 50) (hs : ScB a b) (hl : ∀ l, l ∈ ls → LdB l) :
    Calls Try.prog 66 #[v, .func (.func 67) #[sp a b] #[]] w (ChP ls.length (ls.map (worstP a b)) w) := by
  obtain ⟨ad, cap, rfl, hlen, hcap⟩ := hv.form
  have HV := Lib.hid hv
  have HS := Lib.hid hs
  have HL := Lib.hid hl
  clear hv hs hl
  have hmk := make_puts ls.length (by omega)
  go_enter Try.func66, Try.ntmps66
  go_wp2_with fail
  go_loopw [13] (fun v13 wr => ChHead a b ls w wr v13) (fun v13 _ => ls.length - (intOf v13).toNat)
  case atStart => exact ⟨0, by omega, rfl, MadeTo.start _ _ _, by go_grown⟩
  case round =>
    obtain ⟨k, hk, rfl, hm, hbr⟩ := hrel
    have HM := Lib.hid hm
    clear hm hmk
    by_cases hlt : k < ls.length
    · obtain ⟨bk, off, c, rfl, hb, hc, hat⟩ := HV.out.at hlt
      obtain ⟨c0, c1, c2, c3⟩ := LdAt.later hat (show Below w.heap.size w wr from hbr)
      have hlt' : (k : Int) < (ls.length : Int) := by omega
      have hk0 : (0 : Int) ≤ (k : Int) := by omega
      have HC := Lib.hid (show ls.getD k default = c by rw [List.getD_eq_getElem?_getD, hc]; rfl)
      have HLc := Lib.hid (HL.out c (List.mem_of_getElem? hc))
      have hz := HM.out.lt
      clear hc hat
      obtain ⟨P, hP⟩ : ∃ P, worstP a b c = P := ⟨_, rfl⟩
      have HP := Lib.hid hP
      clear hP
      go_wp2_with fail
      refine (worst_any a b c _ HS.out HLc.out).mono ?_
      rintro e w1 ⟨rfl, hb1⟩
      rw [HP.out]
      have hb2 : Below wr.heap.size wr w1 := two (by go_grown) hb1
      have hB1 : Below w.heap.size w w1 := hbr.trans (hb2.mono hbr.size)
      have HM1 := Lib.hid (HM.out.later hb2)
      have f0 := HM1.out.fz (k * 2)
      have f1 := HM1.out.fz (k * 2 + 1)
      obtain ⟨x0, e0⟩ := HM1.out.old (k * 2) (by omega)
      obtain ⟨x1, e1⟩ := HM1.out.old (k * 2 + 1) (by omega)
      have hz1 := HM1.out.lt
      clear hb1 hb2 c0 c1 c2 c3
      go_wp2_with fail
      go_roundw
      case rel =>
        have h9 := HM1.out.store (k := k) hlt
        simp only [HC.out, HP.out] at h9
        exact ⟨k + 1, by omega, by go_num, h9, by go_grown⟩
      case measure => simp [intOf]; omega
    · have hkk : k = ls.length := by omega
      have HK := Lib.hid hkk
      clear hkk
      go_wp2_with fail
      go_returns
      exact ⟨_, rfl, MadeTo.done (by have := HM.out; rw [HK.out] at this; exact this) (by omega), hbr⟩
end Go.Proofs.Ytldnpnplgfkebaa
/- Package trim: total over puts, checkBoth, Worst. -/
namespace Go.Proofs.Ytldnpnplgfkebaa
open Go.RowKit

theorem vals_take {a b : Int} {ps : List Pu} {k : Nat} (hs : ScB a b) (hp : ∀ p, p ∈ ps → PuB p) (h50 : ps.length ≤ 50) :
    -2147637335328358450 ≤ sumE (valE a b) (ps.take k) ∧ sumE (valE a b) (ps.take k) ≤ 2147637335328358450 := by
  have := sum_bound (f := valE a b) (m := 42952746706567169) (ps.take k) (fun x hx => by have := (val_bound hs (hp x (List.mem_of_mem_take hx))).2; omega)
  have h1 : (ps.take k).length ≤ 50 := by rw [List.length_take]; omega
  omega
set_option maxHeartbeats 2000000 in
theorem totalPuts_any (a b : Int) (v : Value) (ps : List Pu) (w : World) (hv : SlPu w v ps) (h50 : ps.length ≤ 50) (hs : ScB a b) (hp : ∀ p, p ∈ ps → PuB p) :
    Calls Try.prog 68 #[v, .func (.func 69) #[sp a b] #[]] w fun e w' => e = .returned (.int .i64 (sumE (valE a b) ps)) ∧ Below w.heap.size w w' := by
  obtain ⟨ad, cap, rfl, hlen, hcap⟩ := hv.form
  have HV := Lib.hid hv
  have HS := Lib.hid hs
  have HL := Lib.hid hp
  clear hv hs hp
  go_enter Try.func68, Try.ntmps68
  go_wp2_with fail
  go_loopw [5, 10] (fun v5 v10 wr => TotHead (valE a b) ps w wr v5 v10) (fun _ v10 _ => ps.length - (intOf v10).toNat)
  case atStart => exact ⟨0, by omega, rfl, rfl, Below.refl _ _⟩
  case round =>
    obtain ⟨k, hk, rfl, rfl, hbr⟩ := hrel
    by_cases hlt : k < ps.length
    · obtain ⟨bk, off, c, rfl, hb, hc, hat⟩ := HV.out.at hlt
      obtain ⟨c0, c1⟩ := PuAt.later hat (show Below w.heap.size w wr from hbr)
      have hlt' : (k : Int) < (ps.length : Int) := by omega
      have hk0 : (0 : Int) ≤ (k : Int) := by omega
      have hbd := vals_take (k := k) HS.out HL.out h50
      have hbm := (val_bound HS.out (HL.out c (List.mem_of_getElem? hc))).2
      have HC := Lib.hid (sum_take (f := valE a b) hc)
      have HLc := Lib.hid (HL.out c (List.mem_of_getElem? hc))
      obtain ⟨X, hX⟩ : ∃ X, sumE (valE a b) (ps.take k) = X := ⟨_, rfl⟩
      rw [hX] at hbd HC
      rw [hX]
      obtain ⟨Y, hY⟩ : ∃ Y, valE a b c = Y := ⟨_, rfl⟩
      rw [hY] at hbm HC
      have HY := Lib.hid hY
      obtain ⟨x0, x1⟩ := hbd
      obtain ⟨y0, y1⟩ := hbm
      clear hc hat hX hY
      have hsz := hbr.size
      go_wp2_with fail
      refine (value_any a b c _ HS.out HLc.out).mono ?_
      rintro e w1 ⟨rfl, hb1⟩
      rw [HY.out]
      have hB1 : Below w.heap.size w w1 := hbr.trans ((two (W := wr) (by go_grown) hb1).mono hbr.size)
      clear hb1 c0 c1
      go_wp2_with fail
      go_roundw
      case rel => exact ⟨k + 1, by omega, by rw [HC.out], by go_num, hB1⟩
      case measure => simp [intOf]; omega
    · have HX := Lib.hid (sum_full (f := valE a b) hlt)
      obtain ⟨X, hX⟩ : ∃ X, sumE (valE a b) (ps.take k) = X := ⟨_, rfl⟩
      rw [hX] at HX
      rw [hX]
      clear hX
      go_wp2_with fail
      go_returns
      exact ⟨ret_int HX.out, hbr⟩
/-- The error of loads, then of limits. -/
def bothN (ls : List Ld) (ms : List Li) : Int := if loadsN ls = 0 then limitsN ms else loadsN ls
set_option maxHeartbeats 1000000 in
theorem checkBoth_any (v u : Value) (ls : List Ld) (ms : List Li) (w : World) (hv : SlLd w v ls) (hu : SlLi w u ms) :
    Calls Try.prog 64 #[v, u] w fun e w' => e = .returned (.int .i64 (bothN ls ms)) ∧ Below w.heap.size w w' := by
  have HV := Lib.hid hv
  have HU := Lib.hid hu
  obtain ⟨n, hn⟩ : ∃ n, loadsN ls = n := ⟨_, rfl⟩
  obtain ⟨m, hm⟩ : ∃ n, limitsN ms = n := ⟨_, rfl⟩
  have HN := Lib.hid hn
  have HM := Lib.hid hm
  unfold bothN
  rw [hn, hm]
  clear hv hu hn hm
  by_cases h0 : n = 0
  · subst h0
    rw [if_pos rfl]
    go_enter Try.func64, Try.ntmps64
    go_wp2_with fail
    refine (checkLd_any v ls _ HV.out).mono ?_
    rintro e w1 ⟨rfl, hb1⟩
    rw [HN.out]
    go_wp2_with fail
    refine (checkLi_any u ms _ (liLater HU.out hb1)).mono ?_
    rintro e w2 ⟨rfl, hb2⟩
    rw [HM.out]
    have hB2 := two hb1 hb2
    clear hb1 hb2
    go_wp2_with fail
    go_returns
    exact ⟨rfl, hB2⟩
  · rw [if_neg h0]
    go_enter Try.func64, Try.ntmps64
    go_wp2_with fail
    refine (checkLd_any v ls _ HV.out).mono ?_
    rintro e w1 ⟨rfl, hb1⟩
    rw [HN.out]
    go_wp2_with fail
    go_returns
    exact ⟨rfl, hb1⟩
theorem bothN_ok {ls : List Ld} {ms : List Li} (h : bothN ls ms = 0) : ls.length ≤ 40 ∧ ls.all Ld.ok = true ∧ ms.length ≤ 12 ∧ ms.all Li.ok = true := by
  unfold bothN at h
  split at h
  · have h1 := loadsN_ok (by assumption)
    unfold limitsN listN at h
    split at h
    · omega
    · split at h
      · exact ⟨h1.1, h1.2, by omega, by assumption⟩
      · omega
  · contradiction
/-- What Worst returns. -/
def WoP (ls : List Ld) (x : Li) (w : World) (e : Ending) (w' : World) : Prop :=
  (bothN ls [x] = 0 ∧ ∃ g : Nat, e = .returned (.tuple #[.int .i64 (mostL x.a x.b ls), .slice (some ⟨g, 0, none⟩) ls.length ls.length, .int .i64 0]) ∧ SlPu w' (.slice (some ⟨g, 0, none⟩) ls.length ls.length) (ls.map (worstP x.a x.b)) ∧ Below w.heap.size w w') ∨
  (bothN ls [x] ≠ 0 ∧ e = .returned (.tuple #[.int .i64 0, .slice none 0 0, .int .i64 (bothN ls [x])]) ∧ Below w.heap.size w w')
theorem sum_worst (a b : Int) (ls : List Ld) : sumE (valE a b) (ls.map (worstP a b)) = mostL a b ls := by
  unfold sumE mostL sumE mostE
  rw [List.map_map]
  rfl
theorem worsts_bound {a b : Int} {ls : List Ld} (hl : ∀ l, l ∈ ls → LdB l) : ∀ p, p ∈ ls.map (worstP a b) → PuB p := fun p hp => by
  obtain ⟨l, h, rfl⟩ := List.mem_map.1 hp
  exact worst_bound (hl l h)
structure Three (w : World) (b : Nat) (x y z : Int) : Prop where
  c0 : w.cell? ⟨b, 0, none⟩ = some (.int .i64 x)
  c1 : w.cell? ⟨b, 1, none⟩ = some (.int .i64 y)
  c2 : w.cell? ⟨b, 2, none⟩ = some (.int .i64 z)
theorem Three.later {w w1 : World} {b : Nat} {x y z : Int} (k : Three w b x y z) (hb : Below w.heap.size w w1) : Three w1 b x y z := ⟨cell_later hb k.c0, cell_later hb k.c1, cell_later hb k.c2⟩
theorem one_limit {w : World} {g c : Nat} {x : Li} (h : Three w g x.a x.b x.c) (hc : 1 ≤ c) : SlLi w (.slice (some ⟨g, 0, none⟩) 1 c) [x] := by
  refine .inr ⟨g, 0, c, rfl, by simpa using hc, by simp, World.block_lt_of_cell? _ _ h.c0, fun i y e => ?_⟩
  rcases i with _ | i
  · simp at e; subst e; exact ⟨by simpa using h.c0, by simpa using h.c1, by simpa using h.c2⟩
  · simp at e
set_option maxHeartbeats 4000000 in
theorem worstOf_any (v : Value) (ls : List Ld) (x : Li) (w : World) (hv : SlLd w v ls) : Calls Try.prog 24 #[v, liV x] w (WoP ls x w) := by
  have HV := Lib.hid hv
  obtain ⟨n, hn⟩ : ∃ n, bothN ls [x] = n := ⟨_, rfl⟩
  have HN := Lib.hid hn
  have hmf := makeFunc_run
  clear hv
  by_cases h0 : n = 0
  · subst h0
    obtain ⟨h40, hok, _, hx⟩ := bothN_ok hn
    have HL := Lib.hid (loads_bound hok)
    have HX := Lib.hid (Li.bound (l := x) (by simpa using hx)).1
    obtain ⟨M, hM⟩ : ∃ M, mostL x.a x.b ls = M := ⟨_, rfl⟩
    have HM := Lib.hid hM
    clear hok hx hn hM
    go_enter Try.func24, Try.ntmps24
    go_wp2_with fail
    refine (checkBoth_any v _ ls [x] _ (ldLater HV.out (by go_grown)) (one_limit (x := x) ⟨by go_cell, by go_cell, by go_cell⟩ (by omega))).mono ?_
    rintro e w1 ⟨rfl, hb1⟩
    rw [HN.out]
    have hB1 : Below w.heap.size w w1 := (after (w := w) (by go_grown) hb1).1
    have k1 : Three w1 w.heap.size x.a x.b x.c := Three.later ⟨by go_cell, by go_cell, by go_cell⟩ hb1
    clear hb1
    obtain ⟨c0, c1, c2⟩ := k1
    go_wp2_with fail
    refine (scaleOf_any x _).mono ?_
    rintro e w2 ⟨rfl, hb2⟩
    have hB2 : Below w.heap.size w w2 := hB1.trans (hb2.mono hB1.size)
    clear hb2 hB1 c0 c1 c2
    go_wp2_with fail
    refine (choose_any x.a x.b v ls _ (ldLater HV.out (by have := hB2.size; go_grown)) (by omega) HX.out HL.out).mono ?_
    rintro e w3 ⟨g, rfl, hg, hb3⟩
    have hB3 : Below w.heap.size w w3 := (after (w := w) (by have := hB2.size; go_grown) hb3).1
    have k3 : Two2 w3 w2.heap.size x.a x.b := Two2.later ⟨by go_cell, by go_cell⟩ hb3
    have HG := Lib.hid hg
    clear hb3 hg
    obtain ⟨c0, c1⟩ := k3
    go_wp2_with fail
    refine (totalPuts_any x.a x.b _ (ls.map (worstP x.a x.b)) _ HG.out (by simp; omega) HX.out (worsts_bound HL.out)).mono ?_
    rintro e w4 ⟨rfl, hb4⟩
    rw [sum_worst, HM.out]
    have hB4 : Below w.heap.size w w4 := hB3.trans (hb4.mono hB3.size)
    have HG4 := Lib.hid (puLater HG.out hb4)
    clear hb4 c0 c1 hB3 hB2
    go_wp2_with fail
    refine bodyPost_ret (v := .tuple #[.int .i64 M, .slice (some ⟨g, 0, none⟩) ls.length ls.length, .int .i64 0]) (by simp [results, Try.results24, go_sem, *]) rfl (.inl ⟨HN.out, g, ?_, HG4.out, hB4⟩)
    rw [HM.out]
  · clear hn
    go_enter Try.func24, Try.ntmps24
    go_wp2_with fail
    refine (checkBoth_any v _ ls [x] _ (ldLater HV.out (by go_grown)) (one_limit (x := x) ⟨by go_cell, by go_cell, by go_cell⟩ (by omega))).mono ?_
    rintro e w1 ⟨rfl, hb1⟩
    rw [HN.out]
    have hB1 : Below w.heap.size w w1 := (after (w := w) (by go_grown) hb1).1
    clear hb1
    go_wp2_with fail
    refine bodyPost_ret (v := .tuple #[.int .i64 0, .slice none 0 0, .int .i64 n]) (by simp [results, Try.results24, go_sem, *]) rfl (.inr ⟨by rw [HN.out]; exact h0, ?_, hB1⟩)
    rw [HN.out]
end Go.Proofs.Ytldnpnplgfkebaa
