/- Package trim: CheckBreach. -/
import Derived.Test.YtldnpnplgfkebaaTCb
namespace Go.Proofs.Ytldnpnplgfkebaa
open Go.RowKit

/-- What CheckBreach returns. -/
def cbN (ls : List Ld) (ms : List Li) (i : Int) (ps : List Pu) : Int :=
  if bothN ls ms = 0 then (if (inB i 0 (ms.length - 1) && choiceB ps ls) = true then (if sumE (valE (ms.getD i.toNat default).a (ms.getD i.toNat default).b) ps ≤ (ms.getD i.toNat default).c then 47 else 0) else 47) else bothN ls ms
structure PairV (w : World) (B : Nat) (x y : Value) : Prop where
  c0 : w.cell? ⟨B, 0, none⟩ = some x
  c1 : w.cell? ⟨B, 1, none⟩ = some y
theorem PairV.later {w w1 : World} {B : Nat} {x y : Value} (k : PairV w B x y) (hb : Below w.heap.size w w1) : PairV w1 B x y := ⟨cell_later hb k.c0, cell_later hb k.c1⟩
theorem vals_bound {a b : Int} {ps : List Pu} (hs : ScB a b) (hp : ∀ p, p ∈ ps → PuB p) (h50 : ps.length ≤ 50) : -2147637335328358450 ≤ sumE (valE a b) ps ∧ sumE (valE a b) ps ≤ 2147637335328358450 := by
  have := vals_take (k := ps.length) hs hp h50
  rw [List.take_length] at this
  exact this
set_option maxRecDepth 100000 in
set_option maxHeartbeats 8000000 in
theorem checkBreach_any (v u q : Value) (ls : List Ld) (ms : List Li) (i : Int) (ps : List Pu) (w : World) (hv : SlLd w v ls) (hu : SlLi w u ms) (hq : SlPu w q ps) :
    Calls Try.prog 30 #[v, u, brV i q] w fun e w' => e = .returned (.int .i64 (cbN ls ms i ps)) ∧ Below w.heap.size w w' := by
  obtain ⟨ad, cap, rfl, hlen, hcap⟩ := hu.form
  have HV := Lib.hid hv
  have HU := Lib.hid hu
  have HQ := Lib.hid hq
  obtain ⟨n, hn⟩ : ∃ n, bothN ls ms = n := ⟨_, rfl⟩
  have HN := Lib.hid hn
  have hmf := makeFunc_run
  clear hv hu hq
  by_cases h0 : n = 0
  rotate_left 1
  · clear hmf hn
    have HR := Lib.hid (show cbN ls ms i ps = n by unfold cbN; rw [HN.out, if_neg h0])
    go_enter Try.func30, Try.ntmps30
    go_wp2_with fail
    refine (checkBoth_any v _ ls ms _ (ldLater HV.out (by go_grown)) (liLater HU.out (by go_grown))).mono ?_
    rintro e w1 ⟨rfl, hb1⟩
    rw [HN.out]
    have hB1 : Below w.heap.size w w1 := (after (w := w) (by go_grown) hb1).1
    clear hb1
    go_wp2_with fail
    go_returns
    exact ⟨ret_int HR.out.symm, hB1⟩
  subst h0
  obtain ⟨h40, hok, h12, hmok⟩ := bothN_ok hn
  have HL := Lib.hid (loads_bound hok)
  have HMo := Lib.hid hmok
  clear hn hok hmok
  go_enter Try.func30, Try.ntmps30
  go_wp2_with fail
  refine (checkBoth_any v _ ls ms _ (ldLater HV.out (by go_grown)) (liLater HU.out (by go_grown))).mono ?_
  rintro e w1 ⟨rfl, hb1⟩
  rw [HN.out]
  have hB1 : Below w.heap.size w w1 := (after (w := w) (by go_grown) hb1).1
  have K1 := Lib.hid (show PairV w1 w.heap.size (.int .i64 i) q from PairV.later ⟨by go_cell, by go_cell⟩ hb1)
  clear hb1
  obtain ⟨k0, k1⟩ := K1.out
  have z1 := World.block_lt_of_cell? _ _ k0
  go_wp2_with fail
  refine (inOrder3 _ 0 i ((ms.length : Int) - 1) _ (by go_cell) (by go_cell) (by go_cell)).mono ?_
  rintro e w2 ⟨rfl, hb2⟩
  have hb22 : Below w1.heap.size w1 w2 := two (by go_grown) hb2
  have hB2 := hB1.trans (hb22.mono hB1.size)
  have K2 := Lib.hid (K1.out.later hb22)
  clear hb2 hb22 k0 k1 z1 K1 hB1
  by_cases h1 : inB i 0 ((ms.length : Int) - 1) = true
  rotate_left 1
  · have H1 := Lib.hid (show inB i 0 ((ms.length : Int) - 1) = false by simpa using h1)
    rw [H1.out]
    have HR := Lib.hid (show cbN ls ms i ps = 47 by unfold cbN; rw [HN.out, if_pos rfl, H1.out]; rfl)
    clear h1 hmf
    go_wp2_with fail
    go_returns
    exact ⟨ret_int HR.out.symm, hB2⟩
  rw [h1]
  have H1 := Lib.hid h1
  obtain ⟨i0, i1⟩ := inB_iff.1 h1
  clear h1
  obtain ⟨k0, k1⟩ := K2.out
  go_wp2_with fail
  refine (isChoice_any q v ps ls _ (puLater HQ.out hB2) (ldLater HV.out hB2)).mono ?_
  rintro e w3 ⟨rfl, hb3⟩
  have hB3 := hB2.trans (hb3.mono hB2.size)
  have K3 := Lib.hid (K2.out.later hb3)
  clear hb3 k0 k1 K2 hB2
  by_cases h2 : choiceB ps ls = true
  rotate_left 1
  · have H2 := Lib.hid (show choiceB ps ls = false by simpa using h2)
    rw [H2.out]
    have HR := Lib.hid (show cbN ls ms i ps = 47 by unfold cbN; rw [HN.out, if_pos rfl, H1.out, H2.out]; rfl)
    clear h2 hmf
    go_wp2_with fail
    go_returns
    exact ⟨ret_int HR.out.symm, hB3⟩
  rw [h2]
  have H2 := Lib.hid h2
  obtain ⟨hpl, hpb⟩ := cho_bound h2 HL.out
  have HPB := Lib.hid hpb
  clear h2 hpb
  obtain ⟨kn, hkn⟩ : ∃ kn : Nat, i = kn := ⟨i.toNat, by omega⟩
  subst hkn
  have hkl : kn < ms.length := by omega
  obtain ⟨b, off, x, rfl, hb, hc, hat⟩ := HU.out.at hkl
  obtain ⟨c0, c1, c2⟩ := LiAt.later hat (show Below w.heap.size w w3 from hB3)
  have HS := Lib.hid (limits_ok HMo.out (List.mem_of_getElem? hc)).1
  obtain ⟨M, hM⟩ : ∃ M, sumE (valE x.a x.b) ps = M := ⟨_, rfl⟩
  have HM := Lib.hid hM
  have HR := Lib.hid (show cbN ls ms kn ps = if M ≤ x.c then 47 else 0 by
    unfold cbN
    rw [HN.out, if_pos rfl, H1.out, H2.out]
    rw [show ms.getD (kn : Int).toNat default = x by rw [Int.toNat_natCast, List.getD_eq_getElem?_getD, hc]; rfl, hM]
    rfl)
  obtain ⟨k0, k1⟩ := K3.out
  have z3 := World.block_lt_of_cell? _ _ k0
  have hkl' : (kn : Int) < (ms.length : Int) := by omega
  have hps : ps.length ≤ 50 := by omega
  clear hc hat hM hpl
  by_cases hle : M ≤ x.c
  all_goals
    rw [show (if M ≤ x.c then (47 : Int) else 0) = _ from by first | exact if_pos hle | exact if_neg hle] at HR
    go_wp2_with fail
    obtain ⟨W, hW⟩ : ∃ W, w3.alloc (.cells #[.int .i64 x.a, .int .i64 x.b, .int .i64 x.c] 35) = W := ⟨_, rfl⟩
    have hbW : Below w3.heap.size w3 W := by subst hW; go_grown
    obtain ⟨x0, x1, x2⟩ := show Three W w3.heap.size x.a x.b x.c by subst hW; exact ⟨by go_cell, by go_cell, by go_cell⟩
    obtain ⟨y0, y1⟩ := K3.out.later hbW
    have hBW := hB3.trans (hbW.mono hB3.size)
    have HQW := Lib.hid (puLater HQ.out hBW)
    rw [hW]
    clear hW hbW k0 k1 c0 c1 c2 hB3
    have hA : Below W.heap.size W W := Below.refl _ _
    go_region_held3 (fun w' => w'.cell? ⟨w.heap.size, 0, none⟩ = some (.int .i64 kn) ∧ w'.cell? ⟨w.heap.size, 1, none⟩ = some q ∧ w'.cell? ⟨w3.heap.size, 0, none⟩ = some (.int .i64 x.a) ∧ w'.cell? ⟨w3.heap.size, 1, none⟩ = some (.int .i64 x.b) ∧ w'.cell? ⟨w3.heap.size, 2, none⟩ = some (.int .i64 x.c))
      (first | (go_split_ands; (repeat' apply And.intro) <;> first | assumption | exact cell_later hb (by assumption)) | go_keep)
      (first
        | (go_at_call 65; refine (scaleOf_any x _).mono ?_; rintro e wx ⟨rfl, hb⟩; have hA : Below W.heap.size W wx := (by first | exact chain hA hb | exact chainD hA hb))
        | (go_at_call 68; refine (totalPuts_any x.a x.b q ps _ (puLater HQW.out (by first | exact hA | exact hA.drew)) hps HS.out HPB.out).mono ?_; rintro e wx ⟨rfl, hb⟩; rw [HM.out]; have hA : Below W.heap.size W wx := (by first | exact chain hA hb | exact chainD hA hb)))
    go_wp2_with fail
    have hBf := hBW.trans (hA.mono hBW.size)
    go_returns
    exact ⟨ret_int HR.out.symm, by go_grown⟩
end Go.Proofs.Ytldnpnplgfkebaa
