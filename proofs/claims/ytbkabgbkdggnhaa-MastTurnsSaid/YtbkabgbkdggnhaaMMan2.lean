/- Package mast: Man; the reference's. -/
import Derived.Test.YtbkabgbkdggnhaaMMan
namespace Go.Proofs.Ytbkabgbkdggnhaa
open Go.RowKit

def manOk (l : List Pr) (people m : Int) : Bool := pullsB l && inB people 0 200 && inB m 1 1000000
/-- What Man returns. -/
def manL (l : List Pr) (people m : Int) : List Int × Int :=
  if manOk l people m then (if people < (needL l m).sum then ([], 75) else (iterS l (needL l m) (people - (needL l m).sum).toNat, 0)) else ([], 2)
theorem manL_bad {l : List Pr} {people m : Int} (h : manOk l people m = false) : manL l people m = ([], 2) := by unfold manL; rw [h]; rfl
theorem manL_few {l : List Pr} {people m : Int} (h : manOk l people m = true) (h2 : people < (needL l m).sum) : manL l people m = ([], 75) := by unfold manL; rw [if_pos h, if_pos h2]
theorem manL_ok {l : List Pr} {people m : Int} (h : manOk l people m = true) (h2 : ¬ people < (needL l m).sum) : manL l people m = (iterS l (needL l m) (people - (needL l m).sum).toNat, 0) := by unfold manL; rw [if_pos h, if_neg h2]
theorem need_few {l : List Pr} {m : Int} (hl : pullsB l = true) (h0 : 1 ≤ m) (h1 : m ≤ 1000000) : FewB (needL l m) := by
  obtain ⟨h8, hpb⟩ := puB_of hl
  refine ⟨by rw [needL_len]; omega, fun z hz => ?_⟩
  unfold needL at hz
  obtain ⟨p, hp, rfl⟩ := List.mem_map.1 hz
  have := need_bd (hpb p hp) h0 h1
  exact ⟨this.1, this.2.1⟩
theorem sum_ge : ∀ (zs : List Int), (∀ z, z ∈ zs → 0 ≤ z) → ∀ z, z ∈ zs → z ≤ zs.sum
  | [], _, z, hz => by simp at hz
  | y :: ys, h, z, hz => by
    have h1 := h y (List.mem_cons_self ..)
    have h2 : 0 ≤ ys.sum := by
      clear hz
      have hx : ∀ x, x ∈ ys → 0 ≤ x := fun x hx => h x (List.mem_cons_of_mem _ hx)
      clear h
      induction ys with
      | nil => simp
      | cons a t ih =>
        have := hx a (List.mem_cons_self ..)
        have := ih (fun x hx2 => hx x (List.mem_cons_of_mem _ hx2))
        rw [List.sum_cons]; omega
    rw [List.sum_cons]
    rcases List.mem_cons.1 hz with rfl | hz
    · omega
    · have := sum_ge ys (fun x hx => h x (List.mem_cons_of_mem _ hx)) z hz
      omega
theorem need_inv {l : List Pr} {m : Int} (hl : pullsB l = true) (h0 : 1 ≤ m) (h1 : m ≤ 1000000) (hs : (needL l m).sum ≤ 200) : InvZ l (needL l m) 200 := by
  obtain ⟨h8, hpb⟩ := puB_of hl
  refine ⟨needL_len l m, fun i z e => ?_⟩
  have hm := List.mem_of_getElem? e
  have h2 := sum_ge _ (fun x hx => ((need_few hl h0 h1).2 x hx).1) z hm
  have hi : i < l.length := by have := (List.getElem?_eq_some_iff.1 e).1; rwa [needL_len] at this
  have hc : l[i]? = some l[i] := List.getElem?_eq_getElem hi
  have e2 := needL_get (m := m) hc
  rw [e] at e2
  injection e2 with e2
  have h3 := need_bd (hpb _ (List.mem_of_getElem? hc)) h0 h1
  rw [← e2] at h3
  exact ⟨h3.1, by omega, fun h => h3.2.2 (by rw [hiD_at hc] at h; exact h)⟩
theorem manOk_yes {l : List Pr} {people m : Int} (h : manOk l people m = true) : pullsB l = true ∧ 0 ≤ people ∧ people ≤ 200 ∧ 1 ≤ m ∧ m ≤ 1000000 := by
  unfold manOk at h
  rw [Bool.and_eq_true, Bool.and_eq_true] at h
  obtain ⟨⟨h1, h2⟩, h3⟩ := h
  simp [inB] at h2 h3
  exact ⟨h1, by omega, by omega, by omega, by omega⟩
theorem iter_len (l : List Pr) : ∀ (k : Nat) (zs : List Int), (iterS l zs k).length = zs.length
  | 0, zs => rfl
  | k + 1, zs => by
    show (iterS l (stepS l zs) k).length = _
    rw [iter_len l k]
    unfold stepS
    split
    · rw [List.length_set]
    · rfl
theorem nil_sl (w : World) : SlI w (.slice none 0 0) [] := .inl ⟨rfl, rfl⟩
/-- What Man returns, and what it points to. -/
def ManP (l : List Pr) (people m : Int) (e : Ending) (w' : World) : Prop := ∃ u, e = .returned (.tuple #[u, .int .i64 (manL l people m).2]) ∧ SlI w' u (manL l people m).1

theorem ret_si {u : Value} {n n' : Int} (h : n = n') : Ending.returned (.tuple #[u, .int .i64 n]) = .returned (.tuple #[u, .int .i64 n']) := by rw [h]
set_option linter.unusedSimpArgs false in
set_option maxRecDepth 100000 in
set_option maxHeartbeats 4000000 in
theorem man_any (v : Value) (l : List Pr) (people m : Int) (w : World) (hs : SlPr w v l) :
    Calls Try.prog 20 #[v, .int .i64 people, .int .i64 m] w fun e w' => ManP l people m e w' ∧ Below w.heap.size w w' := by
  obtain ⟨a, cap, rfl, hlen, hcap⟩ := hs.form
  have HS := Lib.hid hs
  clear hs
  go_enter Try.func20, Try.ntmps20
  go_wp2_with fail
  refine (arePulls_any _ l _ HS.out).mono ?_
  rintro e w1 ⟨rfl, hb1⟩
  cases h1 : pullsB l
  · have H1 := Lib.hid h1
    clear h1
    have HB := Lib.hid (manL_bad (l := l) (people := people) (m := m) (by unfold manOk; rw [H1.out]; simp))
    go_wp2_with fail
    go_returns
    exact ⟨⟨.slice none 0 0, ret_si (n := 2) (by rw [HB.out]), by rw [HB.out]; exact nil_sl _⟩, by first | assumption | go_grown⟩
  have H1 := Lib.hid h1
  clear h1
  go_wp2_with fail
  refine (arePeople_any people _).mono ?_
  rintro e w2 ⟨rfl, hb2⟩
  have hB2 : Below w.heap.size w w2 := hb1.trans (hb2.mono hb1.size)
  clear hb1 hb2
  cases h2 : inB people 0 200
  · have H2 := Lib.hid h2
    clear h2
    have HB := Lib.hid (manL_bad (l := l) (people := people) (m := m) (by unfold manOk; rw [H1.out, H2.out]; simp))
    go_wp2_with fail
    go_returns
    exact ⟨⟨.slice none 0 0, ret_si (n := 2) (by rw [HB.out]), by rw [HB.out]; exact nil_sl _⟩, by first | assumption | go_grown⟩
  have H2 := Lib.hid h2
  clear h2
  go_wp2_with fail
  refine (isMost_any m _).mono ?_
  rintro e w3 ⟨rfl, hb3⟩
  have hB3 : Below w.heap.size w w3 := hB2.trans (hb3.mono hB2.size)
  clear hB2 hb3
  cases h3 : inB m 1 1000000
  · have H3 := Lib.hid h3
    clear h3
    have HB := Lib.hid (manL_bad (l := l) (people := people) (m := m) (by unfold manOk; rw [H1.out, H2.out, H3.out]; simp))
    go_wp2_with fail
    go_returns
    exact ⟨⟨.slice none 0 0, ret_si (n := 2) (by rw [HB.out]), by rw [HB.out]; exact nil_sl _⟩, by first | assumption | go_grown⟩
  have HOk := Lib.hid (show manOk l people m = true by unfold manOk; rw [H1.out, H2.out, h3]; rfl)
  clear h3
  obtain ⟨_, p0, p1, m0, m1⟩ := manOk_yes HOk.out
  have HFew := Lib.hid (need_few H1.out m0 m1)
  go_wp2_with fail
  refine (needs_any _ l m _ (prLater HS.out hB3) H1.out m0 m1).mono ?_
  rintro e w4 ⟨⟨rfl, how⟩, hb4⟩
  have hB4 : Below w.heap.size w w4 := hB3.trans (hb4.mono hB3.size)
  have HO := Lib.hid how
  have hlen20 : (needL l m).length ≤ 20 := HFew.out.1
  have HSl := Lib.hid (show SlI w4 (.slice (some ⟨w3.heap.size, 0, none⟩) l.length l.length) (needL l m) by
    have := how.sl (cap := l.length) (by rw [needL_len]; omega) (by omega)
    rwa [needL_len] at this)
  have hg := hB3.size
  clear how hb4
  go_wp2_with fail
  refine (sum_any _ _ _ HSl.out HFew.out).mono ?_
  rintro e w5 ⟨rfl, rfl⟩
  have hsb := HFew.out.part (needL l m).length
  rw [List.take_length] at hsb
  obtain ⟨S, hS⟩ : ∃ S, (needL l m).sum = S := ⟨_, rfl⟩
  rw [hS] at hsb
  rw [hS]
  obtain ⟨s0, s1⟩ := hsb
  by_cases hfew : people < S
  · have HB := Lib.hid (manL_few HOk.out (by rw [hS]; exact hfew))
    clear hS
    go_wp2_with fail
    go_returns
    exact ⟨⟨.slice none 0 0, ret_si (n := 75) (by rw [HB.out]), by rw [HB.out]; exact nil_sl _⟩, hB4⟩
  have HB := Lib.hid (manL_ok HOk.out (by rw [hS]; exact hfew))
  obtain ⟨left, hleft⟩ : ∃ k : Nat, people - S = k := ⟨(people - S).toNat, by omega⟩
  have HInv := Lib.hid (need_inv H1.out m0 m1 (by omega))
  have HLf := Lib.hid (show (people - (needL l m).sum).toNat = left by rw [hS]; omega)
  clear hS
  have f1 : IntKind.i64.wrap (people - S) = (left : Int) := by rw [IntWalk.i64_in _ ⟨by omega, by omega⟩]; exact hleft
  have hl0 : ¬ (left : Int) < 0 := by omega
  go_wp2_with fail
  refine (sendOn_any _ l (needL l m) _ l.length l.length left 200 w _ HS.out hB4 hg HO.out rfl (by omega) H1.out HInv.out (by omega) (by omega)).mono ?_
  rintro e w6 ⟨⟨rfl, how⟩, hb6⟩
  have hlen' : (iterS l (needL l m) left).length = l.length := by rw [iter_len, needL_len]
  have HR := Lib.hid (show SlI w6 (.slice (some ⟨w3.heap.size, 0, none⟩) l.length l.length) (iterS l (needL l m) left) by
    have := how.sl (cap := l.length) (by omega) (by rw [needL_len] at hlen20; omega)
    rwa [hlen'] at this)
  clear how hlen' hlen20
  go_wp2_with fail
  go_returns
  exact ⟨⟨.slice (some ⟨w3.heap.size, 0, none⟩) l.length l.length, ret_si (n := 0) (by rw [HB.out]), by rw [HB.out, HLf.out]; exact HR.out⟩, hb6⟩
end Go.Proofs.Ytbkabgbkdggnhaa
