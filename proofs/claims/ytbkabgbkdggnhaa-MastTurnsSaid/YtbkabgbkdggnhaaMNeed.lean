/- Package mast: rows of whole numbers of one's own; needs and sum; the reference's needs and total. -/
import Derived.Test.YtbkabgbkdggnhaaMAx
import Derived.Laws.MakeOwn
namespace Go.Proofs.Ytbkabgbkdggnhaa
open Go.RowKit

/-- A row of whole numbers in block g that may be written. -/
structure Own (w : World) (g : Nat) (zs : List Int) : Prop where
  put : ∀ i z, zs[i]? = some z → w.cell? ⟨g, i, none⟩ = some (.int .i64 z)
  fz : ∀ j, w.frozen? ⟨g, j, none⟩ = false
  lt : g < w.heap.size
theorem Own.later {w w1 : World} {g : Nat} {zs : List Int} (h : Own w g zs) (hb : Below w.heap.size w w1) : Own w1 g zs :=
  ⟨fun i z e => cell_later hb (h.put i z e), fun j => by rw [(bcell hb).2 _ _ h.lt]; exact h.fz j, by have := h.lt; have := hb.size; omega⟩
theorem Own.set {w : World} {g k : Nat} {zs : List Int} (h : Own w g zs) (hk : k < zs.length) (z : Int) : Own (w.setCell ⟨g, k, none⟩ (.int .i64 z)) g (zs.set k z) := by
  have h0 := h.put k zs[k] (List.getElem?_eq_getElem hk)
  refine ⟨fun i x e => ?_, fun j => by rw [World.frozen?_setCell]; exact h.fz j, by simpa using h.lt⟩
  by_cases he : i = k
  · subst he
    rw [List.getElem?_set_self hk] at e
    cases e
    exact World.cell?_setCell_same _ _ _ h0
  · rw [List.getElem?_set_ne (Ne.symm he)] at e
    rw [World.cell?_setCell_other _ _ _ _ (fun e => by injection e with _ e; exact he e.symm)]
    exact h.put i x e
theorem Own.sl {w : World} {g cap : Nat} {zs : List Int} (h : Own w g zs) (hc : zs.length ≤ cap) (hn : zs.length ≤ 1000) : SlI w (.slice (some ⟨g, 0, none⟩) zs.length cap) zs :=
  .inr ⟨g, 0, cap, rfl, hc, by omega, h.lt, fun i c e => by unfold IntAt; rw [Nat.zero_add, Nat.mul_one]; exact h.put i c e⟩
def zerosI (m : Nat) : Array Value := madeCells #[.int .i64 0] m
theorem zerosI_get {m j : Nat} (h : j < m) : (zerosI m)[j]? = some (.int .i64 0) := by
  unfold zerosI madeCells
  simp [h, Nat.mod_one]
theorem make_ints (n : Nat) (hn : n ≤ 1000) (W : World) : (Instr.makeSlice 51 (.int .i64 n) (.int .i64 n)).run Try.prog W = .ok (.slice (some ⟨W.heap.size, 0, none⟩) n n) (W.alloc (.cells (zerosI n) 3)) := by
  have hi2 : (Try.prog.info? 3).map (fun i => (i.zero, i.size, i.bytes)) = some (some (.int .i64 0), 1, 8) := by kernel_rfl
  obtain ⟨i, hi, e⟩ := Option.map_eq_some_iff.1 hi2
  simp only [Prod.mk.injEq] at e
  obtain ⟨e1, e2, e3⟩ := e
  have hr := run_make (P := Try.prog) W 51 3 i _ (by kernel_rfl) hi e1 .i64 .i64 n n (by omega) (by omega) (by rw [e3]; omega) (by omega)
  rw [e2] at hr
  simpa [zerosI, Value.cells] using hr
theorem Own.made (w : World) (n : Nat) : Own (w.alloc (.cells (zerosI n) 3)) w.heap.size (List.replicate n 0) := by
  refine ⟨fun i z e => ?_, fun j => World.frozen?_alloc_at _ _ _ _ rfl, by simp⟩
  obtain ⟨hi, e2⟩ := List.getElem?_eq_some_iff.1 e
  have hi' : i < n := by simpa using hi
  have : z = 0 := by simpa using e2.symm
  subst this
  rw [World.cell?_alloc_at _ _ _ _ rfl]
  exact zerosI_get hi'

/-- How many people each line needs. -/
def need1 (m : Int) (p : Pr) : Int := (p.b + m - 1) / m
def needL (l : List Pr) (m : Int) : List Int := l.map (need1 m)
/-- What a pull is, and what it then needs. -/
def PuB (p : Pr) : Prop := 0 ≤ p.b ∧ p.b ≤ 1000000
theorem puB_of {l : List Pr} (h : pullsB l = true) : l.length ≤ 8 ∧ ∀ p, p ∈ l → PuB p := by
  unfold pullsB at h
  rw [Bool.and_eq_true] at h
  refine ⟨by simpa using h.1, fun p hp => ?_⟩
  have := List.all_eq_true.1 h.2 p hp
  simp [Pr.pu, spB] at this
  exact ⟨by omega, by omega⟩
theorem need_bd {p : Pr} {m : Int} (hp : PuB p) (h0 : 1 ≤ m) (h1 : m ≤ 1000000) : 0 ≤ need1 m p ∧ need1 m p ≤ 2000000 ∧ (0 < p.b → 0 < need1 m p) := by
  obtain ⟨b0, b1⟩ := hp
  unfold need1
  refine ⟨Int.ediv_nonneg (by omega) (by omega), ?_, fun h => ?_⟩
  · have := Int.ediv_le_self m (show 0 ≤ p.b + m - 1 by omega)
    omega
  · have := (Int.le_ediv_iff_mul_le (show 0 < m by omega)).2 (show 1 * m ≤ p.b + m - 1 by omega)
    omega
theorem need_run {p : Pr} {m : Int} (hp : PuB p) (h0 : 1 ≤ m) (h1 : m ≤ 1000000) : (p.b + m - 1).tdiv m = need1 m p := by
  unfold need1
  exact Int.tdiv_eq_ediv_of_nonneg (by have := hp.1; omega)
theorem needL_get {l : List Pr} {m : Int} {i : Nat} {c : Pr} (h : l[i]? = some c) : (needL l m)[i]? = some (need1 m c) := by unfold needL; rw [List.getElem?_map, h]; rfl
theorem needL_len (l : List Pr) (m : Int) : (needL l m).length = l.length := by simp [needL]

theorem set_take {zs ys : List Int} {k : Nat} {z : Int} (hl : k < zs.length) (h : zs.take k = ys.take k) (hz : ys[k]? = some z) : (zs.set k z).take (k + 1) = ys.take (k + 1) := by
  rw [List.take_add_one, List.take_add_one, List.take_set_of_le (Nat.le_refl k), h, List.getElem?_set_self hl, hz]

def NeHead (l : List Pr) (m : Int) (w wr : World) (v : Value) : Prop := ∃ (k : Nat) (zs : List Int), k ≤ l.length ∧ v = .int .i64 k ∧ zs.length = l.length ∧ zs.take k = (needL l m).take k ∧ Own wr w.heap.size zs ∧ Below w.heap.size w wr
/-- A row of one's own, or none: what a list of numbers made since w0 lies in. -/
def OwnV (w0 w : World) (v : Value) (zs : List Int) : Prop := (zs = [] ∧ v = .slice none 0 0) ∨ ∃ g cap : Nat, v = .slice (some ⟨g, 0, none⟩) zs.length cap ∧ zs.length ≤ cap ∧ Own w g zs ∧ w0.heap.size ≤ g
set_option linter.unusedSimpArgs false in
set_option maxHeartbeats 4000000 in
theorem needs_any (v : Value) (l : List Pr) (m : Int) (w : World) (hs : SlPr w v l) (hl : pullsB l = true) (h0 : 1 ≤ m) (h1 : m ≤ 1000000) :
    Calls Try.prog 62 #[v, .int .i64 m] w fun e w' => (e = .returned (.slice (some ⟨w.heap.size, 0, none⟩) l.length l.length) ∧ Own w' w.heap.size (needL l m)) ∧ Below w.heap.size w w' := by
  obtain ⟨a, cap, rfl, hlen, hcap⟩ := hs.form
  obtain ⟨h8, hpu⟩ := puB_of hl
  have HS := Lib.hid hs
  have HPu := Lib.hid hpu
  have hmk := make_ints l.length (by omega)
  clear hs hl hpu
  go_enter Try.func62, Try.ntmps62
  go_wp2_with fail
  go_loopw [13] (fun v13 wr => NeHead l m w wr v13) (fun v13 _ => l.length - (intOf v13).toNat)
  case atStart => exact ⟨0, List.replicate l.length 0, by omega, rfl, by simp, by simp, Own.made _ _, by go_grown⟩
  case round =>
    obtain ⟨k, zs, hk, rfl, hz, ht, hown, hbr⟩ := hrel
    have HO := Lib.hid hown
    have HT := Lib.hid (And.intro hz ht)
    clear hown hz ht
    by_cases hlt : k < l.length
    · obtain ⟨b, off, c, rfl, hb, hc, hat⟩ := HS.out.at hlt
      obtain ⟨c0, c1⟩ := PrAt.later hat (show Below w.heap.size w wr from hbr)
      have hlt' : (k : Int) < (l.length : Int) := by omega
      have hk0 : (0 : Int) ≤ (k : Int) := by omega
      have hkn : ((k : Int).toNat) = k := by omega
      have hpb := HPu.out c (List.mem_of_getElem? hc)
      obtain ⟨x0, x1, _⟩ := need_bd hpb h0 h1
      have hrun := need_run hpb h0 h1
      obtain ⟨b0, b1⟩ := hpb
      have hne : ¬ m = 0 := by omega
      have f1 : IntKind.i64.wrap (c.b + m) = c.b + m := IntWalk.i64_in _ ⟨by omega, by omega⟩
      have f2 : IntKind.i64.wrap (c.b + m - 1) = c.b + m - 1 := IntWalk.i64_in _ ⟨by omega, by omega⟩
      obtain ⟨n1, hn1⟩ : ∃ x, need1 m c = x := ⟨_, rfl⟩
      rw [hn1] at x0 x1 hrun
      have f3 : IntKind.i64.wrap n1 = n1 := IntWalk.i64_in _ ⟨by omega, by omega⟩
      have HC := Lib.hid (show (needL l m)[k]? = some n1 by rw [needL_get hc, hn1])
      have hzk : k < zs.length := by rw [HT.out.1]; exact hlt
      have e0 := HO.out.put k zs[k] (List.getElem?_eq_getElem hzk)
      have e1 := HO.out.fz k
      have e2 := HO.out.lt
      have HZ := Lib.hid hzk
      generalize zs[k] = zk at e0
      clear hc hat hzk hn1
      go_wp2_with fail
      go_roundw
      case rel => exact ⟨k + 1, zs.set k n1, by omega, by go_num, by rw [List.length_set]; exact HT.out.1, set_take HZ.out HT.out.2 HC.out, (HO.out.set HZ.out n1).later (by go_grown), by go_grown⟩
      case measure => simp [intOf]; omega
    · have hk2 : k = l.length := by omega
      have hzz : zs = needL l m := by
        have h2 := HT.out.2
        rw [List.take_of_length_le (by rw [HT.out.1]; omega), List.take_of_length_le (by rw [needL_len]; omega)] at h2
        exact h2
      have HZZ := Lib.hid hzz
      clear hzz
      go_wp2_with fail
      go_returns
      exact ⟨⟨rfl, by rw [← HZZ.out]; exact HO.out⟩, hbr⟩

/-- Sums. -/
theorem sum_next {zs : List Int} {k : Nat} {z : Int} (h : zs[k]? = some z) : (zs.take (k + 1)).sum = (zs.take k).sum + z := by
  rw [List.take_add_one, h]
  simp
theorem sum_all {zs : List Int} {k : Nat} (h : ¬ k < zs.length) : (zs.take k).sum = zs.sum := by rw [List.take_of_length_le (by omega)]
theorem sum_bd : ∀ (zs : List Int), (∀ z, z ∈ zs → 0 ≤ z ∧ z ≤ 2000000) → 0 ≤ zs.sum ∧ zs.sum ≤ 2000000 * (zs.length : Int)
  | [], _ => by simp
  | z :: zs, h => by
    have h1 := h z (List.mem_cons_self ..)
    have h2 := sum_bd zs (fun x hx => h x (List.mem_cons_of_mem _ hx))
    rw [List.sum_cons, List.length_cons]
    omega
/-- Few numbers, none of them great. -/
def FewB (zs : List Int) : Prop := zs.length ≤ 20 ∧ ∀ z, z ∈ zs → 0 ≤ z ∧ z ≤ 2000000
theorem FewB.part {zs : List Int} (h : FewB zs) (k : Nat) : 0 ≤ (zs.take k).sum ∧ (zs.take k).sum ≤ 40000000 := by
  have := sum_bd (zs.take k) (fun z hz => h.2 z (List.mem_of_mem_take hz))
  have h1 : (zs.take k).length ≤ 20 := by rw [List.length_take]; have := h.1; omega
  omega
def SuHead (zs : List Int) (w wr : World) (v v' : Value) : Prop := ∃ k : Nat, k ≤ zs.length ∧ v = .int .i64 ((zs.take k).sum) ∧ v' = .int .i64 k ∧ wr = w
set_option maxHeartbeats 2000000 in
theorem sum_any (v : Value) (zs : List Int) (w : World) (hs : SlI w v zs) (hf : FewB zs) :
    Calls Try.prog 63 #[v] w fun e w' => e = .returned (.int .i64 zs.sum) ∧ w = w' := by
  obtain ⟨ad, cap, rfl, hlen, hcap⟩ := hs.form
  have HS := Lib.hid hs
  have HF := Lib.hid hf
  clear hs hf
  go_enter Try.func63, Try.ntmps63
  go_wp2_with fail
  go_loopw [3, 8] (fun va vb wr => SuHead zs w wr va vb) (fun _ vb _ => zs.length - (intOf vb).toNat)
  case atStart => exact ⟨0, by omega, rfl, rfl, rfl⟩
  case round =>
    obtain ⟨k, hk, rfl, rfl, rfl⟩ := hrel
    obtain ⟨s0, s1⟩ := HF.out.part k
    by_cases hlt : k < zs.length
    · obtain ⟨g, o, c, rfl, _, hc, e⟩ := HS.out.at hlt
      have hlt' : (k : Int) < (zs.length : Int) := by omega
      have hk0 : (0 : Int) ≤ (k : Int) := by omega
      have hkn : ((k : Int).toNat) = k := by omega
      have e0 := e
      unfold IntAt at e0
      rw [Nat.mul_one] at e0
      obtain ⟨z0, z1⟩ := HF.out.2 c (List.mem_of_getElem? hc)
      obtain ⟨S, hS⟩ : ∃ S, (zs.take k).sum = S := ⟨_, rfl⟩
      have HN := Lib.hid (show (zs.take (k + 1)).sum = S + c by rw [sum_next hc, hS])
      rw [hS] at s0 s1
      rw [hS]
      clear hc e hS
      go_wp2_with fail
      go_roundw
      case rel => exact ⟨k + 1, by omega, by rw [HN.out], by go_num, rfl⟩
      case measure => simp [intOf]; omega
    · have HN := Lib.hid (sum_all hlt)
      obtain ⟨S, hS⟩ : ∃ S, (zs.take k).sum = S := ⟨_, rfl⟩
      rw [hS] at HN s0 s1
      rw [hS]
      clear hS
      go_wp2_with fail
      go_returns
      exact ⟨ret_int HN.out, rfl⟩
set_option maxHeartbeats 2000000 in
theorem rtotal_any (v : Value) (zs : List Int) (w : World) (hs : SlI w v zs) (hf : FewB zs) :
    Calls Try.prog 67 #[v] w fun e w' => e = .returned (.int .i64 zs.sum) ∧ w = w' := by
  obtain ⟨ad, cap, rfl, hlen, hcap⟩ := hs.form
  have HS := Lib.hid hs
  have HF := Lib.hid hf
  clear hs hf
  go_enter Try.func67, Try.ntmps67
  go_wp2_with fail
  go_loopw [3, 4] (fun va vb wr => SuHead zs w wr va vb) (fun _ vb _ => zs.length - (intOf vb).toNat)
  case atStart => exact ⟨0, by omega, rfl, rfl, rfl⟩
  case round =>
    obtain ⟨k, hk, rfl, rfl, rfl⟩ := hrel
    obtain ⟨s0, s1⟩ := HF.out.part k
    by_cases hlt : k < zs.length
    · obtain ⟨g, o, c, rfl, _, hc, e⟩ := HS.out.at hlt
      have hlt' : (k : Int) < (zs.length : Int) := by omega
      have hk0 : (0 : Int) ≤ (k : Int) := by omega
      have hkn : ((k : Int).toNat) = k := by omega
      have e0 := e
      unfold IntAt at e0
      rw [Nat.mul_one] at e0
      obtain ⟨z0, z1⟩ := HF.out.2 c (List.mem_of_getElem? hc)
      obtain ⟨S, hS⟩ : ∃ S, (zs.take k).sum = S := ⟨_, rfl⟩
      have HN := Lib.hid (show (zs.take (k + 1)).sum = S + c by rw [sum_next hc, hS])
      rw [hS] at s0 s1
      rw [hS]
      clear hc e hS
      go_wp2_with fail
      go_roundw
      case rel => exact ⟨k + 1, by omega, by rw [HN.out], by go_num, rfl⟩
      case measure => simp [intOf]; omega
    · have HN := Lib.hid (sum_all hlt)
      obtain ⟨S, hS⟩ : ∃ S, (zs.take k).sum = S := ⟨_, rfl⟩
      rw [hS] at HN s0 s1
      rw [hS]
      clear hS
      go_wp2_with fail
      go_returns
      exact ⟨ret_int HN.out, rfl⟩

def RnHead (l : List Pr) (m : Int) (w wr : World) (v v' : Value) : Prop := ∃ k : Nat, k ≤ l.length ∧ v' = .int .i64 k ∧ wr.ownsRow w.heap.size 3 1 v ((needL l m).take k).length (spI ((needL l m).take k)) ∧ Below w.heap.size w wr
theorem ownV_of {w0 w : World} {B : Nat} {e : TypeId} {v : Value} {zs : List Int} (h : w.ownsRow B e 1 v zs.length (spI zs)) (hB : w0.heap.size ≤ B) : OwnV w0 w v zs := by
  rcases Go.Joins.ownsRow_forms h with ⟨rfl, h0⟩ | ⟨g, cap, rfl⟩
  · obtain rfl : zs = [] := by simpa using h0
    exact .inl ⟨rfl, rfl⟩
  · have h' := h
    obtain ⟨hl, h2⟩ := h
    rcases h2 with ⟨h3, _⟩ | ⟨g', cap', cur, h3, h4, h5, h6, h7, h8, h9⟩
    · cases h3
    · simp at h3
      obtain ⟨rfl, rfl⟩ := h3
      have hg : g < w.heap.size := by
        rcases Nat.lt_or_ge g w.heap.size with hx | hx
        · exact hx
        · simp [Array.getElem?_eq_none hx] at h5
      refine .inr ⟨g, cap, rfl, h6, ⟨fun i c e => ?_, h'.frozenAt, hg⟩, by omega⟩
      have hi := (List.getElem?_eq_some_iff.1 e).1
      rw [h'.cellAt _ (by omega)]
      exact spI_get e
set_option linter.unusedSimpArgs false in
set_option maxRecDepth 100000 in
set_option maxHeartbeats 8000000 in
theorem rneeds_any (v : Value) (l : List Pr) (m : Int) (w : World) (hs : SlPr w v l) (hl : pullsB l = true) (h0 : 1 ≤ m) (h1 : m ≤ 1000000) :
    Calls Try.prog 66 #[v, .int .i64 m] w fun e w' => (∃ u, e = .returned u ∧ OwnV w w' u (needL l m)) ∧ Below w.heap.size w w' := by
  obtain ⟨a, cap, rfl, hlen, hcap⟩ := hs.form
  obtain ⟨h8, hpu⟩ := puB_of hl
  have HS := Lib.hid hs
  have HPu := Lib.hid hpu
  obtain ⟨i0, hi, hz0, hz1, hz2⟩ := info_parts (P := Try.prog) (e := 3) (z := .int .i64 0) (size := 1) (bytes := 8) (by kernel_rfl)
  have HI0 := Lib.hid hi
  have HZ0 := Lib.hid hz0
  have HZ1 := Lib.hid hz1
  have HZ2 := Lib.hid hz2
  clear hi hz0 hz1 hz2 hs hl hpu
  go_enter Try.func66, Try.ntmps66
  go_wp2_with fail
  go_loopw [5, 6] (fun v5 v6 wr => RnHead l m w wr v5 v6) (fun _ v6 _ => l.length - (intOf v6).toNat)
  case atStart => exact ⟨0, by omega, rfl, own_no _ _ _ _, Below.refl _ _⟩
  case round =>
    obtain ⟨k, hk, rfl, how, hbr⟩ := hrel
    obtain ⟨T, hT⟩ : ∃ T, (needL l m).take k = T := ⟨_, rfl⟩
    rw [hT] at how
    have HTk := Lib.hid hT
    have HO := Lib.hid how
    clear how hT
    by_cases hlt : k < l.length
    rotate_left 1
    · have hk2 : k = l.length := by omega
      have HF : Hid (T = needL l m) := Lib.hid (by rw [← HTk.out, List.take_of_length_le (by rw [needL_len]; omega)])
      go_wp2_with fail
      go_returns
      exact ⟨⟨_, rfl, by have h2 := HO.out; rw [HF.out] at h2; exact ownV_of h2 (Nat.le_refl _)⟩, hbr⟩
    obtain ⟨b, off, c, rfl, hb, hc, hat⟩ := HS.out.at hlt
    obtain ⟨c0, c1⟩ := PrAt.later hat (show Below w.heap.size w wr from hbr)
    have hlt' : (k : Int) < (l.length : Int) := by omega
    have hk0 : (0 : Int) ≤ (k : Int) := by omega
    have hkn : ((k : Int).toNat) = k := by omega
    have hpb := HPu.out c (List.mem_of_getElem? hc)
    obtain ⟨x0, x1, _⟩ := need_bd hpb h0 h1
    have hrun := need_run hpb h0 h1
    obtain ⟨b0, b1⟩ := hpb
    have hne : ¬ m = 0 := by omega
    have f1 : IntKind.i64.wrap (c.b + m) = c.b + m := IntWalk.i64_in _ ⟨by omega, by omega⟩
    have f2 : IntKind.i64.wrap (c.b + m - 1) = c.b + m - 1 := IntWalk.i64_in _ ⟨by omega, by omega⟩
    obtain ⟨n1, hn1⟩ : ∃ x, need1 m c = x := ⟨_, rfl⟩
    rw [hn1] at x0 x1 hrun
    have f3 : IntKind.i64.wrap n1 = n1 := IntWalk.i64_in _ ⟨by omega, by omega⟩
    have HC := Lib.hid (show (needL l m).take (k + 1) = T ++ [n1] by rw [List.take_add_one, needL_get hc, hn1, HTk.out]; rfl)
    have hll : T.length ≤ 20 := by rw [← HTk.out, List.length_take, needL_len]; omega
    clear hc hat hn1
    have hown2 := HO.out
    have hsc := hbr.size
    go_wp2_with (at_builtin; refine wpList_append_own _ rfl _ _ 51 rfl w.heap.size 3 i0 (.int .i64 0) 1 8 Try.underlying51 HI0.out HZ0.out HZ1.out HZ2.out rfl (by decide) _ _ _ rfl (hown2.alloc _) ⟨wr.heap.size, 0, none⟩ 1 1 [.int .i64 n1] rfl rfl ?c1 ?c2 ?c3 ?c4 ?c5 ?_)
    case c1 => exact one_new _ _ _
    case c2 =>
      intro x hx
      simp at hx
      subst hx
      rfl
    case c3 => unfold maxLen; omega
    case c4 => omega
    case c5 => simp; omega
    intro v' w2 hown' hgrow hnil
    obtain ⟨hb2, hz2⟩ := grown_below hown2 (Below.refl w.heap.size wr) hsc hgrow
    have hBf : Below w.heap.size w w2 := hbr.trans hb2
    have HOf : Hid (w2.ownsRow w.heap.size 3 1 v' ((needL l m).take (k + 1)).length (spI ((needL l m).take (k + 1)))) := Lib.hid (by rw [HC.out, spI_app, List.length_append]; exact hown')
    clear hown' hgrow hnil hown2 hb2
    go_wp2_with fail
    go_roundw
    case rel => exact ⟨k + 1, by omega, by go_num, HOf.out, hBf⟩
    case measure => simp [intOf]; omega
end Go.Proofs.Ytbkabgbkdggnhaa
