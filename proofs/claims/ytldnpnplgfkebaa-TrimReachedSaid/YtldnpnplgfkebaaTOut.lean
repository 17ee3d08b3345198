/- What the outright statements of layer 4 make for themselves: valid, inside, chosen, sums. -/
import Derived.Test.YtldnpnplgfkebaaTCho
import Derived.Test.YtldnpnplgfkebaaTRList
import Derived.Test.YtldnpnplgfkebaaTDrop1
import Derived.Test.YtldnpnplgfkebaaWTCheck
import Derived.BigQuiet
namespace Go.Proofs.Ytldnpnplgfkebaa
open Go.RowKit

theorem wp_append_pus {o : Oper} {a : Act} {w : World} {K : Act → World → Prop} {Q : Exit → Act → World → Prop} (s x : Operand) (ho : o.op = .call { callee := .builtin .append, args := #[s, x], argTypes := #[42, 42] })
    (base : Nat) (sv xv : Value) (xs ys : List Pu) (hs : a.eval s = sv) (hown : w.ownsRow base 89 2 sv xs.length (spP xs)) (hx : a.eval x = xv) (hy : SlPu w xv ys) (hn : xs.length + ys.length ≤ 1000) (hbase : base ≤ w.heap.size)
    (h : ∀ v' w', w'.ownsRow base 89 2 v' (xs ++ ys).length (spP (xs ++ ys)) → Below base w w' → base ≤ w'.heap.size → K (a.put o.dst v') w') : o.wp Try.prog a w K Q := by
  obtain ⟨i0, hi, hz0, hz1, hz2⟩ := info_parts (P := Try.prog) (e := 89) (z := .agg #[.int .i64 0, .int .i64 0]) (size := 2) (bytes := 16) (by kernel_rfl)
  rcases hy with ⟨rfl, rfl⟩ | ⟨b, off, cap, rfl, h2, h3, h4, h5⟩
  · have hrun := run_append_owned_none (P := Try.prog) (w := w) base 42 o.type 89 i0 2 Try.underlying42 hi sv xs.length _ hown
    unfold Oper.wp
    simp [execOp, ho, resolve, invoke, builtin, hs, hx, hrun, Result.andThen]
    exact h sv w (by simpa using hown) (Below.refl _ _) hbase
  · have hlo := pu_len ys
    refine wp_append_own w s x 42 ho base 89 i0 (.agg #[.int .i64 0, .int .i64 0]) 2 16 Try.underlying42 hi hz0 hz1 hz2 rfl (by decide) sv xs.length _ hs hown ⟨b, off, none⟩ ys.length cap (spR (ys.map Pu.row)) hx ?_ (spR_cell (pu_rows h5) hlo (by decide)) spR_one (by unfold maxLen; omega) (by omega) hbase ?_
    · rw [spR_len _ hlo, List.length_map]
    · intro v' w' ho' hg _
      refine h v' w' (by rw [List.length_append, spP_row, List.map_append]; unfold spR; rw [List.flatMap_append]; rw [spP_row] at ho'; exact ho') ⟨hg.os, hg.tape, hg.output, hg.size, fun k hk => hg.block k (by omega) (fun e => by have := (hown.lt k e.symm).1; omega)⟩ (by have := hg.size; omega)

/-- Whether loads and limits are valid. -/
def okayB (ls : List Ld) (ms : List Li) : Bool := decide (loadsN ls = 0) && decide (limitsN ms = 0)
set_option maxHeartbeats 1000000 in
theorem valid_great (a0 : Option Addr) (l0 c0 : Nat) (a1 : Option Addr) (l1 c1 : Nat) (w : World) (hg : 50 < l0 ∨ 50 < l1) :
    Calls Try.prog 46 #[.slice a0 l0 c0, .slice a1 l1 c1] w fun e w' => e = .returned (.bool false) ∧ Below w.heap.size w w' := by
  have HG := Lib.hid (great_yes (a := l0) (b := l1) (c := 0) (d := 0) (by omega))
  go_enter Try.func46, Try.ntmps46
  go_wp2_with fail
  refine (great_any _ _ _ _ _).mono ?_
  rintro e w1 ⟨rfl, rfl⟩
  rw [show greatB l0 l1 0 0 = true from HG.out]
  go_wp2_with fail
  go_returns
  exact ⟨rfl, by go_grown⟩
set_option maxHeartbeats 2000000 in
theorem valid_any (v u : Value) (ls : List Ld) (ms : List Li) (w : World) (hv : SlLd w v ls) (hu : SlLi w u ms) (h0 : ls.length ≤ 50) (h1 : ms.length ≤ 50) :
    Calls Try.prog 46 #[v, u] w fun e w' => e = .returned (.bool (okayB ls ms)) ∧ Below w.heap.size w w' := by
  obtain ⟨a0, cap0, rfl, hl0, hc0⟩ := hv.form
  obtain ⟨a1, cap1, rfl, hl1, hc1⟩ := hu.form
  have HG := Lib.hid (great_no (a := ls.length) (b := ms.length) (c := 0) (d := 0) (by omega))
  have HV := Lib.hid hv
  have HU := Lib.hid hu
  obtain ⟨n, hn⟩ : ∃ n, loadsN ls = n := ⟨_, rfl⟩
  obtain ⟨m, hm⟩ : ∃ n, limitsN ms = n := ⟨_, rfl⟩
  have HN := Lib.hid hn
  have HM := Lib.hid hm
  unfold okayB
  rw [hn, hm]
  clear hv hu hn hm
  by_cases e0 : n = 0
  · subst e0
    go_enter Try.func46, Try.ntmps46
    go_wp2_with fail
    refine (great_any _ _ _ _ _).mono ?_
    rintro e w1 ⟨rfl, hw1⟩
    rw [← hw1, show greatB ls.length ms.length 0 0 = false from HG.out]
    clear hw1 w1
    go_wp2_with fail
    refine (rcheckLd_any _ ls _ HV.out).mono ?_
    rintro e w2 ⟨rfl, hb2⟩
    rw [HN.out]
    go_wp2_with fail
    refine (rcheckLi_any _ ms _ (liLater HU.out hb2)).mono ?_
    rintro e w3 ⟨rfl, hb3⟩
    rw [HM.out]
    have hB3 := two hb2 hb3
    clear hb2 hb3
    go_wp2_with fail
    go_returns
    exact ⟨ret_bool (by by_cases e9 : m = 0 <;> simp [e9]), hB3⟩
  · go_enter Try.func46, Try.ntmps46
    go_wp2_with fail
    refine (great_any _ _ _ _ _).mono ?_
    rintro e w1 ⟨rfl, hw1⟩
    rw [← hw1, show greatB ls.length ms.length 0 0 = false from HG.out]
    clear hw1 w1
    go_wp2_with fail
    refine (rcheckLd_any _ ls _ HV.out).mono ?_
    rintro e w2 ⟨rfl, hb2⟩
    rw [HN.out]
    go_wp2_with fail
    go_returns
    exact ⟨ret_bool (by simp [e0]), hb2⟩
/-- The number of a span that is chosen by another one. -/
def insE (lo hi n : Int) : Int := lo + n % (hi - lo + 1)
theorem ins_in {lo hi : Int} (n : Int) (h : lo ≤ hi) : lo ≤ insE lo hi n ∧ insE lo hi n ≤ hi := by
  unfold insE
  have h1 := Int.emod_nonneg n (b := hi - lo + 1) (by omega)
  have h2 := Int.emod_lt_of_pos n (b := hi - lo + 1) (by omega)
  omega
set_option maxHeartbeats 2000000 in
theorem inside_any (lo hi n : Int) (w : World) (h0 : -1073741824 ≤ lo) (h1 : lo ≤ hi) (h2 : hi ≤ 1073741824) (hn : 0 ≤ n) (hn1 : n < 65536) :
    Calls Try.prog 50 #[sp lo hi, .int .u16 n] w fun e w' => e = .returned (.int .i64 (insE lo hi n)) ∧ Below w.heap.size w w' := by
  have hi0 := ins_in n h1
  have hne : ¬ hi - lo + 1 = 0 := by omega
  unfold insE at hi0
  go_enter Try.func50, Try.ntmps50
  go_wp2_with fail
  go_quiet (fail)
  go_wp2_with fail
  go_returns
  exact ⟨ret_int rfl, below_drewN (by go_grown) _⟩
/-- A slice of small numbers: each can be read. -/
def ByAt (w : World) (a : Option Addr) (len : Nat) : Prop := ∀ i, i < len → ∃ (b off : Nat) (x : Int), a = some ⟨b, off, none⟩ ∧ w.cell? ⟨b, off + i, none⟩ = some (.int .u16 x) ∧ 0 ≤ x ∧ x < 65536
theorem ByAt.later {w w1 : World} {a : Option Addr} {len : Nat} (h : ByAt w a len) (hb : Below w.heap.size w w1) : ByAt w1 a len := fun i hi => by
  obtain ⟨b, off, x, h1, h2, h3⟩ := h i hi
  exact ⟨b, off, x, h1, cell_later hb h2, h3⟩
/-- The loop's head in sums. -/
def SmHead (ps : List Pu) (w wr : World) (v4 v5 v10 : Value) : Prop := ∃ k : Nat, k ≤ ps.length ∧ v4 = .int .i64 (heavE (ps.take k)) ∧ v5 = .int .i64 (momsE (ps.take k)) ∧ v10 = .int .i64 k ∧ Below w.heap.size w wr
theorem mom_bound {p : Pu} (h : PuB p) : -42949672960000 ≤ momE p ∧ momE p ≤ 42949672960000 := by
  obtain ⟨h0, h1, h2, h3⟩ := h
  have := mul_lim (m := 1073741824) (n := 40000) h2 h3 h0 h1
  unfold momE
  omega
theorem sums_bound {ps : List Pu} (k : Nat) (hp : ∀ p, p ∈ ps → PuB p) (h50 : ps.length ≤ 50) :
    (-53687091200 ≤ heavE (ps.take k) ∧ heavE (ps.take k) ≤ 53687091200) ∧ -2147483648000000 ≤ momsE (ps.take k) ∧ momsE (ps.take k) ≤ 2147483648000000 := by
  have h1 : (ps.take k).length ≤ 50 := by rw [List.length_take]; omega
  have a := sum_bound (f := Pu.w) (m := 1073741824) (ps.take k) (fun x hx => (hp x (List.mem_of_mem_take hx)).2.2)
  have b := sum_bound (f := momE) (m := 42949672960000) (ps.take k) (fun x hx => mom_bound (hp x (List.mem_of_mem_take hx)))
  unfold heavE momsE
  omega
set_option maxHeartbeats 4000000 in
theorem sums_any (v : Value) (ps : List Pu) (w : World) (hv : SlPu w v ps) (h50 : ps.length ≤ 50) (hp : ∀ p, p ∈ ps → PuB p) :
    Calls Try.prog 47 #[v] w fun e w' => e = .returned (.tuple #[.int .i64 (heavE ps), .int .i64 (momsE ps)]) ∧ Below w.heap.size w w' := by
  obtain ⟨ad, cap, rfl, hlen, hcap⟩ := hv.form
  have HV := Lib.hid hv
  have HP := Lib.hid hp
  clear hv hp
  go_enter Try.func47, Try.ntmps47
  go_wp2_with fail
  go_loopw [4, 5, 10] (fun v4 v5 v10 wr => SmHead ps w wr v4 v5 v10) (fun _ _ v10 _ => ps.length - (intOf v10).toNat)
  case atStart => exact ⟨0, by omega, rfl, rfl, rfl, Below.refl _ _⟩
  case round =>
    obtain ⟨k, hk, rfl, rfl, rfl, hbr⟩ := hrel
    by_cases hlt : k < ps.length
    rotate_left 1
    · obtain ⟨X, hX⟩ : ∃ X, heavE (ps.take k) = X := ⟨_, rfl⟩
      obtain ⟨Y, hY⟩ : ∃ X, momsE (ps.take k) = X := ⟨_, rfl⟩
      have HX := Lib.hid (show heavE ps = X by rw [← hX, List.take_of_length_le (by omega)])
      have HY := Lib.hid (show momsE ps = Y by rw [← hY, List.take_of_length_le (by omega)])
      rw [hX, hY]
      clear hX hY
      go_wp2_with fail
      refine bodyPost_ret (v := .tuple #[.int .i64 X, .int .i64 Y]) (by simp [results, Try.results47, go_sem, *]) rfl ⟨by rw [HX.out, HY.out], hbr⟩
    obtain ⟨bk, off, c, rfl, hb, hc, hat⟩ := HV.out.at hlt
    obtain ⟨c0, c1⟩ := PuAt.later hat (show Below w.heap.size w wr from hbr)
    have hlt' : (k : Int) < (ps.length : Int) := by omega
    have hk0 : (0 : Int) ≤ (k : Int) := by omega
    have hpb := HP.out c (List.mem_of_getElem? hc)
    obtain ⟨⟨x0, x1⟩, y0, y1⟩ := sums_bound k HP.out h50
    have HCx := Lib.hid (show heavE (ps.take (k + 1)) = heavE (ps.take k) + c.w from sum_take (f := Pu.w) hc)
    have HCy := Lib.hid (show momsE (ps.take (k + 1)) = momsE (ps.take k) + momE c from sum_take (f := momE) hc)
    obtain ⟨m0, m1⟩ := mom_bound hpb
    obtain ⟨p0, p1, q0, q1⟩ := hpb
    obtain ⟨X, hX⟩ : ∃ X, heavE (ps.take k) = X := ⟨_, rfl⟩
    obtain ⟨Y, hY⟩ : ∃ X, momsE (ps.take k) = X := ⟨_, rfl⟩
    rw [hX] at x0 x1 HCx
    rw [hY] at y0 y1 HCy
    rw [hX, hY]
    unfold momE at m0 m1 HCy
    obtain ⟨Z, hZ⟩ : ∃ X, c.w * c.p = X := ⟨_, rfl⟩
    rw [hZ] at m0 m1 HCy
    clear hc hat hX hY
    have hsz := hbr.size
    go_wp2_with fail
    go_roundw
    case rel => exact ⟨k + 1, by omega, by rw [HCx.out], by rw [HCy.out], by go_num, by go_grown⟩
    case measure => simp [intOf]; omega
end Go.Proofs.Ytldnpnplgfkebaa
