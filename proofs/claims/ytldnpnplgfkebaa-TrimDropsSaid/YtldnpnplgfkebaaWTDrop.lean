/- TrimDrops: the walk. -/
import Derived.Test.YtldnpnplgfkebaaTDrop
import Derived.Test.YtldnpnplgfkebaaTRDrop
import Derived.Test.YtldnpnplgfkebaaTSame
import Derived.Test.YtldnpnplgfkebaaWTCheck
namespace Go.Proofs.Ytldnpnplgfkebaa
open Go.RowKit

/-- A put as a row. -/
def Pu.row (p : Pu) : List Int := [p.p, p.w]
theorem spP_row (ps : List Pu) : spP ps = spR (ps.map Pu.row) := by
  unfold spP spR
  rw [List.flatMap_map]
  rfl
theorem pu_len (ps : List Pu) : ∀ r, r ∈ ps.map Pu.row → r.length = 2 := fun r h => by
  obtain ⟨p, _, rfl⟩ := List.mem_map.1 h
  rfl
theorem pu_rows {w : World} {b off : Nat} {ps : List Pu} (h : ∀ (i : Nat) (c : Pu), ps[i]? = some c → PuAt w b (off + i * 2) c) : rowCells w b off 2 (ps.map Pu.row) := fun i r hr j x hx => by
  rw [List.getElem?_map] at hr
  obtain ⟨p, hp, rfl⟩ := Option.map_eq_some_iff.1 hr
  have g := h i p hp
  match j, hx with
  | 0, hx => simp [Pu.row] at hx; subst hx; simpa using g.c0
  | 1, hx => simp [Pu.row] at hx; subst hx; exact g.c1
  | j + 2, hx => simp [Pu.row] at hx
theorem wp_append_pu {o : Oper} {a : Act} {w : World} {K : Act → World → Prop} {Q : Exit → Act → World → Prop} (s x : Operand) (ho : o.op = .call { callee := .builtin .append, args := #[s, x], argTypes := #[42, 42] })
    (base : Nat) (sv xv : Value) (ys : List Pu) (hs : a.eval s = sv) (hown : w.ownsRow base 89 2 sv 0 []) (hx : a.eval x = xv) (hy : SlPu w xv ys) (hn : ys.length ≤ 1000) (hbase : base ≤ w.heap.size)
    (h : ∀ v' w', SlPu w' v' ys → Below base w w' → base ≤ w'.heap.size → K (a.put o.dst v') w') : o.wp Try.prog a w K Q := by
  obtain ⟨i0, hi, hz0, hz1, hz2⟩ := info_parts (P := Try.prog) (e := 89) (z := .agg #[.int .i64 0, .int .i64 0]) (size := 2) (bytes := 16) (by kernel_rfl)
  rcases hy with ⟨rfl, rfl⟩ | ⟨b, off, cap, rfl, h2, h3, h4, h5⟩
  · have hrun := run_append_owned_none (P := Try.prog) (w := w) base 42 o.type 89 i0 2 Try.underlying42 hi sv 0 _ hown
    unfold Oper.wp
    simp [execOp, ho, resolve, invoke, builtin, hs, hx, hrun, Result.andThen]
    exact h sv w (SlPu.of (B := base) (ps := []) (by simpa [spP] using hown) (by simp)) (Below.refl _ _) hbase
  · have hlo := pu_len ys
    refine wp_append_own w s x 42 ho base 89 i0 (.agg #[.int .i64 0, .int .i64 0]) 2 16 Try.underlying42 hi hz0 hz1 hz2 rfl (by decide) sv 0 _ hs hown ⟨b, off, none⟩ ys.length cap (spR (ys.map Pu.row)) hx ?_ (spR_cell (pu_rows h5) hlo (by decide)) spR_one (by unfold maxLen; omega) (by omega) hbase ?_
    · rw [spR_len _ hlo, List.length_map]
    · intro v' w' ho' hg _
      refine h v' w' (SlPu.of (B := base) (by rw [spP_row]; simpa using ho') (by omega)) ⟨hg.os, hg.tape, hg.output, hg.size, fun k hk => hg.block k (by omega) (fun e => by have := (hown.lt k e.symm).1; omega)⟩ (by have := hg.size; omega)
/-- What Drop says, in one: the error, and the bags. -/
def dropN (ls : List Ld) (ps : List Pu) (ms : List Li) : Int := if bagsN ls ps ms = 0 then (match dropE ls ps ms with | none => 6 | some _ => 0) else bagsN ls ps ms
def dropL (ls : List Ld) (ps : List Pu) (ms : List Li) : List Int := if bagsN ls ps ms = 0 then (match dropE ls ps ms with | none => [] | some zs => zs) else []
theorem DropP.one {ls : List Ld} {ps : List Pu} {ms : List Li} {w w' : World} {e : Ending} (h : DropP ls ps ms w e w') : ∃ v, e = .returned (.tuple #[v, .int .i64 (dropN ls ps ms)]) ∧ SlI w' v (dropL ls ps ms) ∧ Below w.heap.size w w' := by
  unfold dropN dropL
  rcases h with ⟨h0, h1, h2⟩ | ⟨h0, h3, h1, h2⟩ | ⟨h0, zs, v, h3, h1, h4, h2⟩
  · rw [if_neg h0, if_neg h0]
    exact ⟨_, h1, .inl ⟨rfl, rfl⟩, h2⟩
  · rw [if_pos h0, if_pos h0, h3]
    exact ⟨_, h1, .inl ⟨rfl, rfl⟩, h2⟩
  · rw [if_pos h0, if_pos h0, h3]
    exact ⟨_, h1, h4, h2⟩
theorem drop_one (v q u : Value) (ls : List Ld) (ps : List Pu) (ms : List Li) (w : World) (hv : SlLd w v ls) (hq : SlPu w q ps) (hu : SlLi w u ms) :
    Calls Try.prog 39 #[v, q, u] w fun e w' => ∃ r, e = .returned (.tuple #[r, .int .i64 (dropN ls ps ms)]) ∧ SlI w' r (dropL ls ps ms) ∧ Below w.heap.size w w' :=
  (drop_any v q u ls ps ms w hv hq hu).mono fun _ _ h => h.one
theorem rdrop_one (v q u : Value) (ls : List Ld) (ps : List Pu) (ms : List Li) (w : World) (hv : SlLd w v ls) (hq : SlPu w q ps) (hu : SlLi w u ms) :
    Calls Try.prog 40 #[v, q, u] w fun e w' => ∃ r, e = .returned (.tuple #[r, .int .i64 (dropN ls ps ms)]) ∧ SlI w' r (dropL ls ps ms) ∧ Below w.heap.size w w' :=
  (rdrop_any v q u ls ps ms w hv hq hu).mono fun _ _ h => h.one
set_option maxHeartbeats 1000000 in
theorem trimDrops_great (a0 : Option Addr) (l0 c0 : Nat) (a1 : Option Addr) (l1 c1 : Nat) (a2 : Option Addr) (l2 c2 : Nat) (w : World) (hg : 50 < l0 ∨ 50 < l1 ∨ 50 < l2) :
    Calls Try.prog 7 #[.slice a0 l0 c0, .slice a1 l1 c1, .slice a2 l2 c2] w fun e w' => e = .returned (.bool true) ∧ Below w.heap.size w w' := by
  have HG := Lib.hid (great_yes (a := l0) (b := l2) (c := 0) (d := l1) (by omega))
  go_enter Try.func7, Try.ntmps7
  go_wp2_with fail
  refine (great_any _ _ _ _ _).mono ?_
  rintro e w1 ⟨rfl, rfl⟩
  rw [show greatB l0 l2 0 l1 = true from HG.out]
  go_wp2_with fail
  go_returns
  exact ⟨rfl, by go_grown⟩
set_option maxRecDepth 1000000 in
set_option maxHeartbeats 8000000 in
theorem trimDrops_walk (v q u : Value) (ls : List Ld) (ps : List Pu) (ms : List Li) (w : World) (hv : SlLd w v ls) (hq : SlPu w q ps) (hu : SlLi w u ms) (h50 : ¬ (50 < ls.length ∨ 50 < ps.length ∨ 50 < ms.length)) :
    Calls Try.prog 7 #[v, q, u] w fun e w' => e = .returned (.bool true) ∧ Below w.heap.size w w' := by
  obtain ⟨a0, cap0, rfl, hl0, hc0⟩ := hv.form
  obtain ⟨a1, cap1, rfl, hl1, hc1⟩ := hq.form
  obtain ⟨a2, cap2, rfl, hl2, hc2⟩ := hu.form
  have HG := Lib.hid (great_no (a := ls.length) (b := ms.length) (c := 0) (d := ps.length) (by omega))
  have HV := Lib.hid hv
  have HQ := Lib.hid hq
  have HU := Lib.hid hu
  have hls : ls.length ≤ 50 := by omega
  have hps : ps.length ≤ 50 := by omega
  clear hv hq hu h50
  obtain ⟨n, hn⟩ : ∃ n, dropN ls ps ms = n := ⟨_, rfl⟩
  have HN := Lib.hid hn
  clear hn
  go_enter Try.func7, Try.ntmps7
  go_wp2_with fail
  refine (great_any _ _ _ _ _).mono ?_
  rintro e w1 ⟨rfl, hw1⟩
  rw [← hw1, show greatB ls.length ms.length 0 ps.length = false from HG.out]
  clear hw1 w1
  go_wp2_with (at_builtin; refine wpList_plain rfl fun _ hK => wp_append_ld (.tmp 20) (.tmp 21) rfl w.heap.size _ _ [] ls rfl (own_none w _ _ _ (Nat.le_refl _)) rfl (ldLater HV.out ((Below.refl _ w).alloc (Nat.le_refl _) _)) (by simp; omega) (by simp) ?_)
  intro v5 w5 ho5 hb5 hs5
  have hB5 : Below w.heap.size w w5 := ((Below.refl _ w).alloc (Nat.le_refl _) _).trans hb5
  have HV5 := Lib.hid (show SlLd w5 v5 ls from ld_own (by simpa using ho5) (by omega))
  apply hK
  clear hK ho5 hb5 hs5
  go_wp2_with (at_builtin; refine wpList_plain rfl fun _ hK => wp_append_pu (.tmp 23) (.tmp 24) rfl w5.heap.size _ _ ps rfl (own_none w5 _ _ _ (Nat.le_refl _)) rfl (puLater HQ.out (hB5.alloc hB5.size _)) (by omega) (by simp) ?_)
  intro v6 w6 hp6 hb6 hs6
  have hb56 : Below w5.heap.size w5 w6 := ((Below.refl _ w5).alloc (Nat.le_refl _) _).trans hb6
  have HV6 := Lib.hid (ldLater HV5.out hb56)
  have HQ6 := Lib.hid hp6
  have hB6 : Below w.heap.size w w6 := hB5.trans (hb56.mono hB5.size)
  apply hK
  clear hK hp6 hb6 hs6 hb56 HV5 hB5
  go_wp2_with fail
  refine (drop_one v5 v6 _ ls ps ms _ HV6.out HQ6.out (liLater HU.out hB6)).mono ?_
  rintro e w7 ⟨x7, rfl, hx7, hb7⟩
  rw [HN.out]
  have HX7 := Lib.hid hx7
  have HV7 := Lib.hid (ldLater HV6.out hb7)
  have HQ7 := Lib.hid (puLater HQ6.out hb7)
  have hB7 := two hB6 hb7
  clear hx7 hb7 HV6 HQ6 hB6
  go_wp2_with fail
  refine (rdrop_one _ _ _ ls ps ms _ (ldLater HV.out hB7) (puLater HQ.out hB7) (liLater HU.out hB7)).mono ?_
  rintro e w8 ⟨x8, rfl, hx8, hb8⟩
  rw [HN.out]
  have HX8 := Lib.hid hx8
  have HX78 := Lib.hid (inLater HX7.out hb8)
  have HV8 := Lib.hid (ldLater HV7.out hb8)
  have HQ8 := Lib.hid (puLater HQ7.out hb8)
  have hB8 := two hB7 hb8
  clear hx8 hb8 HV7 HQ7 hB7 HX7
  go_wp2_with fail
  refine (sameInts_eq _ _ (dropL ls ps ms) _ HX78.out HX8.out).mono ?_
  rintro e w9 ⟨rfl, hb9⟩
  have HV9 := Lib.hid (ldLater HV8.out hb9)
  have HQ9 := Lib.hid (puLater HQ8.out hb9)
  have hB9 := two hB8 hb9
  clear hb9 HV8 HQ8 hB8 HX8 HX78
  go_wp2_with fail
  refine (kept_eq _ _ ls _ HV9.out (ldLater HV.out hB9)).mono ?_
  rintro e w10 ⟨rfl, hb10⟩
  have HQ10 := Lib.hid (puLater HQ9.out hb10)
  have hB10 := two hB9 hb10
  clear hb10 HV9 HQ9 hB9
  go_wp2_with fail
  refine (samePuts_eq _ _ ps _ HQ10.out (puLater HQ.out hB10)).mono ?_
  rintro e w11 ⟨rfl, hb11⟩
  have hB11 := two hB10 hb11
  clear hb11
  go_wp2_with fail
  go_returns
  exact ⟨rfl, hB11⟩
end Go.Proofs.Ytldnpnplgfkebaa
