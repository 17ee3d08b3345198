/- The reference of layer 4: size, listed, earlier, exactly. -/
import Derived.Test.YtldnpnplgfkebaaTKeep
namespace Go.Proofs.Ytldnpnplgfkebaa
open Go.RowKit

set_option maxRecDepth 100000 in
theorem bit_tab : ∀ m, m < 1024 → ∀ i, i < 10 → (bits .and .i64 ((m : Nat) / 2 ^ i) 1 == if m.testBit i then 1 else 0) = true := by decide +kernel
theorem bit_and {m i : Nat} (hm : m < 1024) (hi : i < 10) : bits .and .i64 ((m : Int) / 2 ^ i) 1 = if m.testBit i then 1 else 0 := by
  have := bit_tab m hm i hi
  rwa [beq_iff_eq] at this
/-- The bits below k, as indices. -/
def listK (m k : Nat) : List Int := ((List.range k).filter m.testBit).map fun (i : Nat) => (i : Int)
theorem listK_succ (m k : Nat) : listK m (k + 1) = listK m k ++ if m.testBit k then [(k : Int)] else [] := by
  unfold listK
  rw [List.range_succ, List.filter_append, List.map_append]
  congr 1
  by_cases h : m.testBit k <;> simp [h]
theorem listK_len (m k : Nat) : (listK m k).length ≤ k := by
  unfold listK
  rw [List.length_map]
  exact Nat.le_trans (List.length_filter_le ..) (by simp)
def SzHead (m : Nat) (w wr : World) (v3 v4 : Value) : Prop := ∃ (k n : Nat), k ≤ 10 ∧ v4 = .int .i64 k ∧ n = (listK m k).length ∧ n ≤ k ∧ v3 = .int .i64 n ∧ wr = w
set_option linter.unusedSimpArgs false in
set_option maxHeartbeats 4000000 in
theorem size_any (m : Nat) (hm : m < 1024) (w : World) : Calls Try.prog 88 #[.int .i64 m] w fun e w' => e = .returned (.int .i64 (listM m).length) ∧ w' = w := by
  have hm' : (m : Int) < 1024 := by omega
  go_enter Try.func88, Try.ntmps88
  go_wp2_with fail
  go_loopw [3, 4] (fun v3 v4 wr => SzHead m w wr v3 v4) (fun _ v4 _ => 10 - (intOf v4).toNat)
  case atStart => exact ⟨0, 0, by omega, rfl, rfl, by omega, rfl, rfl⟩
  case round =>
    obtain ⟨k, n, hk, rfl, hn, hnk, rfl, rfl⟩ := hrel
    have HN := Lib.hid hn
    clear hn
    have hk0 : (0 : Int) ≤ (k : Int) := by omega
    by_cases hlt : k < 10
    rotate_left 1
    · obtain rfl : k = 10 := by omega
      go_wp2_with fail
      go_returns
      exact ⟨by rw [HN.out]; rfl, rfl⟩
    have hlt' : (k : Int) < 10 := by omega
    have hkn : ((k : Int).toNat) = k := by omega
    have hb := bit_and hm hlt
    by_cases ht : m.testBit k = true
    · rw [if_pos ht] at hb
      have HT := Lib.hid ht
      clear ht
      go_wp2_with fail
      go_roundw
      case rel => exact ⟨k + 1, n + 1, by omega, by go_num, by rw [listK_succ, HT.out, if_pos rfl, List.length_append, HN.out]; rfl, by omega, by go_num, rfl⟩
      case measure => simp [intOf]; omega
    · rw [if_neg ht] at hb
      have HT := Lib.hid (show m.testBit k = false by simpa using ht)
      clear ht
      go_wp2_with fail
      go_roundw
      case rel => exact ⟨k + 1, n, by omega, by go_num, by rw [listK_succ, HT.out, HN.out]; simp, by omega, by go_num, rfl⟩
      case measure => simp [intOf]; omega
def LsHead (m : Nat) (w wr : World) (v3 v4 : Value) : Prop := ∃ k : Nat, k ≤ 10 ∧ v4 = .int .i64 k ∧ wr.ownsRow w.heap.size 3 1 v3 (listK m k).length (spI (listK m k)) ∧ Below w.heap.size w wr
set_option linter.unusedSimpArgs false in
set_option maxRecDepth 100000 in
set_option maxHeartbeats 8000000 in
theorem listed_any (m : Nat) (hm : m < 1024) (w : World) : Calls Try.prog 90 #[.int .i64 m] w fun e w' => ∃ v, e = .returned v ∧ SlI w' v (listM m) ∧ Below w.heap.size w w' := by
  have hm' : (m : Int) < 1024 := by omega
  obtain ⟨i0, hi, hz0, hz1, hz2⟩ := info_parts (P := Try.prog) (e := 3) (z := .int .i64 0) (size := 1) (bytes := 8) (by kernel_rfl)
  have HI0 := Lib.hid hi
  have HZ0 := Lib.hid hz0
  have HZ1 := Lib.hid hz1
  have HZ2 := Lib.hid hz2
  clear hi hz0 hz1 hz2
  go_enter Try.func90, Try.ntmps90
  go_wp2_with fail
  go_loopw [3, 4] (fun v3 v4 wr => LsHead m w wr v3 v4) (fun _ v4 _ => 10 - (intOf v4).toNat)
  case atStart => exact ⟨0, by omega, rfl, own_no _ _ _ _, Below.refl _ _⟩
  case round =>
    obtain ⟨k, hk, rfl, how, hbr⟩ := hrel
    have HO := Lib.hid how
    clear how
    have hk0 : (0 : Int) ≤ (k : Int) := by omega
    by_cases hlt : k < 10
    rotate_left 1
    · obtain rfl : k = 10 := by omega
      go_wp2_with fail
      go_returns
      exact ⟨_, rfl, SlI.of (zs := listM m) HO.out (by have h9 : (listM m).length ≤ 10 := listK_len m 10; omega), hbr⟩
    have hlt' : (k : Int) < 10 := by omega
    have hkn : ((k : Int).toNat) = k := by omega
    have hb := bit_and hm hlt
    have hll := listK_len m k
    by_cases ht : m.testBit k = true
    · rw [if_pos ht] at hb
      have HZ9 := Lib.hid (show listK m (k + 1) = listK m k ++ [(k : Int)] by rw [listK_succ, if_pos ht])
      have hown2 := HO.out
      have hsc := hbr.size
      clear ht
      go_wp2_with (at_builtin; refine wpList_append_own _ rfl _ _ 63 rfl w.heap.size 3 i0 (.int .i64 0) 1 8 Try.underlying63 HI0.out HZ0.out HZ1.out HZ2.out rfl (by decide) _ _ _ rfl (hown2.alloc _) ⟨wr.heap.size, 0, none⟩ 1 1 [.int .i64 k] rfl rfl ?c1 ?c2 ?c3 ?c4 ?c5 ?_)
      case c1 => exact one_new _ _ _
      case c2 =>
        intro x hx
        simp at hx
        subst hx
        rfl
      case c3 => unfold maxLen; omega
      case c4 => omega
      case c5 => simp; omega
      intro v' w2 hown' hgrow hnil
      obtain ⟨hb2, hz2⟩ := grown_below hown2 (Below.refl w.heap.size wr) hsc hgrow
      have hBf : Below w.heap.size w w2 := hbr.trans hb2
      have HOf : Hid (w2.ownsRow w.heap.size 3 1 v' (listK m (k + 1)).length (spI (listK m (k + 1)))) := Lib.hid (by rw [HZ9.out, spI_app, List.length_append]; exact hown')
      clear hown' hgrow hnil hown2 hb2
      go_wp2_with fail
      go_roundw
      case rel => exact ⟨k + 1, by omega, by go_num, HOf.out, hBf⟩
      case measure => simp [intOf]; omega
    · rw [if_neg ht] at hb
      have HOf : Hid (wr.ownsRow w.heap.size 3 1 u3 (listK m (k + 1)).length (spI (listK m (k + 1)))) := Lib.hid (by rw [listK_succ, if_neg ht, List.append_nil]; exact HO.out)
      clear ht
      go_wp2_with fail
      go_roundw
      case rel => exact ⟨k + 1, by omega, by go_num, HOf.out, hbr⟩
      case measure => simp [intOf]; omega
def ErHead (xs ys : List Int) (w wr : World) (v : Value) : Prop := ∃ k : Nat, k ≤ xs.length ∧ v = .int .i64 k ∧ lexB xs ys = lexB (xs.drop k) (ys.drop k) ∧ Below w.heap.size w wr
set_option linter.unusedSimpArgs false in
set_option maxHeartbeats 8000000 in
theorem earlier_any (v u : Value) (xs ys : List Int) (w : World) (hv : SlI w v xs) (hu : SlI w u ys) (hl : xs.length = ys.length) :
    Calls Try.prog 89 #[v, u] w fun e w' => e = .returned (.bool (lexB xs ys)) ∧ Below w.heap.size w w' := by
  obtain ⟨a1, cap1, rfl, hl1, _⟩ := hv.form
  obtain ⟨a2, cap2, rfl, hl2, _⟩ := hu.form
  have C1 := Lib.hid hv
  have C2 := Lib.hid hu
  have HLe := Lib.hid hl
  clear hv hu hl
  go_enter Try.func89, Try.ntmps89
  go_wp2_with fail
  go_loopw [5] (fun v5 wr => ErHead xs ys w wr v5) (fun v5 _ => xs.length - (intOf v5).toNat)
  case atStart => exact ⟨0, by omega, rfl, rfl, Below.refl _ _⟩
  case round =>
    obtain ⟨k, hk, rfl, he, hbr⟩ := hrel
    have HE := Lib.hid he
    clear he
    by_cases hlt : k < xs.length
    rotate_left 1
    · have HF := Lib.hid (show lexB xs ys = false by rw [HE.out, drop_none hlt]; rfl)
      go_wp2_with fail
      go_returns
      exact ⟨ret_bool HF.out.symm, hbr⟩
    obtain ⟨g1, o1, c, rfl, _, hc, e⟩ := C1.out.at hlt
    obtain ⟨g2, o2, d, rfl, _, hd, f⟩ := C2.out.at (show k < ys.length by rw [← HLe.out]; exact hlt)
    have e0 : wr.cell? ⟨g1, o1 + k, none⟩ = some (.int .i64 c) := by have := IntAt.later e hbr; unfold IntAt at this; rw [Nat.mul_one] at this; exact this
    have f0 : wr.cell? ⟨g2, o2 + k, none⟩ = some (.int .i64 d) := by have := IntAt.later f hbr; unfold IntAt at this; rw [Nat.mul_one] at this; exact this
    have hk0 : (0 : Int) ≤ (k : Int) := by omega
    have hk1 : (k : Int) < (xs.length : Int) := by omega
    have hk2 : (k : Int) < (ys.length : Int) := by have := HLe.out; omega
    have HL := Lib.hid (show lexB xs ys = if c = d then lexB (xs.drop (k + 1)) (ys.drop (k + 1)) else decide (c < d) by rw [HE.out, drop_some hc, drop_some hd]; rfl)
    clear hc hd e f
    by_cases hcd : c = d
    · have HN := Lib.hid (show lexB xs ys = lexB (xs.drop (k + 1)) (ys.drop (k + 1)) by rw [HL.out, if_pos hcd])
      subst hcd
      go_wp2_with fail
      go_quiet (fail)
      have hbr2 := below_drewN hbr nq
      go_wp2_with fail
      go_roundw
      case rel => exact ⟨k + 1, by omega, by go_num, HN.out, hbr2⟩
      case measure => simp [intOf]; omega
    · have HN := Lib.hid (show lexB xs ys = decide (c < d) by rw [HL.out, if_neg hcd])
      have E0 := fun nn => cell_later (below_drewN (Below.refl wr.heap.size wr) nn) e0
      have F0 := fun nn => cell_later (below_drewN (Below.refl wr.heap.size wr) nn) f0
      go_wp2_with fail
      go_quiet (fail)
      have hbr2 := below_drewN hbr nq
      have e1 := E0 nq
      have f1 := F0 nq
      generalize wr.drewN nq = wq at *
      go_wp2_with fail
      go_quiet (fail)
      have hbr3 := below_drewN hbr2 nq
      go_wp2_with fail
      go_returns
      exact ⟨ret_bool HN.out.symm, hbr3⟩
set_option maxHeartbeats 2000000 in
theorem exactly_any (p : Pu) (w : World) : Calls Try.prog 91 #[.int .i64 p.p, .int .i64 p.w] w fun e w' => e = .returned (ldV (bagL p)) ∧ Below w.heap.size w w' := by
  go_enter Try.func91, Try.ntmps91
  go_wp2_with fail
  refine bodyPost_ret (v := ldV (bagL p)) (by simp [results, Try.results91, go_sem, bagL, *]) rfl ⟨rfl, by go_grown⟩
end Go.Proofs.Ytldnpnplgfkebaa
