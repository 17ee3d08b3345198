/- Package trim: the iterator hands out all sets of bags, in their order. -/
import Derived.Test.YtldnpnplgfkebaaTIter
namespace Go.Proofs.Ytldnpnplgfkebaa
open Go.RowKit

theorem slice_room (g n : Nat) (hn : n ≤ 10) (w : World) : (Instr.sliceAt 170 (.pointer (some ⟨g, 0, none⟩)) none (some (.int .i64 n)) (some (.int .i64 n))).run Try.prog w = .ok (.slice (some ⟨g, 0, none⟩) n n) w := by
  have ht : Try.prog.underlying 170 = some (.array 10 3) := by kernel_rfl
  have h1 : (n : Int) ≤ 10 := by omega
  have h0 : (0 : Int) ≤ (n : Int) := by omega
  have hs : (sizeOf 3).run Try.prog w = .ok 1 w := by kernel_rfl
  by_cases e : n = 0
  · simp [Instr.sliceAt, Instr.sureAddr, run_underlying ht, Instr.sliceBounds, run_sliceBound, go_sem, e]
  · simp [Instr.sliceAt, Instr.sureAddr, run_underlying ht, Instr.sliceBounds, run_sliceBound, h1, h0, go_sem]
attribute [local go_sem] Oper.semAt_some
set_option linter.unusedSimpArgs false in
set_option maxRecDepth 100000 in
set_option maxHeartbeats 8000000 in
theorem subsets1_hands (bx B : Nat) (hB : B ≤ 10) :
    Hands Try.prog 117 #[.pointer (some ⟨bx, 0, none⟩)] HandV HandH (HandS B) (HandSp B) (HandPre bx B) := by
  intro l J Jx W hpre hJ hY h0
  have HPre := Lib.hid (show W.cell? ⟨bx, 0, none⟩ = some (.int .i64 B) from hpre)
  have hbx : bx < W.heap.size := World.block_lt_of_cell? _ _ hpre
  have c0 : W.cell? ⟨bx, 0, none⟩ = some (.int .i64 B) := hpre
  have HJ := Lib.hid hJ
  have HY := Lib.hid hY
  have H0 := Lib.hid h0
  clear hJ hY h0 hpre
  have hB10 : (B : Int) ≤ 10 := by omega
  have hB0 : (0 : Int) ≤ (B : Int) := by omega
  refine callsIn_of_wp Try.func117 rfl trivial ?_ rfl
  simp only [Try.ntmps117, List.size_toArray, List.length_cons, List.length_nil, Nat.reduceAdd, Nat.reduceSub, Array.replicate_succ, Array.replicate_zero, List.push_toArray, List.append_toArray, List.nil_append, List.cons_append]
  gi_wp2_with fail
  gi_loopw [9] (fun v9 wr => OutHead J B W wr v9) (fun v9 _ => B + 1 - (intOf v9).toNat)
  case atStart => exact ⟨0, by omega, rfl, ⟨[], HJ.out _ _ _ H0.out (by go_grown), laterS_zero B⟩, room_new _, by go_grown⟩
  case round =>
    obtain ⟨k, hk, rfl, ⟨hj1, hroom, hbr⟩⟩ := hrel
    have HJ1 := Lib.hid hj1
    have HR := Lib.hid hroom
    clear hj1 hroom
    have hk0 : (0 : Int) ≤ (k : Int) := by omega
    by_cases hlt : k < B + 1
    rotate_left 1
    · have hlt' : ¬ (k : Int) < (B : Int) + 1 := by omega
      obtain ⟨pre, k1, k2⟩ := HJ1.out
      rw [laterS_end (by omega), List.append_nil] at k2
      have K := Lib.hid (show HandS B pre ∧ J pre wr from ⟨k2, k1⟩)
      clear k1 k2
      gi_wp2_with fail
      go_end0
      exact ⟨⟨_, rfl⟩, .inl ⟨pre, K.out⟩⟩
    have hlt' : (k : Int) < (B : Int) + 1 := by omega
    have hsl := fun w => slice_room W.heap.size k (by omega) w
    gi_wp2_with fail
    refine ⟨trivial, rfl, ?_⟩
    refine (callsIn_wide.2 (count_any W.heap.size 0 k k 0 _ (HR.out.less (by omega)) (by omega) (by omega) (by omega))).mono ?_
    rintro e w1 ⟨rfl, hs⟩
    obtain ⟨pre, k1, k2⟩ := HJ1.out
    rw [laterS_next hlt] at k2
    have hb1 : Below W.heap.size W w1 := hbr.trans hs.below
    obtain ⟨hen, hal⟩ := sets_all hB (show k ≤ B by omega)
    have HI := Lib.hid (show InHead J B k W w1 (.bool true) from .inr ⟨rfl, 253, firstS k, pre, HJ.out _ _ _ k1 hs.below, k2, hs.room HR.out, hb1, room_first hs, by omega, hen, hal⟩)
    clear hs hb1 hen hal k1 k2 hsl HJ1 HR hbr
    gi_wp2_with fail
    gi_loopw [6] (fun v6 wr => InHead J B k W wr v6) (fun v6 wr => fuelW B W.heap.size k v6 wr)
    case atStart => exact HI.out
    case round =>
      clear HI
      rcases hrel with ⟨rfl, ho⟩ | ⟨rfl, j, zs, pre, hi⟩
      · have HO := Lib.hid ho
        clear ho
        gi_wp2_with fail
        go_roundw
        case rel => exact ⟨k + 1, by omega, by go_num, HO.out⟩
        case measure => simp [intOf]; omega
      · have HS := Lib.hid hi
        clear hi
        obtain ⟨hzl, hzb⟩ := HS.out.all zs (chain_self HS.out.ends)
        have HZb := Lib.hid hzb
        have HZl := Lib.hid hzl
        obtain ⟨fn, tmps, assign, body, hy, hR⟩ := HY.out pre (W.heap.size, zs) wr HS.out.jj ⟨HS.out.row, HS.out.room.lt, by rw [hzl]; omega⟩ HS.out.b.size
        dsimp only [HandV] at hy
        rw [hzl] at hy
        obtain ⟨j', rfl⟩ : ∃ j', j = j' + 1 := ⟨j - 1, by have := ends_pos HS.out.ends; omega⟩
        have hfu := fuelW_of HS.out.row HS.out.ends HS.out.le
        rw [hzl] at hfu
        have HF := Lib.hid hfu
        clear hzb hzl hfu
        gi_wp2_with fail
        refine ⟨rfl, ?_⟩
        refine hR.mono ?_
        rintro e W3 (⟨rfl, hJ3, hk3⟩ | ⟨rfl, hx3⟩)
        rotate_left 1
        · have HX := Lib.hid (show HandSp B (pre ++ [(W.heap.size, zs)]) ∧ Jx (pre ++ [(W.heap.size, zs)]) W3 from ⟨by
            obtain ⟨t, ht⟩ : ∃ t, chainS B (j' + 1) zs = zs :: t := ⟨_, rfl⟩
            refine ⟨t ++ laterS B (k + 1), ?_⟩
            rw [← HS.out.eq, ht]
            simp, hx3⟩)
          clear hx3
          gi_wp2_with fail
          refine bodyPost_ret (results_none rfl _ _ _) rfl ?_
          exact ⟨⟨_, rfl⟩, .inr ⟨_, HX.out⟩⟩
        have hb3 := HS.out.b.trans (hk3.mono HS.out.b.size)
        have c3 : W3.cell? ⟨bx, 0, none⟩ = some (.int .i64 B) := (hb3.cell hbx).trans HPre.out
        have HR3 := Lib.hid (HS.out.room.later hk3)
        have HJ3 := Lib.hid hJ3
        have had := advance_any W.heap.size 0 k (B : Int) zs W3 (HR3.out.less (by rw [HZl.out]; omega)) (HS.out.row.later hk3) (fun z hz => by have := HZb.out z hz; omega) (by rw [HZl.out]; omega) (by rw [HZl.out]; omega) (by omega) (by omega)
        rw [HZl.out] at had
        clear hJ3 hk3 hy hR
        gi_wp2_with fail
        refine ⟨trivial, rfl, ?_⟩
        refine (callsIn_wide.2 had).mono ?_
        clear had
        rintro e w4 (⟨hn, rfl, hb4⟩ | ⟨ys, kk, n, f, w5, hn, rfl, hrow, hkk, hb5, hn5, hs5⟩)
        · have HO := Lib.hid (show OutI J B (k + 1) W w4 from ⟨⟨pre ++ [(W.heap.size, zs)], HJ.out _ _ _ HJ3.out (hb4.mono hb3.size), by
            rw [← HS.out.eq, chain_last hn]
            simp⟩, HR3.out.later hb4, hb3.trans (hb4.mono hb3.size)⟩)
          clear hn hb4
          gi_wp2_with fail
          go_roundw
          case rel => exact .inl ⟨rfl, HO.out⟩
          case measure => rw [HF.out]; simp [fuelW]; omega
        · obtain ⟨g1, g2⟩ := chain_next HS.out.ends hn
          have hb35 : Below W.heap.size W3 w4 := (hb5.mono hb3.size).trans hs5.below
          have HI := Lib.hid (show SetI J B k j' ys (pre ++ [(W.heap.size, zs)]) W w4 from ⟨HJ.out _ _ _ HJ3.out hb35, by
            rw [← HS.out.eq, g1]
            simp, hs5.room (HR3.out.later hb5), hb3.trans hb35, hrow, by have := HS.out.le; omega, g2, fun xs hx => HS.out.all xs (by rw [g1]; exact List.mem_cons_of_mem _ hx)⟩)
          have HM := Lib.hid (show fuelW B W.heap.size k (.bool true) w4 < fuelW B W.heap.size k (.bool true) wr by
            have h1 := fuelW_of HI.out.row HI.out.ends HI.out.le
            rw [(HI.out.all ys (chain_self HI.out.ends)).1] at h1
            rw [HF.out, h1, g1]
            simp)
          clear hn hb5 hn5 hs5 hrow hkk g1 g2 hb35
          gi_wp2_with fail
          go_roundw
          case rel => exact .inr ⟨rfl, _, _, _, HI.out⟩
          case measure => exact HM.out
end Go.Proofs.Ytldnpnplgfkebaa
