/- Package trim: worst, most, ends. -/
import Derived.Test.YtldnpnplgfkebaaTMax
namespace Go.Proofs.Ytldnpnplgfkebaa
open Go.RowKit

/-- worst's two spans, in boxes of their own. -/
def WoC (w wy : World) (v5 v6 : Value) (a b : Int) (l : Ld) : Prop := ∃ n5 n6 : Nat, v5 = .pointer (some ⟨n5, 0, none⟩) ∧ v6 = .pointer (some ⟨n6, 0, none⟩) ∧ Below w.heap.size w wy ∧ Two2 wy n5 l.a0 l.a1 ∧ Two2 wy n6 l.w0 l.w1 ∧ Two2 wy w.heap.size a b ∧ Box2 wy (w.heap.size + 1 + 1) 0 0
set_option maxHeartbeats 4000000 in
theorem worst_any (a b : Int) (l : Ld) (w : World) (hs : ScB a b) (hl : LdB l) :
    Calls Try.prog 67 #[sp a b, ldV l] w fun e w' => e = .returned (puV (worstP a b l)) ∧ Below w.heap.size w w' := by
  obtain ⟨P, hP⟩ : ∃ P, worstP a b l = P := ⟨_, rfl⟩
  rw [hP]
  have HP := Lib.hid hP
  have HS := Lib.hid hs
  have HL := Lib.hid hl
  clear hP hs hl
  have hmf := makeFunc_run
  go_enter Try.func67, Try.ntmps67
  go_wp2_with fail
  go_cut [5, 6] from 8 to 12 (fun v5 v6 wy => WoC w wy v5 v6 a b l)
  case first =>
    go_region
    all_goals go_wp2_with fail
    all_goals (go_meet; case rel => exact ⟨_, _, rfl, rfl, by go_grown, ⟨by go_cell, by go_cell⟩, ⟨by go_cell, by go_cell⟩, ⟨by go_cell, by go_cell⟩, ⟨by go_cell, by go_cell, by go_cell, by go_cell⟩⟩)
  case rest =>
    obtain ⟨n5, n6, rfl, rfl, hB, k5, k6, ks, kr⟩ := hcut
    generalize wc = wr at *
    obtain ⟨a0, a1⟩ := k5
    obtain ⟨b0, b1⟩ := k6
    have q1 := World.block_lt_of_cell? _ _ a0
    have q2 := World.block_lt_of_cell? _ _ b0
    have HK := Lib.hid ks
    have HR := Lib.hid kr
    have HB := Lib.hid hB
    have hsz := hB.size
    clear ks kr
    go_wp2_with fail
    refine (maxFunc_any w.heap.size _ 0 a b ⟨l.a0, l.w0⟩ [⟨l.a1, l.w0⟩, ⟨l.a0, l.w1⟩, ⟨l.a1, l.w1⟩] _ (by simp) (by simp) (HK.out.later (by go_grown)) HS.out (fun p hp => corner_bound HL.out p hp) ?_).mono ?_
    · intro i c hi
      rcases i with _ | _ | _ | _ | i
      · simp at hi; subst hi; exact ⟨by go_cell, by go_cell⟩
      · simp at hi; subst hi; exact ⟨by go_cell, by go_cell⟩
      · simp at hi; subst hi; exact ⟨by go_cell, by go_cell⟩
      · simp at hi; subst hi; exact ⟨by go_cell, by go_cell⟩
      · simp at hi
    rintro e w1 ⟨rfl, hb1⟩
    rw [show List.foldl (betterP a b) ⟨l.a0, l.w0⟩ [⟨l.a1, l.w0⟩, ⟨l.a0, l.w1⟩, ⟨l.a1, l.w1⟩] = P from HP.out]
    have hb2 : Below wr.heap.size wr w1 := two (by go_grown) hb1
    have hB2 : Below w.heap.size w w1 := HB.out.trans (hb2.mono HB.out.size)
    obtain ⟨r0, r1, rf0, rf1⟩ := HR.out.later hb2
    clear hb1 hb2 hB a0 a1 b0 b1
    go_wp2_with fail
    exact bodyPost_ret (v := puV P) (by simp [results, Try.results67, go_sem, *]) rfl ⟨rfl, by go_grown⟩
end Go.Proofs.Ytldnpnplgfkebaa
