/- SameKnots. -/
import Derived.Test.YtflgdckeinappaaSame2
namespace Go.Proofs.Ytflgdckeinappaa
open Go.RowKit

def EqK (l1 l2 : List (Int × Int × Int)) (w wr : World) (v5 : Value) : Prop := ∃ k : Nat, k ≤ l1.length ∧ v5 = .int .i64 k ∧ (∀ i, i < k → l1[i]? = l2[i]?) ∧ Below w.heap.size w wr
theorem SlK.reads {w : World} {v : Value} {ks : List (Int × Int × Int)} (h : SlK w v ks) :
    ∃ (a : Option Addr) (cap : Nat), v = .slice a ks.length cap ∧ ks.length ≤ 1000000000000 ∧ ∀ (i : Nat) (x y z : Int), ks[i]? = some (x, y, z) → ∃ g o, a = some ⟨g, o, none⟩ ∧ w.cell? ⟨g, o + i * 3, none⟩ = some (.int .i64 x) ∧ w.cell? ⟨g, o + i * 3 + 1, none⟩ = some (.int .i64 y) ∧ w.cell? ⟨g, o + i * 3 + 2, none⟩ = some (.int .i64 z) := by
  rcases h with ⟨rfl, rfl⟩ | ⟨b, off, cap, rfl, hcap, hmax, hb, hcells⟩
  · exact ⟨none, 0, rfl, by simp, fun i x y z e => by simp at e⟩
  · exact ⟨_, cap, rfl, hmax, fun i x y z e => ⟨b, off, rfl, hcells i x y z e⟩⟩
set_option maxHeartbeats 1000000 in
set_option maxRecDepth 1000000 in
theorem sameKnots_any (v1 v2 : Value) (l1 l2 : List (Int × Int × Int)) (w : World) (h1 : SlK w v1 l1) (h2 : SlK w v2 l2) :
    Calls Try.prog 42 #[v1, v2] w fun e w' => e = .returned (.bool (decide (l1 = l2))) ∧ Below w.heap.size w w' := by
  obtain ⟨a1, cap1, rfl, hl1, c1⟩ := h1.reads
  obtain ⟨a2, cap2, rfl, hl2, c2⟩ := h2.reads
  clear h1 h2
  by_cases hl : l1.length = l2.length
  · have C1 := Lib.hid c1
    have C2 := Lib.hid c2
    clear c1 c2
    go_enter Try.func42, Try.ntmps42
    go_wp2_with fail
    go_loopw [5] (fun v5 wr => EqK l1 l2 w wr v5) (fun v5 _ => l1.length - (intOf v5).toNat)
    case atStart => exact ⟨0, by omega, rfl, fun i hi => by omega, Below.refl _ _⟩
    case round =>
      obtain ⟨k, hk, rfl, heq, hbr⟩ := hrel
      by_cases hlt : k < l1.length
      · obtain ⟨x, y, z, hp⟩ : ∃ x y z, l1[k]? = some (x, y, z) := ⟨_, _, _, List.getElem?_eq_getElem (by omega)⟩
        obtain ⟨x', y', z', hq⟩ : ∃ x y z, l2[k]? = some (x, y, z) := ⟨_, _, _, List.getElem?_eq_getElem (by omega)⟩
        obtain ⟨g1, o1, rfl, e0, e1, e2⟩ := C1.out _ _ _ _ hp
        obtain ⟨g2, o2, rfl, f0, f1, f2⟩ := C2.out _ _ _ _ hq
        have e0' := cell_later hbr e0
        have e1' := cell_later hbr e1
        have e2' := cell_later hbr e2
        have f0' := cell_later hbr f0
        have f1' := cell_later hbr f1
        have f2' := cell_later hbr f2
        have HE := Lib.hid heq
        have HP := Lib.hid hp
        have HQ := Lib.hid hq
        have hk0 : (0 : Int) ≤ (k : Int) := by omega
        have hk1 : (k : Int) < (l1.length : Int) := by omega
        have hk2 : (k : Int) < (l2.length : Int) := by omega
        have hm : Try.prog.eqGuardType Try.prog.depth 94 = false := by kernel_rfl
        have hpp : Try.prog.stoodInHeld 94 = false := by kernel_rfl
        have hpq : Try.prog.stoodInHeld 23 = false := by kernel_rfl
        clear heq hp hq e0 e1 e2 f0 f1 f2
        by_cases hx : x = x'
        · subst hx
          have b1 : (x == x) = true := by simp
          by_cases hy : y = y'
          · subst hy
            have b2 : (y == y) = true := by simp
            by_cases hzz : z = z'
            · subst hzz
              have b3 : (z == z) = true := by simp
              go_wp2_with fail
              go_quiet (fail)
              have hbr2 := below_drewN hbr nq
              go_wp2_with fail
              go_roundw
              case rel => exact ⟨k + 1, by omega, by go_num, fun i hi => by
                by_cases e : i = k
                · subst e; rw [HP.out, HQ.out]
                · exact HE.out i (by omega), hbr2⟩
              case measure => simp [intOf]; omega
            · have b3 : (z == z') = false := by simpa using hzz
              have hb : decide (l1 = l2) = false := by simp; intro e; have h := HP.out; rw [e, HQ.out] at h; simp at h; omega
              have HB := Lib.hid hb
              clear hb
              go_wp2_with fail
              go_quiet (fail)
              have hbr2 := below_drewN hbr nq
              go_wp2_with fail
              go_returns
              exact ⟨ret_bool HB.out.symm, hbr2⟩
          · have b2 : (y == y') = false := by simpa using hy
            have hb : decide (l1 = l2) = false := by simp; intro e; have h := HP.out; rw [e, HQ.out] at h; simp at h; omega
            have HB := Lib.hid hb
            clear hb
            go_wp2_with fail
            go_quiet (fail)
            have hbr2 := below_drewN hbr nq
            go_wp2_with fail
            go_returns
            exact ⟨ret_bool HB.out.symm, hbr2⟩
        · have b1 : (x == x') = false := by simpa using hx
          have hb : decide (l1 = l2) = false := by simp; intro e; have h := HP.out; rw [e, HQ.out] at h; simp at h; omega
          have HB := Lib.hid hb
          clear hb
          go_wp2_with fail
          go_quiet (fail)
          have hbr2 := below_drewN hbr nq
          go_wp2_with fail
          go_returns
          exact ⟨ret_bool HB.out.symm, hbr2⟩
      · obtain rfl : k = l1.length := by omega
        have hb : decide (l1 = l2) = true := by
          simp
          apply List.ext_getElem?
          intro i
          by_cases hi : i < l1.length
          · exact heq i hi
          · rw [List.getElem?_eq_none (by omega), List.getElem?_eq_none (by omega)]
        have HB := Lib.hid hb
        clear hb heq
        go_wp2_with fail
        go_returns
        exact ⟨ret_bool HB.out.symm, hbr⟩
  · have hb : decide (l1 = l2) = false := by simp; intro e; exact hl (by rw [e])
    rw [hb]
    clear c1 c2
    go_enter Try.func42, Try.ntmps42
    have hne : ((l1.length : Int) != (l2.length : Int)) = true := by simp; omega
    go_wp2_with fail
    go_returns
    exact ⟨rfl, Below.refl _ _⟩
end Go.Proofs.Ytflgdckeinappaa
