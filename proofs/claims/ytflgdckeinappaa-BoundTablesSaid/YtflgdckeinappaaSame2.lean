/- SameSpans. -/
import Derived.Test.YtflgdckeinappaaRJoin
import Derived.Laws.StructEq
import Derived.Deep.RegionHeld3
namespace Go.Proofs.Ytflgdckeinappaa
open Go.RowKit

/-- A slice of spans, as it is read. -/
def SpC (w : World) (v : Value) (l : List (Int × Int)) : Prop :=
  ∃ (a : Option Addr) (cap : Nat), v = .slice a l.length cap ∧ ∀ (i : Nat) (x y : Int), l[i]? = some (x, y) → ∃ g, a = some ⟨g, 0, none⟩ ∧ w.cell? ⟨g, i * 2, none⟩ = some (.int .i64 x) ∧ w.cell? ⟨g, i * 2 + 1, none⟩ = some (.int .i64 y)
theorem SpC.of {w : World} {B : Nat} {v : Value} {l : List (Int × Int)} (h : w.ownsRow B 23 2 v l.length (spV l)) : SpC w v l := by
  rcases Go.Joins.ownsRow_forms h with ⟨rfl, h0⟩ | ⟨g, cap, rfl⟩
  · obtain rfl : l = [] := by simpa using h0
    exact ⟨none, 0, rfl, fun i x y e => by simp at e⟩
  · refine ⟨some ⟨g, 0, none⟩, cap, rfl, fun i x y e => ⟨g, rfl, ?_, ?_⟩⟩
    · rw [h.cellAt _ (by have := (List.getElem?_eq_some_iff.1 e).1; omega)]; exact (spV_get _ _ _ _ e).1
    · rw [h.cellAt _ (by have := (List.getElem?_eq_some_iff.1 e).1; omega)]; exact (spV_get _ _ _ _ e).2

def EqTo (l1 l2 : List (Int × Int)) (w wr : World) (v5 : Value) : Prop := ∃ k : Nat, k ≤ l1.length ∧ v5 = .int .i64 k ∧ (∀ i, i < k → l1[i]? = l2[i]?) ∧ Below w.heap.size w wr
set_option maxHeartbeats 1000000 in
set_option maxRecDepth 1000000 in
theorem sameSpans_any (v1 v2 : Value) (l1 l2 : List (Int × Int)) (w : World) (h1 : SpC w v1 l1) (h2 : SpC w v2 l2) (hl1 : l1.length ≤ 1000) :
    Calls Try.prog 41 #[v1, v2] w fun e w' => e = .returned (.bool (decide (l1 = l2))) ∧ Below w.heap.size w w' := by
  obtain ⟨a1, cap1, rfl, c1⟩ := h1
  obtain ⟨a2, cap2, rfl, c2⟩ := h2
  by_cases hl : l1.length = l2.length
  · have C1 := Lib.hid c1
    have C2 := Lib.hid c2
    clear c1 c2
    go_enter Try.func41, Try.ntmps41
    go_wp2_with fail
    go_loopw [5] (fun v5 wr => EqTo l1 l2 w wr v5) (fun v5 _ => l1.length - (intOf v5).toNat)
    case atStart => exact ⟨0, by omega, rfl, fun i hi => by omega, Below.refl _ _⟩
    case round =>
      obtain ⟨k, hk, rfl, heq, hbr⟩ := hrel
      by_cases hlt : k < l1.length
      · obtain ⟨x, y, hp⟩ : ∃ x y, l1[k]? = some (x, y) := ⟨_, _, List.getElem?_eq_getElem (by omega)⟩
        obtain ⟨x', y', hq⟩ : ∃ x y, l2[k]? = some (x, y) := ⟨_, _, List.getElem?_eq_getElem (by omega)⟩
        obtain ⟨g1, rfl, e0, e1⟩ := C1.out _ _ _ hp
        obtain ⟨g2, rfl, f0, f1⟩ := C2.out _ _ _ hq
        have e0' := cell_later hbr e0
        have e1' := cell_later hbr e1
        have f0' := cell_later hbr f0
        have f1' := cell_later hbr f1
        have HE := Lib.hid heq
        have HP := Lib.hid hp
        have HQ := Lib.hid hq
        have hk0 : (0 : Int) ≤ (k : Int) := by omega
        have hk1 : (k : Int) < (l1.length : Int) := by omega
        have hk2 : (k : Int) < (l2.length : Int) := by omega
        have hm : Try.prog.eqGuardType Try.prog.depth 23 = false := by kernel_rfl
        have hpp : Try.prog.stoodInHeld 23 = false := by kernel_rfl
        clear heq hp hq e0 e1 f0 f1
        by_cases hx : x = x'
        · subst hx
          by_cases hy : y = y'
          · subst hy
            have b1 : (x == x) = true := by simp
            have b2 : (y == y) = true := by simp
            go_wp2_with fail
            go_quiet (fail)
            have hbr2 := below_drewN hbr nq
            go_wp2_with fail
            go_roundw
            case rel => exact ⟨k + 1, by omega, by go_num, fun i hi => by
              by_cases e : i = k
              · subst e; rw [HP.out, HQ.out]
              · exact HE.out i (by omega), hbr2⟩
            case measure => simp [intOf]; omega
          · have b2 : (y == y') = false := by simpa using hy
            have hb : decide (l1 = l2) = false := by simp; intro e; have h := HP.out; rw [e, HQ.out] at h; simp at h; omega
            have HB := Lib.hid hb
            clear hb
            go_wp2_with fail
            go_quiet (fail)
            have hbr2 := below_drewN hbr nq
            go_wp2_with fail
            go_returns
            exact ⟨ret_bool HB.out.symm, hbr2⟩
        · have b1 : (x == x') = false := by simpa using hx
          have hb : decide (l1 = l2) = false := by simp; intro e; have h := HP.out; rw [e, HQ.out] at h; simp at h; omega
          have HB := Lib.hid hb
          clear hb
          go_wp2_with fail
          go_quiet (fail)
          have hbr2 := below_drewN hbr nq
          go_wp2_with fail
          go_returns
          exact ⟨ret_bool HB.out.symm, hbr2⟩
      · obtain rfl : k = l1.length := by omega
        have hb : decide (l1 = l2) = true := by
          simp
          apply List.ext_getElem?
          intro i
          by_cases hi : i < l1.length
          · exact heq i hi
          · rw [List.getElem?_eq_none (by omega), List.getElem?_eq_none (by omega)]
        have HB := Lib.hid hb
        clear hb heq
        go_wp2_with fail
        go_returns
        exact ⟨ret_bool HB.out.symm, hbr⟩
  · have hb : decide (l1 = l2) = false := by simp; intro e; exact hl (by rw [e])
    rw [hb]
    clear c1 c2
    go_enter Try.func41, Try.ntmps41
    have hne : ((l1.length : Int) != (l2.length : Int)) = true := by simp; omega
    go_wp2_with fail
    go_returns
    exact ⟨rfl, Below.refl _ _⟩
end Go.Proofs.Ytflgdckeinappaa
