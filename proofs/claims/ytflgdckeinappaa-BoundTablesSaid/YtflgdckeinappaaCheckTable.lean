/- CheckTable. -/
import Derived.Test.YtflgdckeinappaaLines
namespace Go.Proofs.Ytflgdckeinappaa
open Go.RowKit

/-- The knots in memory. -/
def knotCells (w : World) (b off : Nat) (ks : List (Int × Int × Int)) : Prop := ∀ (i : Nat) (a l h : Int), ks[i]? = some (a, l, h) →
  w.cell? ⟨b, off + i * 3, none⟩ = some (.int .i64 a) ∧ w.cell? ⟨b, off + i * 3 + 1, none⟩ = some (.int .i64 l) ∧ w.cell? ⟨b, off + i * 3 + 2, none⟩ = some (.int .i64 h)
/-- A slice value that holds these knots. -/
def SlK (w : World) (v : Value) (ks : List (Int × Int × Int)) : Prop :=
  (ks = [] ∧ v = .slice none 0 0) ∨ ∃ (b off cap : Nat), v = .slice (some ⟨b, off, none⟩) ks.length cap ∧ ks.length ≤ cap ∧ ks.length ≤ 1000000000000 ∧ b < w.heap.size ∧ knotCells w b off ks
theorem knotCells.later {W w1 : World} {b off : Nat} {ks : List (Int × Int × Int)} (h : knotCells W b off ks) (hb : Below W.heap.size W w1) : knotCells w1 b off ks := fun i a l h' e => by
  obtain ⟨x, y, z⟩ := h i a l h' e
  exact ⟨cell_later hb x, cell_later hb y, cell_later hb z⟩
theorem SlK.later {W w1 : World} {v : Value} {ks : List (Int × Int × Int)} (h : SlK W v ks) (hb : Below W.heap.size W w1) : SlK w1 v ks := by
  rcases h with h | ⟨b, off, cap, h1, h2, h3, h4, h5⟩
  · exact .inl h
  · exact .inr ⟨b, off, cap, h1, h2, h3, by have := hb.size; omega, h5.later hb⟩

def knotOK (k : Int × Int × Int) : Bool := !beyondB k.1 1073741824 && (!beyondB k.2.1 1073741824 && (!beyondB k.2.2 1073741824 && decide (k.2.1 ≤ k.2.2)))
def atOf (ks : List (Int × Int × Int)) (j : Nat) : Int := (ks.getD j (0, 0, 0)).1
/-- Knot j is in its ranges, and behind the one before. -/
def okAt (ks : List (Int × Int × Int)) (j : Nat) : Bool := knotOK (ks.getD j (0, 0, 0)) && (j == 0 || decide (atOf ks (j - 1) < atOf ks j))
def okTo (ks : List (Int × Int × Int)) (n : Nat) : Bool := (List.range n).all (okAt ks)
theorem okTo_succ (ks : List (Int × Int × Int)) (n : Nat) : okTo ks (n + 1) = (okTo ks n && okAt ks n) := by
  unfold okTo; rw [List.range_succ, List.all_append]; simp
theorem okTo_bad {ks : List (Int × Int × Int)} {k n : Nat} (h : okAt ks k = false) (hk : k < n) : okTo ks n = false := by
  unfold okTo; rw [List.all_eq_false]; exact ⟨k, List.mem_range.2 hk, by simp [h]⟩
def tableB (ks : List (Int × Int × Int)) : Bool := decide (2 ≤ ks.length) && (decide (ks.length ≤ 32) && okTo ks ks.length)
def tabN (ks : List (Int × Int × Int)) : Int := if tableB ks then 0 else 13
theorem tabN_yes {ks : List (Int × Int × Int)} (h : tableB ks = true) : tabN ks = 0 := by unfold tabN; rw [if_pos h]
theorem tabN_no {ks : List (Int × Int × Int)} (h : tableB ks = false) : tabN ks = 13 := by unfold tabN; rw [if_neg (by simp [h])]

theorem getD_is {ks : List (Int × Int × Int)} {k : Nat} {x : Int × Int × Int} (h : ks[k]? = some x) : ks.getD k (0, 0, 0) = x := by rw [List.getD_eq_getElem?_getD, h]; rfl

set_option maxHeartbeats 2000000 in
theorem checkTable_any (v : Value) (ks : List (Int × Int × Int)) (w : World) (hs : SlK w v ks) :
    Calls Try.prog 39 #[v] w fun e w' => e = .returned (.int .i64 (tabN ks)) ∧ Below w.heap.size w w' := by
  rcases hs with ⟨rfl, rfl⟩ | ⟨b, off, cap, rfl, hcap, hmax, hb, hc⟩
  · go_enter Try.func39, Try.ntmps39
    go_wp2
    go_returns
    exact ⟨rfl, Below.refl _ _⟩
  by_cases h2 : ks.length < 2
  · go_enter Try.func39, Try.ntmps39
    go_wp2
    go_returns
    exact ⟨ret_int (by rw [tabN_no (by unfold tableB; simp; omega)]), Below.refl _ _⟩
  by_cases h32 : 32 < ks.length
  · go_enter Try.func39, Try.ntmps39
    go_wp2
    go_returns
    exact ⟨ret_int (by rw [tabN_no (by unfold tableB; simp; omega)]), Below.refl _ _⟩
  go_enter Try.func39, Try.ntmps39
  go_wp2_with fail
  go_loopw [15] (fun v15 wr => ∃ k : Nat, k ≤ ks.length ∧ v15 = .int .i64 k ∧ okTo ks k = true ∧ Below w.heap.size w wr) (fun v15 _ => ks.length - (intOf v15).toNat)
  case atStart => exact ⟨0, Nat.zero_le _, rfl, rfl, Below.refl _ _⟩
  case round =>
    obtain ⟨k, hk, rfl, hv, hbw⟩ := hrel
    have Hv := Lib.hid hv
    clear hv
    by_cases hlt : k < ks.length
    · obtain ⟨a, l, h, hs⟩ : ∃ a l h, ks[k]? = some (a, l, h) := ⟨_, _, _, List.getElem?_eq_getElem hlt⟩
      have HD := Lib.hid (getD_is hs)
      obtain ⟨c0, c1, c2⟩ := hc k a l h hs
      rw [← hbw.cell (by simpa using hb)] at c0 c1 c2
      have hk0 : (0 : Int) ≤ k := by omega
      have hbr : b < wr.heap.size := by have := hbw.size; omega
      have hp : k = 0 ∨ ∃ a' : Int, 1 ≤ k ∧ atOf ks (k - 1) = a' ∧ wr.cell? ⟨b, off + (k - 1) * 3, none⟩ = some (.int .i64 a') := by
        by_cases h0 : k = 0
        · exact .inl h0
        · obtain ⟨a', l', h', hs'⟩ : ∃ a l h, ks[k - 1]? = some (a, l, h) := ⟨_, _, _, List.getElem?_eq_getElem (by omega)⟩
          refine .inr ⟨a', by omega, ?_, ?_⟩
          · unfold atOf; rw [getD_is hs']
          · rw [hbw.cell (by simpa using hb)]; exact (hc (k - 1) a' l' h' hs').1
      have HP := Lib.hid hp
      clear hs hc hp
      have hws := hbw.size
      have BAD : okAt ks k = false → tabN ks = 13 := fun hh => tabN_no (by unfold tableB; rw [okTo_bad hh hlt]; simp)
      have HB := Lib.hid BAD
      clear BAD
      go_wp2_with fail
      refine (beyond_any _ _ _ (by omega) (by omega)).mono ?_
      rintro e w1 ⟨rfl, rfl⟩
      cases x1 : beyondB a 1073741824
      · skip
        go_wp2_with fail
        refine (beyond_any _ _ _ (by omega) (by omega)).mono ?_
        rintro e w1 ⟨rfl, rfl⟩
        cases x2 : beyondB l 1073741824
        · skip
          go_wp2_with fail
          refine (beyond_any _ _ _ (by omega) (by omega)).mono ?_
          rintro e w1 ⟨rfl, rfl⟩
          cases x3 : beyondB h 1073741824
          · skip
            by_cases x4 : l ≤ h
            · rcases HP.out with h0 | ⟨a', h1, h2', h3⟩
              · have hg : decide ((0 : Int) < k) = false := by simp; omega
                have GOOD : okAt ks k = true := by unfold okAt knotOK; rw [HD.out]; simp [x1, x2, x3, x4, h0]
                have HG := Lib.hid GOOD
                clear GOOD
                go_wp2_with fail
                go_quiet (fail)
                go_wp2_with fail
                go_roundw
                case rel => exact ⟨k + 1, by omega, by go_num, by rw [okTo_succ, Hv.out, HG.out]; rfl, below_drewN (by go_grown) _⟩
                case measure => simp [intOf]; omega
              · have hk1 : (1 : Int) ≤ k := by omega
                have hg : decide (0 < k) = true := by simp; omega
                have g1 : (0 : Int) ≤ (k : Int) - 1 := by omega
                have g2 : (k : Int) - 1 < (ks.length : Int) := by omega
                have g3 : IntKind.i64.wrap ((k : Int) - 1) = (k : Int) - 1 := IntWalk.i64_in _ ⟨by omega, by omega⟩
                have g4 : ((k : Int) - 1).toNat = k - 1 := by omega
                have hnb : b ≠ wr.heap.size := by omega
                have HA := Lib.hid h2'
                clear h2'
                by_cases x5 : a ≤ a'
                · go_wp2_with fail
                  go_quiet (fail)
                  go_wp2_with fail
                  go_returns
                  exact ⟨ret_int (by rw [HB.out (by unfold okAt; rw [HA.out]; unfold atOf; rw [HD.out]; simp; omega)]), below_drewN (by go_grown) _⟩
                · have GOOD : okAt ks k = true := by unfold okAt knotOK; rw [HA.out]; unfold atOf; rw [HD.out]; simp [x1, x2, x3, x4]; omega
                  have HG := Lib.hid GOOD
                  clear GOOD
                  go_wp2_with fail
                  go_quiet (fail)
                  go_wp2_with fail
                  go_roundw
                  case rel => exact ⟨k + 1, by omega, by go_num, by rw [okTo_succ, Hv.out, HG.out]; rfl, below_drewN (by go_grown) _⟩
                  case measure => simp [intOf]; omega
            · go_wp2_with fail
              go_returns
              exact ⟨ret_int (by rw [HB.out (by unfold okAt knotOK; rw [HD.out]; simp [x1, x2, x3]; omega)]), by go_grown⟩
          · go_wp2_with fail
            go_returns
            exact ⟨ret_int (by rw [HB.out (by unfold okAt knotOK; rw [HD.out]; simp [x1, x2, x3])]), by go_grown⟩
        · go_wp2_with fail
          go_returns
          exact ⟨ret_int (by rw [HB.out (by unfold okAt knotOK; rw [HD.out]; simp [x1, x2])]), by go_grown⟩
      · go_wp2_with fail
        go_returns
        exact ⟨ret_int (by rw [HB.out (by unfold okAt knotOK; rw [HD.out]; simp [x1])]), by go_grown⟩
    · clear hc
      have hkl : k = ks.length := by omega
      have GOOD : tableB ks = true := by have := Hv.out; rw [hkl] at this; unfold tableB; rw [this]; simp; omega
      have HG := Lib.hid GOOD
      clear GOOD hkl
      go_wp2_with fail
      go_returns
      exact ⟨ret_int (by rw [tabN_yes HG.out]), hbw⟩

end Go.Proofs.Ytflgdckeinappaa
