/- The reference's Table and CheckTable. -/
import Derived.Test.YtflgdckeinappaaCheckTable
namespace Go.Proofs.Ytflgdckeinappaa
open Go.RowKit

set_option linter.unusedSimpArgs false in
set_option maxHeartbeats 4000000 in
theorem rtable_any (v : Value) (ks : List (Int × Int × Int)) (w : World) (hs : SlK w v ks) :
    Calls Try.prog 81 #[v] w fun e w' => e = .returned (.bool (tableB ks)) ∧ Below w.heap.size w w' := by
  by_cases hlen : 2 ≤ ks.length ∧ ks.length ≤ 32
  · rcases hs with ⟨e1, _⟩ | ⟨b, off, cap, rfl, hcap, hmax, hb, hc⟩
    · rw [e1] at hlen; simp at hlen
    obtain ⟨h2, h32⟩ := hlen
    go_enter Try.func81, Try.ntmps81
    go_wp2_with fail
    refine (rwithin_any _ _ _ _).mono ?_
    rintro e w1 ⟨rfl, rfl⟩
    have hd : decide ((2 : Int) ≤ (ks.length : Int) ∧ (ks.length : Int) ≤ 32) = true := by simp; omega
    rw [hd]
    clear hd
    go_wp2_with fail
    go_loopw [3] (fun v3 wr => ∃ k : Nat, k ≤ ks.length ∧ v3 = .int .i64 k ∧ okTo ks k = true ∧ Below w.heap.size w wr) (fun v3 _ => ks.length - (intOf v3).toNat)
    case atStart => exact ⟨0, Nat.zero_le _, rfl, rfl, Below.refl _ _⟩
    case round =>
      obtain ⟨k, hk, rfl, hv, hbw⟩ := hrel
      have Hv := Lib.hid hv
      clear hv
      by_cases hlt : k < ks.length
      · obtain ⟨a, l, h, hs⟩ : ∃ a l h, ks[k]? = some (a, l, h) := ⟨_, _, _, List.getElem?_eq_getElem hlt⟩
        have HD := Lib.hid (getD_is hs)
        obtain ⟨c0, c1, c2⟩ := hc k a l h hs
        rw [← hbw.cell (by simpa using hb)] at c0 c1 c2
        have hk0 : (0 : Int) ≤ k := by omega
        have hk1 : (k : Int) < (ks.length : Int) := by omega
        have hbr : b < wr.heap.size := by have := hbw.size; omega
        have hp : k = 0 ∨ ∃ a' : Int, 1 ≤ k ∧ atOf ks (k - 1) = a' ∧ wr.cell? ⟨b, off + (k - 1) * 3, none⟩ = some (.int .i64 a') := by
          by_cases h0 : k = 0
          · exact .inl h0
          · obtain ⟨a', l', h', hs'⟩ : ∃ a l h, ks[k - 1]? = some (a, l, h) := ⟨_, _, _, List.getElem?_eq_getElem (by omega)⟩
            refine .inr ⟨a', by omega, ?_, ?_⟩
            · unfold atOf; rw [getD_is hs']
            · rw [hbw.cell (by simpa using hb)]; exact (hc (k - 1) a' l' h' hs').1
        have HP := Lib.hid hp
        clear hs hc hp
        have hws := hbw.size
        have BAD : okAt ks k = false → tableB ks = false := fun hh => by unfold tableB; rw [okTo_bad hh hlt]; simp
        have HB := Lib.hid BAD
        clear BAD
        by_cases x1 : -1073741824 ≤ a ∧ a ≤ 1073741824
        · have d1 : decide (-1073741824 ≤ a ∧ a ≤ 1073741824) = true := by simpa using x1
          by_cases x2 : -1073741824 ≤ l ∧ l ≤ h
          · have d2 : decide (-1073741824 ≤ l ∧ l ≤ h) = true := by simpa using x2
            by_cases x3 : l ≤ h ∧ h ≤ 1073741824
            · have d3 : decide (l ≤ h ∧ h ≤ 1073741824) = true := by simpa using x3
              rcases HP.out with h0 | ⟨a', h1, h2', h3⟩
              · have hg : decide (0 < k) = false := by simp; omega
                have GOOD : okAt ks k = true := by unfold okAt knotOK beyondB; rw [HD.out]; simp [h0]; omega
                have HG := Lib.hid GOOD
                clear GOOD x1 x2 x3 h0
                go_wp2_with fail
                go_quiet ((go_at_call 83; exact Calls.quiet_of_same ((rwithin_any _ _ _ _).mono fun _ _ ⟨he, hw⟩ => ⟨he, hw.symm⟩)))
                go_wp2_with fail
                go_roundw
                case rel => exact ⟨k + 1, by omega, by go_num, by rw [okTo_succ, Hv.out, HG.out]; rfl, below_drewN (by go_grown) _⟩
                case measure => simp [intOf]; omega
              · have hk2 : (1 : Int) ≤ k := by omega
                have hg : decide (0 < k) = true := by simp; omega
                have g1 : (0 : Int) ≤ (k : Int) - 1 := by omega
                have g2 : (k : Int) - 1 < (ks.length : Int) := by omega
                have g3 : IntKind.i64.wrap ((k : Int) - 1) = (k : Int) - 1 := IntWalk.i64_in _ ⟨by omega, by omega⟩
                have g4 : ((k : Int) - 1).toNat = k - 1 := by omega
                have hnb : b ≠ wr.heap.size := by omega
                have HA := Lib.hid h2'
                clear h2'
                by_cases x5 : a ≤ a'
                · have HBad := Lib.hid (HB.out (by unfold okAt; rw [HA.out]; unfold atOf; rw [HD.out]; simp; omega))
                  clear HB x1 x2 x3
                  go_wp2_with fail
                  go_quiet ((go_at_call 83; exact Calls.quiet_of_same ((rwithin_any _ _ _ _).mono fun _ _ ⟨he, hw⟩ => ⟨he, hw.symm⟩)))
                  go_wp2_with fail
                  go_returns
                  exact ⟨ret_bool HBad.out.symm, below_drewN (by go_grown) _⟩
                · have GOOD : okAt ks k = true := by unfold okAt knotOK beyondB; rw [HA.out]; unfold atOf; rw [HD.out]; simp; omega
                  have HG := Lib.hid GOOD
                  clear GOOD x1 x2 x3
                  go_wp2_with fail
                  go_quiet ((go_at_call 83; exact Calls.quiet_of_same ((rwithin_any _ _ _ _).mono fun _ _ ⟨he, hw⟩ => ⟨he, hw.symm⟩)))
                  go_wp2_with fail
                  go_roundw
                  case rel => exact ⟨k + 1, by omega, by go_num, by rw [okTo_succ, Hv.out, HG.out]; rfl, below_drewN (by go_grown) _⟩
                  case measure => simp [intOf]; omega
            · have d3 : decide (l ≤ h ∧ h ≤ 1073741824) = false := decide_eq_false x3
              have d4 : decide (h ≤ 1073741824) = false := decide_eq_false (fun h' => x3 ⟨x2.2, h'⟩)
              have HBad := Lib.hid (HB.out (by unfold okAt knotOK beyondB; rw [HD.out]; simp; omega))
              clear HB
              go_wp2_with fail
              go_quiet ((go_at_call 83; exact Calls.quiet_of_same ((rwithin_any _ _ _ _).mono fun _ _ ⟨he, hw⟩ => ⟨he, hw.symm⟩)))
              go_wp2_with fail
              go_returns
              exact ⟨ret_bool HBad.out.symm, below_drewN (by go_grown) _⟩
          · have d2 : decide (-1073741824 ≤ l ∧ l ≤ h) = false := decide_eq_false x2
            have HBad := Lib.hid (HB.out (by unfold okAt knotOK beyondB; rw [HD.out]; simp; omega))
            clear HB
            go_wp2_with fail
            go_quiet ((go_at_call 83; exact Calls.quiet_of_same ((rwithin_any _ _ _ _).mono fun _ _ ⟨he, hw⟩ => ⟨he, hw.symm⟩)))
            go_wp2_with fail
            go_returns
            exact ⟨ret_bool HBad.out.symm, below_drewN (by go_grown) _⟩
        · have d1 : decide (-1073741824 ≤ a ∧ a ≤ 1073741824) = false := decide_eq_false x1
          have HBad := Lib.hid (HB.out (by unfold okAt knotOK beyondB; rw [HD.out]; simp; omega))
          clear HB
          go_wp2_with fail
          go_quiet ((go_at_call 83; exact Calls.quiet_of_same ((rwithin_any _ _ _ _).mono fun _ _ ⟨he, hw⟩ => ⟨he, hw.symm⟩)))
          go_wp2_with fail
          go_returns
          exact ⟨ret_bool HBad.out.symm, below_drewN (by go_grown) _⟩
      · clear hc
        have hkl : k = ks.length := by omega
        have GOOD : tableB ks = true := by have := Hv.out; rw [hkl] at this; unfold tableB; rw [this]; simp; omega
        have HG := Lib.hid GOOD
        clear GOOD hkl
        go_wp2_with fail
        go_returns
        exact ⟨ret_bool HG.out.symm, hbw⟩
  · have hno : tableB ks = false := by unfold tableB; simp; omega
    rw [hno]
    have hl : ∃ (a : Option Addr) (cap : Nat), v = .slice a ks.length cap ∧ ks.length ≤ 1000000000000 := by
      rcases hs with ⟨rfl, rfl⟩ | ⟨b, off, cap, rfl, hcap, hmax, hb, hc⟩
      · exact ⟨_, _, rfl, by simp⟩
      · exact ⟨_, _, rfl, hmax⟩
    obtain ⟨a, cap, rfl, hmax⟩ := hl
    go_enter Try.func81, Try.ntmps81
    go_wp2_with fail
    refine (rwithin_any _ _ _ _).mono ?_
    rintro e w1 ⟨rfl, rfl⟩
    have hd : decide ((2 : Int) ≤ (ks.length : Int) ∧ (ks.length : Int) ≤ 32) = false := decide_eq_false (by omega)
    rw [hd]
    go_wp2_with fail
    go_returns
    exact ⟨rfl, Below.refl _ _⟩

set_option maxHeartbeats 1000000 in
theorem rcheckTable_any (v : Value) (ks : List (Int × Int × Int)) (w : World) (hs : SlK w v ks) :
    Calls Try.prog 40 #[v] w fun e w' => e = .returned (.int .i64 (tabN ks)) ∧ Below w.heap.size w w' := by
  have H := Lib.hid (rtable_any v ks w hs)
  have HN : Hid (tabN ks = if tableB ks then 0 else 13) := Lib.hid rfl
  clear hs
  go_enter Try.func40, Try.ntmps40
  go_wp2_with fail
  refine H.out.mono ?_
  rintro e w1 ⟨rfl, hb1⟩
  obtain ⟨u, hu⟩ : ∃ u, tableB ks = u := ⟨_, rfl⟩
  rw [hu] at HN ⊢
  clear H hu
  cases u
  all_goals
    go_wp2_with fail
    go_returns
    exact ⟨ret_int HN.out.symm, hb1⟩
end Go.Proofs.Ytflgdckeinappaa
