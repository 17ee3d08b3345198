/- Package trim: choose, whose row is new. -/
import Derived.Test.YtldnpnplgfkebaaTWo
namespace Go.Proofs.Ytldnpnplgfkebaa
open Go.RowKit

/-- What choose returns: a row of its own. -/
def ChQ (n : Nat) (ps : List Pu) (w : World) (e : Ending) (w' : World) : Prop := ∃ g : Nat, w.heap.size ≤ g ∧ e = .returned (.slice (some ⟨g, 0, none⟩) n n) ∧ SlPu w' (.slice (some ⟨g, 0, none⟩) n n) ps ∧ Below w.heap.size w w'
theorem SlPu.far {w : World} {g n c B o : Nat} {ps : List Pu} (h : SlPu w (.slice (some ⟨g, 0, none⟩) n c) ps) (hne : g ≠ B) (v : Value) : SlPu (w.setCell ⟨B, o, none⟩ v) (.slice (some ⟨g, 0, none⟩) n c) ps := by
  rcases h with ⟨_, h⟩ | ⟨b, off, cap, h1, h2, h3, h4, h5⟩
  · cases h
  · injection h1 with e1 e2 e3
    injection e1 with e1
    injection e1 with e1 e4
    subst e1 e4 e2 e3
    exact .inr ⟨_, _, _, rfl, h2, h3, by simpa using h4, fun i p e => ⟨by rw [cell_far _ _ hne]; exact (h5 i p e).c0, by rw [cell_far _ _ hne]; exact (h5 i p e).c1⟩⟩
set_option maxHeartbeats 2000000 in
theorem choose_q (a b : Int) (v : Value) (ls : List Ld) (w : World) (hv : SlLd w v ls) (h50 : ls.length ≤ 50) (hs : ScB a b) (hl : ∀ l, l ∈ ls → LdB l) :
    Calls Try.prog 66 #[v, .func (.func 67) #[sp a b] #[]] w (ChQ ls.length (ls.map (worstP a b)) w) := by
  obtain ⟨ad, cap, rfl, hlen, hcap⟩ := hv.form
  have HV := Lib.hid hv
  have HS := Lib.hid hs
  have HL := Lib.hid hl
  clear hv hs hl
  have hmk := make_puts ls.length (by omega)
  go_enter Try.func66, Try.ntmps66
  go_wp2_with fail
  go_loopw [13] (fun v13 wr => ChHead a b ls w wr v13) (fun v13 _ => ls.length - (intOf v13).toNat)
  case atStart => exact ⟨0, by omega, rfl, MadeTo.start _ _ _, by go_grown⟩
  case round =>
    obtain ⟨k, hk, rfl, hm, hbr⟩ := hrel
    have HM := Lib.hid hm
    clear hm hmk
    by_cases hlt : k < ls.length
    · obtain ⟨bk, off, c, rfl, hb, hc, hat⟩ := HV.out.at hlt
      obtain ⟨c0, c1, c2, c3⟩ := LdAt.later hat (show Below w.heap.size w wr from hbr)
      have hlt' : (k : Int) < (ls.length : Int) := by omega
      have hk0 : (0 : Int) ≤ (k : Int) := by omega
      have HC := Lib.hid (show ls.getD k default = c by rw [List.getD_eq_getElem?_getD, hc]; rfl)
      have HLc := Lib.hid (HL.out c (List.mem_of_getElem? hc))
      have hz := HM.out.lt
      clear hc hat
      obtain ⟨P, hP⟩ : ∃ P, worstP a b c = P := ⟨_, rfl⟩
      have HP := Lib.hid hP
      clear hP
      go_wp2_with fail
      refine (worst_any a b c _ HS.out HLc.out).mono ?_
      rintro e w1 ⟨rfl, hb1⟩
      rw [HP.out]
      have hb2 : Below wr.heap.size wr w1 := two (by go_grown) hb1
      have hB1 : Below w.heap.size w w1 := hbr.trans (hb2.mono hbr.size)
      have HM1 := Lib.hid (HM.out.later hb2)
      have f0 := HM1.out.fz (k * 2)
      have f1 := HM1.out.fz (k * 2 + 1)
      obtain ⟨x0, e0⟩ := HM1.out.old (k * 2) (by omega)
      obtain ⟨x1, e1⟩ := HM1.out.old (k * 2 + 1) (by omega)
      have hz1 := HM1.out.lt
      clear hb1 hb2 c0 c1 c2 c3
      go_wp2_with fail
      go_roundw
      case rel =>
        have h9 := HM1.out.store (k := k) hlt
        simp only [HC.out, HP.out] at h9
        exact ⟨k + 1, by omega, by go_num, h9, by go_grown⟩
      case measure => simp [intOf]; omega
    · have hkk : k = ls.length := by omega
      have HK := Lib.hid hkk
      clear hkk
      go_wp2_with fail
      go_returns
      exact ⟨_, Nat.le_refl _, rfl, MadeTo.done (by have := HM.out; rw [HK.out] at this; exact this) (by omega), hbr⟩
end Go.Proofs.Ytldnpnplgfkebaa
