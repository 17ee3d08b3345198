/- May and Must. -/
import Derived.Test.YtflgdckeinappaaWhere
namespace Go.Proofs.Ytflgdckeinappaa
open Go.RowKit

def mayS (lo hi : Int) : Seg := fun p q => (amS p.1 p.2.1 q.1 q.2.1 hi, alS p.1 p.2.2 q.1 q.2.2 lo)
def mustS (lo hi : Int) : Seg := fun p q => (alS p.1 p.2.1 q.1 q.2.1 lo, amS p.1 p.2.2 q.1 q.2.2 hi)
theorem lnOk_lo {ks : List (Int × Int × Int)} {k : Nat} {a l h a' l' h' : Int} (ht : tableB ks = true) (h1 : ks[k]? = some (a, l, h)) (h2 : ks[k + 1]? = some (a', l', h')) : LnOk a l a' l' a ∧ LnOk a h a' h' a := by
  obtain ⟨⟨b1, b2, b3, b4, b5⟩, ⟨b6, b7, b8, b9, b10⟩, b11⟩ := seg_ok ht h1 h2
  exact ⟨⟨by omega, by omega, by omega, by omega, by omega, by omega, by omega, by omega, by omega⟩, ⟨by omega, by omega, by omega, by omega, by omega, by omega, by omega, by omega, by omega⟩⟩
theorem mayS_in {ks : List (Int × Int × Int)} (ht : tableB ks = true) (lo hi : Int) : Inner ks (mayS lo hi) := fun i a l h a' l' h' h1 h2 => by
  obtain ⟨_, _, b⟩ := seg_ok ht h1 h2
  exact amS_in _ b
theorem mustS_in {ks : List (Int × Int × Int)} (ht : tableB ks = true) (lo hi : Int) : Inner ks (mustS lo hi) := fun i a l h a' l' h' h1 h2 => by
  obtain ⟨_, _, b⟩ := seg_ok ht h1 h2
  exact alS_in _ b
theorem mayS_serves {ks : List (Int × Int × Int)} {lo hi : Int} (Y : Nat) (ht : tableB ks = true) (hv : validB lo hi = true) : Serves 85 Y lo hi ks (mayS lo hi) := fun i a l h a' l' h' w h1 h2 y0 y1 => by
  obtain ⟨k1, k2⟩ := lnOk_lo ht h1 h2
  obtain ⟨v1, v2, v3⟩ := validB_bd hv
  exact mayc_any a l h a' l' h' lo hi Y w y0 y1 k1 k2 (by omega) (by omega)
theorem mustS_serves {ks : List (Int × Int × Int)} {lo hi : Int} (Y : Nat) (ht : tableB ks = true) (hv : validB lo hi = true) : Serves 90 Y lo hi ks (mustS lo hi) := fun i a l h a' l' h' w h1 h2 y0 y1 => by
  obtain ⟨k1, k2⟩ := lnOk_lo ht h1 h2
  obtain ⟨v1, v2, v3⟩ := validB_bd hv
  exact mustc_any a l h a' l' h' lo hi Y w y0 y1 k1 k2 (by omega) (by omega)

/-- The spans of May and Must. -/
def mayL (S : Seg) (ks : List (Int × Int × Int)) (lo hi : Int) : List (Int × Int) := if bothN ks lo hi = 0 then wh S ks (ks.length - 1) else []
def MayR (w w' : World) (e : Ending) (l : List (Int × Int)) (n : Int) : Prop := ∃ v, e = .returned (.tuple #[v, .int .i64 n]) ∧ w'.ownsRow w.heap.size 23 2 v l.length (spV l) ∧ Below w.heap.size w w'

set_option linter.unusedSimpArgs false in
set_option maxHeartbeats 1000000 in
theorem may_any (v : Value) (ks : List (Int × Int × Int)) (lo hi : Int) (w : World) (hs : SlK w v ks) :
    Calls Try.prog 35 #[v, sp lo hi] w fun e w' => MayR w w' e (mayL (mayS lo hi) ks lo hi) (bothN ks lo hi) := by
  have hmf : ∀ (fn : Fn) (first cap : Array Value) (w : World), (Instr.makeFunc fn first cap).run Try.prog w = .ok (.func fn first cap) w := fun _ _ _ _ => rfl
  have HS := Lib.hid hs
  clear hs
  go_enter Try.func35, Try.ntmps35
  go_wp2_with fail
  refine (checkBoth_any _ ks _ _ _ (HS.out.later (((Below.refl _ _).alloc (by simp) _)))).mono ?_
  rintro e w1 ⟨rfl, hb1⟩
  obtain ⟨hB, hc, hf⟩ := after (w := w) (by go_grown) hb1
  by_cases h0 : bothN ks lo hi = 0
  · have ht : tableB ks = true := by
      unfold bothN at h0; split at h0
      · assumption
      · omega
    have hv : validB lo hi = true := by
      unfold bothN at h0; rw [if_pos ht] at h0; unfold checkN at h0; split at h0
      · assumption
      · omega
    have hl : mayL (mayS lo hi) ks lo hi = wh (mayS lo hi) ks (ks.length - 1) := by unfold mayL; rw [if_pos h0]
    have y0 : w1.cell? ⟨w.heap.size, 0, none⟩ = some (.int .i64 lo) := by rw [hc _ _ (by simp)]; go_cell
    have y1 : w1.cell? ⟨w.heap.size, 1, none⟩ = some (.int .i64 hi) := by rw [hc _ _ (by simp)]; go_cell
    have HL := Lib.hid hl
    have HT := Lib.hid ht
    have HV := Lib.hid hv
    clear hl ht hv hc hf
    rw [h0]
    go_wp2_with fail
    refine (where_may v ks lo hi w.heap.size (mayS lo hi) w1 (HS.out.later hB) HT.out (mayS_in HT.out lo hi) (mayS_serves _ HT.out HV.out) y0 y1).mono ?_
    rintro e w2 ⟨v2, rfl, hown, hb2⟩
    have HO := Lib.hid (Go.Joins.ownsRow_le hown hB.size)
    have HB := Lib.hid (hB.trans (hb2.mono hB.size))
    clear hown hb2
    go_wp2_with fail
    refine bodyPost_ret (v := .tuple #[v2, .int .i64 0]) (by simp [results, Try.results35, go_sem, *]) rfl ⟨v2, by rw [h0], ?_, HB.out⟩
    rw [HL.out]; exact HO.out
  · have hl : mayL (mayS lo hi) ks lo hi = [] := by unfold mayL; rw [if_neg h0]
    have HL := Lib.hid hl
    clear hl
    generalize hn : bothN ks lo hi = n at *
    go_wp2_with fail
    refine bodyPost_ret (v := .tuple #[.slice none 0 0, .int .i64 n]) (by simp [results, Try.results35, go_sem, *]) rfl ⟨.slice none 0 0, by rw [hn], ?_, by go_grown⟩
    rw [HL.out]; exact World.ownsRow_nil _ _ _ _
set_option linter.unusedSimpArgs false in
set_option maxHeartbeats 1000000 in
theorem must_any (v : Value) (ks : List (Int × Int × Int)) (lo hi : Int) (w : World) (hs : SlK w v ks) :
    Calls Try.prog 37 #[v, sp lo hi] w fun e w' => MayR w w' e (mayL (mustS lo hi) ks lo hi) (bothN ks lo hi) := by
  have hmf : ∀ (fn : Fn) (first cap : Array Value) (w : World), (Instr.makeFunc fn first cap).run Try.prog w = .ok (.func fn first cap) w := fun _ _ _ _ => rfl
  have HS := Lib.hid hs
  clear hs
  go_enter Try.func37, Try.ntmps37
  go_wp2_with fail
  refine (checkBoth_any _ ks _ _ _ (HS.out.later (((Below.refl _ _).alloc (by simp) _)))).mono ?_
  rintro e w1 ⟨rfl, hb1⟩
  obtain ⟨hB, hc, hf⟩ := after (w := w) (by go_grown) hb1
  by_cases h0 : bothN ks lo hi = 0
  · have ht : tableB ks = true := by
      unfold bothN at h0; split at h0
      · assumption
      · omega
    have hv : validB lo hi = true := by
      unfold bothN at h0; rw [if_pos ht] at h0; unfold checkN at h0; split at h0
      · assumption
      · omega
    have hl : mayL (mustS lo hi) ks lo hi = wh (mustS lo hi) ks (ks.length - 1) := by unfold mayL; rw [if_pos h0]
    have y0 : w1.cell? ⟨w.heap.size, 0, none⟩ = some (.int .i64 lo) := by rw [hc _ _ (by simp)]; go_cell
    have y1 : w1.cell? ⟨w.heap.size, 1, none⟩ = some (.int .i64 hi) := by rw [hc _ _ (by simp)]; go_cell
    have HL := Lib.hid hl
    have HT := Lib.hid ht
    have HV := Lib.hid hv
    clear hl ht hv hc hf
    rw [h0]
    go_wp2_with fail
    refine (where_must v ks lo hi w.heap.size (mustS lo hi) w1 (HS.out.later hB) HT.out (mustS_in HT.out lo hi) (mustS_serves _ HT.out HV.out) y0 y1).mono ?_
    rintro e w2 ⟨v2, rfl, hown, hb2⟩
    have HO := Lib.hid (Go.Joins.ownsRow_le hown hB.size)
    have HB := Lib.hid (hB.trans (hb2.mono hB.size))
    clear hown hb2
    go_wp2_with fail
    refine bodyPost_ret (v := .tuple #[v2, .int .i64 0]) (by simp [results, Try.results37, go_sem, *]) rfl ⟨v2, by rw [h0], ?_, HB.out⟩
    rw [HL.out]; exact HO.out
  · have hl : mayL (mustS lo hi) ks lo hi = [] := by unfold mayL; rw [if_neg h0]
    have HL := Lib.hid hl
    clear hl
    generalize hn : bothN ks lo hi = n at *
    go_wp2_with fail
    refine bodyPost_ret (v := .tuple #[.slice none 0 0, .int .i64 n]) (by simp [results, Try.results37, go_sem, *]) rfl ⟨.slice none 0 0, by rw [hn], ?_, by go_grown⟩
    rw [HL.out]; exact World.ownsRow_nil _ _ _ _
end Go.Proofs.Ytflgdckeinappaa
