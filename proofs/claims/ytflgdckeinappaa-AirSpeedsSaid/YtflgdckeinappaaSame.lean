/- Over and Mul, of the code and of the reference: one thing. -/
import Derived.Test.YtflgdckeinappaaROver2
namespace Go.Proofs.Ytflgdckeinappaa
open Go.RowKit

/-! ### The same spans -/
def tD (a b c d f g : Int) : Int := min8 (fun i => fl (pickA a b i) (pickB c d i) (pickC f g i))
def tU (a b c d f g : Int) : Int := max8 (fun i => ce (pickA a b i) (pickB c d i) (pickC f g i))
theorem pickC_pos {f g : Int} (h : validB f g = true) (hf : 1 ≤ f) (i : Nat) : 1 ≤ pickC f g i := endOf_pos _ h hf
theorem min8_sat {X Y : Nat → Int} (h : ∀ i, Sat (X i) (Y i)) : Sat (min8 X) (min8 Y) := by
  unfold min8
  simp only [List.foldl]
  exact (((((((h 0).min (h 1)).min (h 2)).min (h 3)).min (h 4)).min (h 5)).min (h 6)).min (h 7)
theorem max8_sat {X Y : Nat → Int} (h : ∀ i, Sat (X i) (Y i)) : Sat (max8 X) (max8 Y) := by
  unfold max8
  simp only [List.foldl]
  exact (((((((h 0).max (h 1)).max (h 2)).max (h 3)).max (h 4)).max (h 5)).max (h 6)).max (h 7)
theorem run8 (X : Nat → Int) : runMin X 8 = min8 X ∧ runMax X 8 = max8 X := by
  unfold min8 max8
  simp only [runMin, runMax, List.foldl]
  omega
theorem min8_le (X : Nat → Int) : min8 X ≤ X 0 := by unfold min8; simp only [List.foldl]; omega
theorem le_max8 (X : Nat → Int) : X 0 ≤ max8 X := by unfold max8; simp only [List.foldl]; omega
theorem tD_le_tU (a b c d f g : Int) : tD a b c d f g ≤ tU a b c d f g :=
  Int.le_trans (min8_le _) (Int.le_trans (cdiv_ge (pickA a b 0 * pickB c d 0) (pickC f g 0)) (le_max8 (fun i => ce (pickA a b i) (pickB c d i) (pickC f g i))))
theorem fit_bound {a b c d f g : Int} (h : validB f g = true) (hf : 1 ≤ f) : fitE (minD a b c d f g) (maxU a b c d f g) = fitE (tD a b c d f g) (tU a b c d f g) :=
  Sat.fit (min8_sat fun i => (rD_sat _ _ (pickC_pos h hf i)).1) (max8_sat fun i => (rD_sat _ _ (pickC_pos h hf i)).2) (tD_le_tU _ _ _ _ _ _)
theorem fit_ref {a b c d f g : Int} (h : validB f g = true) (hf : 1 ≤ f) : fitE (runMin (rdowns a b c d f g) 8) (runMax (rups a b c d f g) 8) = fitE (tD a b c d f g) (tU a b c d f g) := by
  rw [(run8 _).1, (run8 _).2]
  exact Sat.fit (min8_sat fun i => (QD_sat _ _ (pickC_pos h hf i)).1) (max8_sat fun i => (QD_sat _ _ (pickC_pos h hf i)).2) (tD_le_tU _ _ _ _ _ _)

def overE (a b c d f g : Int) : Ending := if3 a b c d f g (fitE (tD a b c d f g) (tU a b c d f g))
def mulE (a b c d : Int) : Ending := if2 a b c d (fitE (tD a b c d 1 1) (tU a b c d 1 1))
theorem over_is (a b c d f g : Int) (w : World) : Calls Try.prog 29 #[sp a b, sp c d, sp f g] w fun e w' => e = overE a b c d f g ∧ Below w.heap.size w w' := by
  refine (over_any a b c d f g w).mono fun e w' ⟨he, hb⟩ => ⟨?_, hb⟩
  rw [he]; unfold overE if3
  split
  · rename_i hv
    split
    · rfl
    · rw [allValid3, Bool.and_eq_true, Bool.and_eq_true] at hv
      rw [fit_bound hv.2.2 (by omega)]
  · rfl
theorem rover_is (a b c d f g : Int) (w : World) : Calls Try.prog 30 #[sp a b, sp c d, sp f g] w fun e w' => e = overE a b c d f g ∧ Below w.heap.size w w' := by
  refine (rover_any a b c d f g w).mono fun e w' ⟨he, hb⟩ => ⟨?_, hb⟩
  rw [he]; unfold overE if3
  split
  · rename_i hv
    split
    · rfl
    · rw [allValid3, Bool.and_eq_true, Bool.and_eq_true] at hv
      rw [fit_ref hv.2.2 (by omega)]
  · rfl
theorem mul_is (a b c d : Int) (w : World) : Calls Try.prog 19 #[sp a b, sp c d] w fun e w' => e = mulE a b c d ∧ Below w.heap.size w w' := by
  refine (mul_any a b c d w).mono fun e w' ⟨he, hb⟩ => ⟨?_, hb⟩
  rw [he, fit_bound valid1 (by omega)]; rfl
theorem rmul_is (a b c d : Int) (w : World) : Calls Try.prog 20 #[sp a b, sp c d] w fun e w' => e = mulE a b c d ∧ Below w.heap.size w w' := by
  refine (rmul_any a b c d w).mono fun e w' ⟨he, hb⟩ => ⟨?_, hb⟩
  rw [he, fit_ref valid1 (by omega)]; rfl

end Go.Proofs.Ytflgdckeinappaa
