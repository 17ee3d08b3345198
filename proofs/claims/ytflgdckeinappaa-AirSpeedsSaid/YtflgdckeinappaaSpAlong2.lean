/- The reference's Along. -/
import Derived.Test.YtflgdckeinappaaSpSpeed2
namespace Go.Proofs.Ytflgdckeinappaa
open Go.RowKit

/-- Whether a way is one. -/
def rwayB (dx dy : Int) : Bool := decide ((-10000 ≤ dx ∧ dx ≤ 10000) ∧ (-10000 ≤ dy ∧ dy ≤ 10000) ∧ ¬ (dx = 0 ∧ dy = 0))
/-- The test of the way, as the reference makes it. -/
def RWay (w wr : World) (v : Value) (dx dy : Int) : Prop := v = .bool (!rwayB dx dy) ∧ w = wr
theorem rway_no {a b c d dx dy : Int} (h : blowN a b c d = 0) (k : ¬ ((-10000 ≤ dx ∧ dx ≤ 10000) ∧ (-10000 ≤ dy ∧ dy ≤ 10000) ∧ ¬ (dx = 0 ∧ dy = 0))) : alN a b c d dx dy = 2 := by
  unfold alN; rw [if_pos h, if_neg k]
theorem rway_yes {a b c d dx dy : Int} (h : blowN a b c d = 0) (k : (-10000 ≤ dx ∧ dx ≤ 10000) ∧ (-10000 ≤ dy ∧ dy ≤ 10000) ∧ ¬ (dx = 0 ∧ dy = 0)) : alN a b c d dx dy = 0 := by
  unfold alN; rw [if_pos h, if_pos k]
theorem ral_bad {a b c d dx dy : Int} (h : blowN a b c d ≠ 0) : alN a b c d dx dy = blowN a b c d := by unfold alN; rw [if_neg h]

set_option linter.unusedSimpArgs false in
set_option maxHeartbeats 8000000 in
set_option maxRecDepth 100000 in
theorem ralong_any (a b c d dx dy : Int) (w : World) :
    Calls Try.prog 46 #[wd a b c d, .int .i64 dx, .int .i64 dy] w fun e w' => AlP a b c d dx dy e ∧ Below w.heap.size w w' := by
  go_enter Try.func46, Try.ntmps46
  go_wp2_with fail
  refine (blows_any a b c d _).mono ?_
  rintro e w1 ⟨rfl, hb1⟩
  have hB1 : Below w.heap.size w w1 := (after (w := w) (by go_grown) hb1).1
  have HX := Lib.hid ((wx_box w a b c d (.int .i64 0) (.int .i64 0) 55 23).later hb1)
  have HR := Lib.hid ((bx_box w (.int .i64 a) (.int .i64 b) (.int .i64 c) (.int .i64 d) 55 23).later hb1)
  clear hb1
  rcases blowN_cases a b c d with h0 | h0 | h0
  · have H0 := Lib.hid h0
    rw [h0]
    clear h0
    go_upto_region 4 with fail
    go_cut [33] from 18 to 97 (fun v33 wr => RWay w1 wr v33 dx dy)
    case first =>
      go_wp2_with fail
      refine (within2_any dx (-10000) 10000 _).mono ?_
      rintro e w2 ⟨rfl, rfl⟩
      by_cases hx : -10000 ≤ dx ∧ dx ≤ 10000
      · rw [show decide (-10000 ≤ dx ∧ dx ≤ 10000) = true by simpa using hx]
        go_wp2_with fail
        refine (within2_any dy (-10000) 10000 _).mono ?_
        rintro e w3 ⟨rfl, rfl⟩
        by_cases hy : -10000 ≤ dy ∧ dy ≤ 10000
        · rw [show decide (-10000 ≤ dy ∧ dy ≤ 10000) = true by simpa using hy]
          by_cases h1 : dx = 0
          · by_cases h2 : dy = 0
            · have HW : Hid (rwayB dx dy = false) := Lib.hid (decide_eq_false (fun h => h.2.2 ⟨h1, h2⟩))
              subst h1 h2
              go_wp2_with fail
              go_meet
              case rel => exact ⟨by rw [HW.out]; simp [*], rfl⟩
            · have HW : Hid (rwayB dx dy = true) := Lib.hid (decide_eq_true ⟨hx, hy, fun h => h2 h.2⟩)
              subst h1
              go_wp2_with fail
              go_meet
              case rel => exact ⟨by rw [HW.out]; simp [*], rfl⟩
          · have HW : Hid (rwayB dx dy = true) := Lib.hid (decide_eq_true ⟨hx, hy, fun h => h1 h.1⟩)
            go_wp2_with fail
            go_meet
            case rel => exact ⟨by rw [HW.out]; simp [*], rfl⟩
        · have HW : Hid (rwayB dx dy = false) := Lib.hid (decide_eq_false (fun h => hy h.2.1))
          rw [show decide (-10000 ≤ dy ∧ dy ≤ 10000) = false by simpa using hy]
          go_wp2_with fail
          go_meet
          case rel => exact ⟨by rw [HW.out]; simp [*], rfl⟩
      · have HW : Hid (rwayB dx dy = false) := Lib.hid (decide_eq_false (fun h => hx h.1))
        rw [show decide (-10000 ≤ dx ∧ dx ≤ 10000) = false by simpa using hx]
        go_wp2_with fail
        go_meet
        case rel => exact ⟨by rw [HW.out]; simp [*], rfl⟩
    case rest =>
      obtain ⟨rfl, rfl⟩ := hcut
      by_cases hw : (-10000 ≤ dx ∧ dx ≤ 10000) ∧ (-10000 ≤ dy ∧ dy ≤ 10000) ∧ ¬ (dx = 0 ∧ dy = 0)
      · rw [show rwayB dx dy = true from decide_eq_true hw]
        obtain ⟨⟨dx0, dx1⟩, ⟨dy0, dy1⟩, hn⟩ := hw
        have HP : Hid (∀ u v : Int, PLo (low a b c d dx dy) (dx * dx + dy * dy) u → PLo (-high a b c d dx dy) (dx * dx + dy * dy) (-v) → AlP a b c d dx dy (.returned (.tuple #[sp u v, .int .i64 0]))) :=
          Lib.hid (fun u v h k => .inr ⟨rway_yes H0.out ⟨⟨dx0, dx1⟩, ⟨dy0, dy1⟩, hn⟩, u, v, rfl, h, k⟩)
        obtain ⟨⟨q0, q1, q2, q3, q4⟩, ⟨l0, l1, l2, l3, l4⟩, l5, l6⟩ := along_facts H0.out dx0 dx1 dy0 dy1 hn
        obtain ⟨⟨h1, h2, h3⟩, h4, h5, h6⟩ := blowN_zero H0.out
        have p1 := mul_lim (x := a) (d := dx) (by omega) (by omega) dx0 dx1
        have p2 := mul_lim (x := b) (d := dx) (by omega) (by omega) dx0 dx1
        have p3 := mul_lim (x := c) (d := dy) (by omega) (by omega) dy0 dy1
        have p4 := mul_lim (x := d) (d := dy) (by omega) (by omega) dy0 dy1
        have el : low a b c d dx dy = min (a * dx) (b * dx) + min (c * dy) (d * dy) := rfl
        have eh : high a b c d dx dy = max (a * dx) (b * dx) + max (c * dy) (d * dy) := rfl
        obtain ⟨L, hL⟩ : ∃ L, low a b c d dx dy = L := ⟨_, rfl⟩
        obtain ⟨H, hH⟩ : ∃ H, high a b c d dx dy = H := ⟨_, rfl⟩
        rw [hL] at el l0 l1 l4 l5 HP
        rw [hH] at eh l2 l3 l4 l6 HP
        obtain ⟨A1, hA1⟩ : ∃ A, a * dx = A := ⟨_, rfl⟩
        obtain ⟨A2, hA2⟩ : ∃ A, b * dx = A := ⟨_, rfl⟩
        obtain ⟨C1, hC1⟩ : ∃ A, c * dy = A := ⟨_, rfl⟩
        obtain ⟨C2, hC2⟩ : ∃ A, d * dy = A := ⟨_, rfl⟩
        obtain ⟨XX, hXX⟩ : ∃ XX, dx * dx = XX := ⟨_, rfl⟩
        obtain ⟨YY, hYY⟩ : ∃ YY, dy * dy = YY := ⟨_, rfl⟩
        rw [hA1] at p1
        rw [hA2] at p2
        rw [hC1] at p3
        rw [hC2] at p4
        rw [hA1, hA2, hC1, hC2] at el eh
        rw [hXX, hYY] at q0 l5 l6 HP
        rw [hXX] at q1 q3
        rw [hYY] at q2 q4
        obtain ⟨QQ, hQQ⟩ : ∃ QQ, XX + YY = QQ := ⟨_, rfl⟩
        rw [hQQ] at q0 l5 l6 HP
        have hQ1 : QQ ≤ 200000000 := by omega
        have f1 : IntKind.i64.wrap A1 = A1 := IntWalk.i64_in _ ⟨by omega, by omega⟩
        have f2 : IntKind.i64.wrap A2 = A2 := IntWalk.i64_in _ ⟨by omega, by omega⟩
        have f3 : IntKind.i64.wrap C1 = C1 := IntWalk.i64_in _ ⟨by omega, by omega⟩
        have f4 : IntKind.i64.wrap C2 = C2 := IntWalk.i64_in _ ⟨by omega, by omega⟩
        have g1 : IntKind.i64.wrap XX = XX := IntWalk.i64_in _ ⟨by omega, by omega⟩
        have g2 : IntKind.i64.wrap YY = YY := IntWalk.i64_in _ ⟨by omega, by omega⟩
        have g3 : IntKind.i64.wrap QQ = QQ := IntWalk.i64_in _ ⟨by omega, by omega⟩
        have g4 : IntKind.i64.wrap L = L := IntWalk.i64_in _ ⟨by omega, by omega⟩
        have g5 : IntKind.i64.wrap H = H := IntWalk.i64_in _ ⟨by omega, by omega⟩
        have el' := el.symm
        have eh' := eh.symm
        have HL5 := Lib.hid l5
        have HL6 : Hid ((-H) * (-H) ≤ 8000000 * QQ) := Lib.hid (by rw [Int.neg_mul_neg]; exact l6)
        clear l5 l6 p1 p2 p3 p4 hn el eh hL hH
        obtain ⟨x0, x1, x2, x3⟩ := HX.out
        go_wp2_with fail
        refine (part_any L QQ _ l0 l1 q0 (by omega) HL5.out).mono ?_
        rintro e w2 ⟨hp, rfl⟩
        obtain ⟨u, rfl, hu, u0, u1⟩ := hp
        have HU := Lib.hid hu
        clear hu
        go_wp2_with fail
        refine (part_any (-H) QQ _ (by omega) (by omega) q0 (by omega) HL6.out).mono ?_
        rintro e w2 ⟨hp, rfl⟩
        obtain ⟨v, rfl, hv, v0, v1⟩ := hp
        have HV := Lib.hid hv
        clear hv
        obtain ⟨r0, r1, rf0, rf1, rl⟩ := HR.out
        go_wp2_with fail
        exact bodyPost_ret (v := .tuple #[sp u (-v), .int .i64 0]) (by simp [results, Try.results46, go_sem, *]) rfl ⟨HP.out u (-v) HU.out (by rw [Int.neg_neg]; exact HV.out), by go_grown⟩
      · have HP : Hid (AlP a b c d dx dy (.returned (.tuple #[sp 0 0, .int .i64 2]))) := Lib.hid (.inl ⟨by rw [rway_no H0.out hw]; omega, by rw [rway_no H0.out hw]⟩)
        rw [show rwayB dx dy = false from decide_eq_false hw]
        clear hw
        obtain ⟨r0, r1, rf0, rf1, rl⟩ := HR.out
        go_wp2_with fail
        exact bodyPost_ret (v := .tuple #[sp 0 0, .int .i64 2]) (by simp [results, Try.results46, go_sem, *]) rfl ⟨HP.out, by go_grown⟩
  · have HP : Hid (AlP a b c d dx dy (.returned (.tuple #[sp 0 0, .int .i64 2]))) := Lib.hid (.inl ⟨by rw [ral_bad (by omega)]; omega, by rw [ral_bad (by omega), h0]⟩)
    rw [h0]
    clear h0
    obtain ⟨r0, r1, rf0, rf1, rl⟩ := HR.out
    go_wp2_with fail
    exact bodyPost_ret (v := .tuple #[sp 0 0, .int .i64 2]) (by simp [results, Try.results46, go_sem, *]) rfl ⟨HP.out, by go_grown⟩
  · have HP : Hid (AlP a b c d dx dy (.returned (.tuple #[sp 0 0, .int .i64 10]))) := Lib.hid (.inl ⟨by rw [ral_bad (by omega)]; omega, by rw [ral_bad (by omega), h0]⟩)
    rw [h0]
    clear h0
    obtain ⟨r0, r1, rf0, rf1, rl⟩ := HR.out
    go_wp2_with fail
    exact bodyPost_ret (v := .tuple #[sp 0 0, .int .i64 10]) (by simp [results, Try.results46, go_sem, *]) rfl ⟨HP.out, by go_grown⟩

end Go.Proofs.Ytflgdckeinappaa
