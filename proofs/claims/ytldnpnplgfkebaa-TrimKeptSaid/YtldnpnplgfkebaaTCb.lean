/- Package trim: isChoice. -/
import Derived.Test.YtldnpnplgfkebaaTBr
namespace Go.Proofs.Ytldnpnplgfkebaa
open Go.RowKit

/-- Whether puts are such as loads may have, one by one. -/
def choB : List Pu → List Ld → Bool
  | p :: ps, l :: ls => inB p.p l.a0 l.a1 && inB p.w l.w0 l.w1 && choB ps ls
  | _, _ => true
def choiceB (ps : List Pu) (ls : List Ld) : Bool := decide (ps.length = ls.length) && choB ps ls
def CbHead (ps : List Pu) (ls : List Ld) (w wr : World) (v : Value) : Prop := ∃ k : Nat, k ≤ ps.length ∧ v = .int .i64 k ∧ choB ps ls = choB (ps.drop k) (ls.drop k) ∧ Below w.heap.size w wr
/-- Two spans of a load, in boxes of their own. -/
def CbC (w wy : World) (v7 v8 : Value) (B : Nat) (p : Pu) (l : Ld) : Prop := ∃ n7 n8 : Nat, v7 = .pointer (some ⟨n7, 0, none⟩) ∧ v8 = .pointer (some ⟨n8, 0, none⟩) ∧ Below w.heap.size w wy ∧ Two2 wy n7 l.a0 l.a1 ∧ Two2 wy n8 l.w0 l.w1 ∧ Two2 wy B p.p p.w
theorem cho_bound {ps : List Pu} {ls : List Ld} (h : choiceB ps ls = true) (hl : ∀ l, l ∈ ls → LdB l) : ps.length = ls.length ∧ ∀ p, p ∈ ps → PuB p := by
  unfold choiceB at h
  rw [Bool.and_eq_true] at h
  have hlen : ps.length = ls.length := by simpa using h.1
  refine ⟨hlen, ?_⟩
  have h2 := h.2
  clear h
  induction ps generalizing ls with
  | nil => intro p hp; simp at hp
  | cons q ps ih =>
    cases ls with
    | nil => simp at hlen
    | cons l ls =>
      rw [choB, Bool.and_eq_true, Bool.and_eq_true, inB_iff, inB_iff] at h2
      intro p hp
      rcases List.mem_cons.1 hp with rfl | hp
      · obtain ⟨h0, h1, h3, h4⟩ := hl l (List.mem_cons_self ..)
        unfold PuB
        omega
      · exact ih (fun x hx => hl x (List.mem_cons_of_mem _ hx)) (by simpa using hlen) h2.2 p hp
set_option maxRecDepth 100000 in
set_option maxHeartbeats 8000000 in
theorem isChoice_any (u v : Value) (ps : List Pu) (ls : List Ld) (w : World) (hu : SlPu w u ps) (hv : SlLd w v ls) : Calls Try.prog 76 #[u, v] w fun e w' => e = .returned (.bool (choiceB ps ls)) ∧ Below w.heap.size w w' := by
  obtain ⟨a0, cap0, rfl, hl0, hc0⟩ := hu.form
  obtain ⟨a1, cap1, rfl, hl1, hc1⟩ := hv.form
  have HU := Lib.hid hu
  have HV := Lib.hid hv
  clear hu hv
  by_cases hlen : ps.length = ls.length
  rotate_left 1
  · have hne : ((ps.length : Int) == (ls.length : Int)) = false := by simp; omega
    have HN := Lib.hid hlen
    go_enter Try.func76, Try.ntmps76
    go_wp2_with fail
    go_returns
    exact ⟨ret_bool (by unfold choiceB; simp [HN.out]), Below.refl _ _⟩
  have HLe := Lib.hid hlen
  have heq : ((ps.length : Int) != (ls.length : Int)) = false := by simp; omega
  clear hlen
  go_enter Try.func76, Try.ntmps76
  go_wp2_with fail
  clear heq
  go_loopw [16] (fun v16 wr => CbHead ps ls w wr v16) (fun v16 _ => ps.length - (intOf v16).toNat)
  case atStart => exact ⟨0, by omega, rfl, rfl, Below.refl _ _⟩
  case round =>
    obtain ⟨k, hk, rfl, he, hbr⟩ := hrel
    have HE := Lib.hid he
    clear he
    by_cases hlt : k < ps.length
    rotate_left 1
    · have hf : choiceB ps ls = true := by unfold choiceB; rw [HE.out, drop_none hlt]; simp [choB, HLe.out]
      have HF := Lib.hid hf
      clear hf
      go_wp2_with fail
      go_returns
      exact ⟨ret_bool HF.out.symm, hbr⟩
    obtain ⟨b, off, p, rfl, hb, hp, hpat⟩ := HU.out.at hlt
    obtain ⟨b', off', c, rfl, hb', hc, hcat⟩ := HV.out.at (show k < ls.length by have := HLe.out; omega)
    obtain ⟨p0, p1⟩ := PuAt.later hpat (show Below w.heap.size w wr from hbr)
    obtain ⟨c0, c1, c2, c3⟩ := LdAt.later hcat (show Below w.heap.size w wr from hbr)
    have hzb := World.block_lt_of_cell? _ _ c0
    have hzp := World.block_lt_of_cell? _ _ p0
    have hz1 : b' < wr.heap.size + 1 := Nat.lt_succ_of_lt hzb
    have hz2 : b' < wr.heap.size + 1 + 1 := Nat.lt_succ_of_lt hz1
    have hlt' : (k : Int) < (ps.length : Int) := by omega
    have hlt2 : (k : Int) < (ls.length : Int) := by have := HLe.out; omega
    have hk0 : (0 : Int) ≤ (k : Int) := by omega
    have HP := Lib.hid hp
    have HC := Lib.hid hc
    have hsz := hbr.size
    clear hp hc hpat hcat
    go_wp2_with fail
    go_cut [7, 8] from 21 to 51 (fun v7 v8 wy => CbC w wy v7 v8 wr.heap.size p c)
    case first =>
      go_region
      all_goals go_wp2_with fail
      all_goals (go_meet; case rel => exact ⟨_, _, rfl, rfl, by go_grown, ⟨by go_cell, by go_cell⟩, ⟨by go_cell, by go_cell⟩, ⟨by go_cell, by go_cell⟩⟩)
    case rest =>
      obtain ⟨n7, n8, rfl, rfl, hB, k7, k8, kp⟩ := hcut
      generalize wc = W at *
      have K8 := Lib.hid k8
      have KP := Lib.hid kp
      obtain ⟨a0, a1⟩ := k7
      have q1 := World.block_lt_of_cell? _ _ a0
      obtain ⟨p0, p1⟩ := kp
      have q2 := World.block_lt_of_cell? _ _ p0
      clear k8
      go_wp2_with fail
      refine (inOrder3 _ c.a0 p.p c.a1 _ (by go_cell) (by go_cell) (by go_cell)).mono ?_
      rintro e w1 ⟨rfl, hb1⟩
      have hb11 : Below W.heap.size W w1 := two (by go_grown) hb1
      have hB1 := hB.trans (hb11.mono hB.size)
      obtain ⟨b0, b1⟩ := K8.out.later hb11
      obtain ⟨r0, r1⟩ := KP.out.later hb11
      clear hb1 hb11 a0 a1 p0 p1 q1 q2
      have q1 := World.block_lt_of_cell? _ _ b0
      have q2 := World.block_lt_of_cell? _ _ r0
      by_cases h1 : inB p.p c.a0 c.a1 = true
      rotate_left 1
      · skip
        rw [show inB p.p c.a0 c.a1 = false by simpa using h1]
        have H1 := Lib.hid (show inB p.p c.a0 c.a1 = false by simpa using h1)
        clear h1
        go_wp2_with fail
        go_returns
        exact ⟨ret_bool (by unfold choiceB; rw [HE.out, drop_some HP.out, drop_some HC.out, choB, H1.out]; simp), by go_grown⟩
      rw [h1]
      have H1 := Lib.hid h1
      clear h1
      go_wp2_with fail
      refine (inOrder3 _ c.w0 p.w c.w1 _ (by go_cell) (by go_cell) (by go_cell)).mono ?_
      rintro e w2 ⟨rfl, hb2⟩
      have hb22 : Below w1.heap.size w1 w2 := two (by go_grown) hb2
      have hB2 := hB1.trans (hb22.mono hB1.size)
      clear hb2 hb22 b0 b1 r0 r1 q1 q2
      by_cases h2 : inB p.w c.w0 c.w1 = true
      rotate_left 1
      · skip
        rw [show inB p.w c.w0 c.w1 = false by simpa using h2]
        have H2 := Lib.hid (show inB p.w c.w0 c.w1 = false by simpa using h2)
        clear h2
        go_wp2_with fail
        go_returns
        exact ⟨ret_bool (by unfold choiceB; rw [HE.out, drop_some HP.out, drop_some HC.out, choB, H2.out]; simp), by go_grown⟩
      rw [h2]
      have H2 := Lib.hid h2
      clear h2
      go_wp2_with fail
      go_roundw
      case rel =>
        have hB9 : Below w.heap.size w w2 := hB2
        have he9 : choB ps ls = choB (ps.drop (k + 1)) (ls.drop (k + 1)) := by rw [HE.out, drop_some HP.out, drop_some HC.out, choB, H1.out, H2.out]; rfl
        exact ⟨k + 1, by omega, by go_num, he9, hB9⟩
      case measure => simp [intOf]; omega
end Go.Proofs.Ytldnpnplgfkebaa
