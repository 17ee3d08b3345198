/- Package trim: cargo.first. -/
import Derived.Test.YtldnpnplgfkebaaTSea
import Derived.Test.YtldnpnplgfkebaaTDrop
namespace Go.Proofs.Ytldnpnplgfkebaa
open Go.RowKit

theorem room_bound {hs : List Pu} (hh : hs.all hoOk = true) (i : Nat) : 0 ≤ roomS hs 5 i ∧ roomS hs 5 i ≤ 1073741824 := by
  unfold roomS
  split
  · rw [List.getD_eq_getElem?_getD]
    cases e : hs[i]? with
    | none => exact ⟨by decide, by decide⟩
    | some c =>
      have := List.all_eq_true.1 hh c (List.mem_of_getElem? e)
      unfold hoOk at this
      rw [Bool.and_eq_true, inB_iff, inB_iff] at this
      simp only [Option.getD_some]
      omega
  · exact ⟨by decide, by decide⟩
theorem room6_new (w : World) : Room (w.alloc (.cells #[.int .i64 0, .int .i64 0, .int .i64 0, .int .i64 0, .int .i64 0, .int .i64 0] 183)) w.heap.size 0 6 :=
  ⟨fun j hj => ⟨.int .i64 0, by
    rw [World.cell?_alloc_at _ _ _ _ rfl, Nat.zero_add]
    have : j = 0 ∨ j = 1 ∨ j = 2 ∨ j = 3 ∨ j = 4 ∨ j = 5 := by omega
    rcases this with h | h | h | h | h | h <;> subst h <;> rfl⟩, fun j => World.frozen?_alloc_at _ _ _ _ rfl, by simp⟩
/-- The first stowage with which nothing is wrong. -/
def firstE (hs ps : List Pu) (rs : List Li) (sks : List Sk) : Option (List Int) := searchE hs ps rs sks ps.length [] (roomS hs 5)
/-- What first returns. -/
def FirstP (hs ps : List Pu) (rs : List Li) (sks : List Sk) (w : World) (e : Ending) (w' : World) : Prop :=
  Below w.heap.size w w' ∧ ((firstE hs ps rs sks = none ∧ e = .returned (.tuple #[.slice none 0 0, .bool false])) ∨ ∃ (ys : List Int) (v : Value), firstE hs ps rs sks = some ys ∧ e = .returned (.tuple #[v, .bool true]) ∧ SlI w' v ys)
set_option linter.unusedSimpArgs false in
set_option maxRecDepth 100000 in
set_option maxHeartbeats 8000000 in
theorem first_any (h p r s : Value) (hs ps : List Pu) (rs : List Li) (sks : List Sk) (w : World) (hh : SlPu w h hs) (hp : SlPu w p ps) (hr : SlLi w r rs) (hk : SlSk w s sks)
    (h5 : hs.length ≤ 5) (h6 : ps.length ≤ 6) (hho : hs.all hoOk = true) (hpa : ps.all paOk = true) (hsc : ∀ x, x ∈ sks → ScB x.a x.b) :
    Calls Try.prog 93 #[cgV h p r s] w (FirstP hs ps rs sks w) := by
  have HS := Lib.hid (search_any w h p r s hs ps rs sks (w.heap.size + 1) w.heap.size (w.heap.size + 1 + 1) hh hp hr hk (by omega) (by omega) (by omega) h5 h6 hho hpa hsc)
  have HH := Lib.hid hh
  have HRb := Lib.hid (room_bound hho)
  obtain ⟨a1, cap1, rfl, hl1, _⟩ := hp.form
  clear hp hr hk hsc hho hpa hh
  have hmf := makeFunc_run
  go_enter Try.func93, Try.ntmps93
  go_wp2_with fail
  obtain ⟨fv, hfv⟩ : ∃ v, Value.func (.func 127) #[] #[.pointer (some ⟨w.heap.size + 1, 0, none⟩), .pointer (some ⟨w.heap.size, 0, none⟩), .pointer (some ⟨w.heap.size + 1 + 1, 0, none⟩)] = v := ⟨_, rfl⟩
  obtain ⟨W, hW⟩ : ∃ W, ((w.alloc (.cells #[h, .slice a1 ps.length cap1, r, s] 149)).alloc (.cells #[.int .i64 0, .int .i64 0, .int .i64 0, .int .i64 0, .int .i64 0, .int .i64 0] 183)).alloc (.cells #[Value.func (.func 127) #[] #[.pointer (some ⟨w.heap.size + 1, 0, none⟩), .pointer (some ⟨w.heap.size, 0, none⟩), .pointer (some ⟨w.heap.size + 1 + 1, 0, none⟩)]] 184) = W := ⟨_, rfl⟩
  have hRo := room6_new (w.alloc (.cells #[h, .slice a1 ps.length cap1, r, s] 149))
  rw [World.size_alloc] at hRo
  have HI := Lib.hid (show SeI w W (w.heap.size + 1) w.heap.size (w.heap.size + 1 + 1) h (.slice a1 ps.length cap1) r s by
    subst hW
    exact ⟨by go_grown, ⟨by go_cell, by go_cell, by go_cell, by go_cell⟩, by go_cell, hRo.later ((Below.refl _ _).alloc (Nat.le_refl _) _)⟩)
  rw [hW]
  clear hW hRo hmf hfv
  have hA : Below W.heap.size W W.drew := below_drewN (Below.refl _ _) 1
  refine AnyV.start (Two 3 (fun w' => Below W.heap.size W w') 3 (fun _ => True)) 5 #[false, false, false, false, false] (by kernel_rfl) (by kernel_rfl) (by kernel_rfl) (fun _ => ⟨fun _ => hA, fun _ => trivial⟩) (fun _ => ?_)
  generalize World.drew W = wd at hA ⊢
  refine AnyV.take 3 5 (i := 0) (oi := _) (v := ?_) rfl (by kernel_rfl) (by kernel_rfl) (by kernel_rfl) (by kernel_rfl) (by kernel_rfl) (fun _ _ _ h => h) (Two.other (by decide)) (Or.inl ⟨by kernel_rfl, ?_⟩) (Two.till (fun _ => hA) (fun _ => trivial)) (fun _ => ?_)
  rotate_left 1
  · intro wz hSw'; have hSw := hSw'.1 rfl; clear hSw'; have q0 := cell_later hSw HI.out.se; go_simp; try with_reducible rfl
  try simp only [Act.put, List.setIfInBounds_toArray, List.set_cons_zero, List.set_cons_succ]
  refine AnyV.take 3 5 (i := 1) (oi := _) (v := ?_) rfl (by kernel_rfl) (by kernel_rfl) (by kernel_rfl) (by kernel_rfl) (by kernel_rfl) (fun _ _ _ h => h) (Two.other (by decide)) (Or.inl ⟨by kernel_rfl, ?_⟩) (Two.till (fun _ => hA) (fun _ => trivial)) (fun _ => ?_)
  rotate_left 1
  · intro wz hSw'; have hSw := hSw'.1 rfl; clear hSw'; obtain ⟨q0, q1, q2, q3⟩ := HI.out.cg.later hSw; go_simp; try with_reducible rfl
  try simp only [Act.put, List.setIfInBounds_toArray, List.set_cons_zero, List.set_cons_succ]
  refine AnyV.one (i := 2) (o := _) rfl (by kernel_rfl) (fun K hK => ?_)
  go_simp
  refine (emptyRooms_any h _ r s hs _ (puLater HH.out (two HI.out.base hA)) h5).mono ?_
  rintro e w6 ⟨rfl, hb6⟩
  replace hA := two hA hb6
  clear hb6
  go_wp2_with fail
  refine hK.out _ _ (Two.till (fun _ => hA) (fun _ => trivial)) ?_
  clear hK K
  try simp only [Act.put, List.setIfInBounds_toArray, List.set_cons_zero, List.set_cons_succ]
  have HI6 := Lib.hid (HI.out.aside (Aside.of (n := 0) hA HI.out.room.lt) (by omega) (by omega) (by omega))
  have hcall := HS.out ps.length [] (roomS hs 5) 0 w6 rfl (by omega) (fun z hz => by simp at hz) HRb.out HI6.out (fun i z e => by simp at e)
  rw [show ((0 : Nat) : Int) = 0 from rfl] at hcall
  refine AnyV.one (i := 3) (o := _) rfl (by kernel_rfl) (fun K hK => ?_)
  go_simp
  refine hcall.mono ?_
  clear hcall
  have hB6 := two HI.out.base hA
  rintro e w7 ⟨has, (⟨hno, rfl⟩ | ⟨ys, hys, rfl, hrow⟩)⟩
  · have HB7 := Lib.hid (has.below hB6 (by omega) hB6.size)
    have HN := Lib.hid (show firstE hs ps rs sks = none from hno)
    clear has hno
    go_wp2_with fail
    refine hK.out _ _ (Two.till (fun h => absurd h (by decide)) (fun _ => trivial)) ?_
    clear hK K
    try simp only [Act.put, List.setIfInBounds_toArray, List.set_cons_zero, List.set_cons_succ]
    refine AnyV.one (i := 4) (o := _) rfl (by kernel_rfl) (fun K hK => ?_)
    go_simp
    refine hK.out _ _ (Two.till (fun h => absurd h (by decide)) (fun _ => trivial)) ?_
    clear hK K
    refine AnyV.done (by kernel_rfl) ?_
    try simp only [Act.put, List.setIfInBounds_toArray, List.set_cons_zero, List.set_cons_succ]
    go_wp2_with fail
    go_returns
    exact ⟨HB7.out, .inl ⟨HN.out, rfl⟩⟩
  · have HB7 := Lib.hid (has.below hB6 (by omega) hB6.size)
    have HN := Lib.hid (show firstE hs ps rs sks = some ys from hys)
    have hyl : ys.length = ps.length := by have := search_len hs ps rs sks _ _ _ _ hys; simpa using this
    have HI7 := Lib.hid (HI6.out.aside has (by omega) (by omega) (by omega))
    have HR7 := Lib.hid hrow
    have HYl := Lib.hid hyl
    have hcl := cloneG_any (w.heap.size + 1) 0 6 ys w7 hrow (by omega)
    rw [hyl] at hcl
    have hsl := fun w' => slice_place (w.heap.size + 1) ps.length h6 w'
    clear has hys hrow hyl
    go_wp2_with fail
    refine hK.out _ _ (Two.till (fun h => absurd h (by decide)) (fun _ => trivial)) ?_
    clear hK K
    try simp only [Act.put, List.setIfInBounds_toArray, List.set_cons_zero, List.set_cons_succ]
    refine AnyV.one (i := 4) (o := _) rfl (by kernel_rfl) (fun K hK => ?_)
    go_simp
    refine hK.out _ _ (Two.till (fun h => absurd h (by decide)) (fun _ => trivial)) ?_
    clear hK K
    refine AnyV.done (by kernel_rfl) ?_
    try simp only [Act.put, List.setIfInBounds_toArray, List.set_cons_zero, List.set_cons_succ]
    have q1 := HI7.out.cg.c1
    go_wp2_with fail
    refine hcl.mono ?_
    clear hcl
    rintro e w8 ⟨g8, c8, rfl, hg8, hs8, hb8⟩
    have hB8 := two HB7.out hb8
    have HS8 := Lib.hid hs8
    clear hs8 hb8
    go_wp2_with fail
    go_returns
    exact ⟨hB8, .inr ⟨ys, _, HN.out, rfl, HS8.out⟩⟩
end Go.Proofs.Ytldnpnplgfkebaa
/- Package trim: Stow. -/
namespace Go.Proofs.Ytldnpnplgfkebaa
open Go.RowKit

theorem few_of {ls : List Ld} {hs ps : List Pu} {rs ms : List Li} (h : cargoN ls hs ps rs ms = 0) : bothN ls ms = 0 ∧ hs.length ≤ 5 ∧ ps.length ≤ 6 ∧ rs.length ≤ 20 ∧ ls.length + ps.length ≤ 40 ∧ hs.all hoOk = true ∧ ps.all paOk = true ∧ rs.all ruOk = true := by
  unfold cargoN at h
  split at h
  · rename_i h0
    split at h
    · cases h
    · rename_i h1
      split at h
      · rename_i h2
        unfold manyB at h1
        simp only [Bool.or_eq_true, decide_eq_true_eq, not_or] at h1
        rw [Bool.and_eq_true, Bool.and_eq_true] at h2
        exact ⟨h0, by omega, by omega, by omega, by omega, h2.1.1, h2.1.2, h2.2⟩
      · cases h
  · rename_i h0
    exact absurd h h0
theorem sk_sc {ls : List Ld} {ms : List Li} (hm : ms.all Li.ok = true) : ∀ x, x ∈ ms.map (slackE ls) → ScB x.a x.b := fun x hx => by
  obtain ⟨y, h1, rfl⟩ := List.mem_map.1 hx
  exact (limits_ok hm h1).1
/-- What Stow says, in one: the error, and the stowage. -/
def stowN (ls : List Ld) (hs ps : List Pu) (rs ms : List Li) : Int := if cargoN ls hs ps rs ms = 0 then (match firstE hs ps rs (ms.map (slackE ls)) with | none => 6 | some _ => 0) else cargoN ls hs ps rs ms
def stowL (ls : List Ld) (hs ps : List Pu) (rs ms : List Li) : List Int := if cargoN ls hs ps rs ms = 0 then (match firstE hs ps rs (ms.map (slackE ls)) with | none => [] | some zs => zs) else []
set_option maxRecDepth 100000 in
set_option maxHeartbeats 4000000 in
theorem stow_any (v q p r u : Value) (ls : List Ld) (hs ps : List Pu) (rs ms : List Li) (w : World) (hv : SlLd w v ls) (hq : SlPu w q hs) (hp : SlPu w p ps) (hr : SlLi w r rs) (hu : SlLi w u ms) :
    Calls Try.prog 41 #[v, q, p, r, u] w fun e w' => ∃ x, e = .returned (.tuple #[x, .int .i64 (stowN ls hs ps rs ms)]) ∧ SlI w' x (stowL ls hs ps rs ms) ∧ Below w.heap.size w w' := by
  have HV := Lib.hid hv
  have HQ := Lib.hid hq
  have HP := Lib.hid hp
  have HRr := Lib.hid hr
  have HU := Lib.hid hu
  obtain ⟨n, hn⟩ : ∃ n, cargoN ls hs ps rs ms = n := ⟨_, rfl⟩
  have HN := Lib.hid hn
  clear hv hq hp hr hu
  by_cases h0 : n = 0
  rotate_left 1
  · have HB := Lib.hid (show stowN ls hs ps rs ms = n ∧ stowL ls hs ps rs ms = [] by unfold stowN stowL; rw [hn, if_neg h0, if_neg h0]; exact ⟨rfl, rfl⟩)
    clear hn
    go_enter Try.func41, Try.ntmps41
    go_wp2_with fail
    refine (checkCargo_any v q p r u ls hs ps rs ms _ HV.out HQ.out HP.out HRr.out HU.out).mono ?_
    rintro e w1 ⟨rfl, hb1⟩
    rw [HN.out]
    go_wp2_with fail
    go_returns
    exact ⟨.slice none 0 0, by rw [HB.out.1]; rfl, .inl ⟨HB.out.2, rfl⟩, hb1⟩
  subst h0
  obtain ⟨hboth, h5, h6, h20, h40, hho, hpa, hru⟩ := few_of hn
  obtain ⟨hl40, hok, h12, hmok⟩ := bothN_ok hboth
  have HL := Lib.hid (loads_bound hok)
  have HMo := Lib.hid hmok
  have HHo := Lib.hid hho
  have HPa := Lib.hid hpa
  clear hn hboth hok hmok hho hpa hru
  go_enter Try.func41, Try.ntmps41
  go_wp2_with fail
  refine (checkCargo_any v q p r u ls hs ps rs ms _ HV.out HQ.out HP.out HRr.out HU.out).mono ?_
  rintro e w1 ⟨rfl, hb1⟩
  rw [HN.out]
  go_wp2_with fail
  refine (slacks_any v u ls ms _ (ldLater HV.out hb1) (liLater HU.out hb1) (by omega) (by omega) HL.out HMo.out).mono ?_
  rintro e w2 ⟨sv, rfl, hsk, hb2⟩
  have hB2 := two hb1 hb2
  obtain ⟨as', caps, rfl, hls, hcs⟩ := SlAny.form hsk
  obtain ⟨a0, cap0, rfl, hl0, _⟩ := HQ.out.form
  obtain ⟨a1, cap1, rfl, hl1, _⟩ := HP.out.form
  obtain ⟨a2, cap2, rfl, hl2, _⟩ := HRr.out.form
  have HK := Lib.hid hsk
  clear hsk hb2 hb1
  go_wp2_with fail
  refine (first_any _ _ _ _ hs ps rs (ms.map (slackE ls)) _ (puLater HQ.out hB2) (puLater HP.out hB2) (liLater HRr.out hB2) (by have := HK.out; rw [List.length_map] at this; exact this) h5 h6 HHo.out HPa.out (sk_sc HMo.out)).mono ?_
  rintro e w3 ⟨hb3, (⟨hno, rfl⟩ | ⟨ys, y, hys, rfl, hsl⟩)⟩
  · have HB := Lib.hid (show stowN ls hs ps rs ms = 6 ∧ stowL ls hs ps rs ms = [] by unfold stowN stowL; rw [HN.out, if_pos rfl, if_pos rfl, hno]; exact ⟨rfl, rfl⟩)
    have hB3 := two hB2 hb3
    clear hno hb3
    go_wp2_with fail
    go_returns
    exact ⟨.slice none 0 0, by rw [HB.out.1]; rfl, .inl ⟨HB.out.2, rfl⟩, hB3⟩
  · have HB := Lib.hid (show stowN ls hs ps rs ms = 0 ∧ stowL ls hs ps rs ms = ys by unfold stowN stowL; rw [HN.out, if_pos rfl, if_pos rfl, hys]; exact ⟨rfl, rfl⟩)
    have hB3 := two hB2 hb3
    have HS := Lib.hid hsl
    clear hys hb3 hsl
    go_wp2_with fail
    go_returns
    exact ⟨y, by rw [HB.out.1]; rfl, by rw [HB.out.2]; exact HS.out, hB3⟩
end Go.Proofs.Ytldnpnplgfkebaa
