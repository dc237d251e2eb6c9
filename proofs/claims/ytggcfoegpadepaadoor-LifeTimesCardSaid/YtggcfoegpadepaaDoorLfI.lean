/- life: Weight; the document's Weight. -/
import Derived.Test.YtggcfoegpadepaaDoorLfE
namespace Go.Proofs.YtggcfoegpadepaaDoor
open Go.RowKit
set_option linter.unusedVariables false
set_option maxHeartbeats 800000 in
theorem weight0_any (h k r : Int) (w : World) (htd : Td w) : Calls Tryd.prog 13 #[.agg #[.int .i64 0, .int .i64 h, .int .i64 k], .int .i64 r] w fun e w' => e = .returned (.int .i64 (max (am 1 r 65535 / 4) 1)) ∧ Below w.heap.size w w' := by
  have HS := Lib.hid (fun W => sends_of 0 h k true (by rfl) W)
  have HT : Hid (∀ (W : World) (hb : Below w.heap.size w W), W.cell? ⟨1, 0, none⟩ = some (.int .i64 4)) := Lib.hid (fun (W : World) (hb : Below w.heap.size w W) => htd.later hb 0 (by omega))
  have HA : Hid (∀ W : World, Calls Tryd.prog 31 #[.int .i64 1, .int .i64 r, .int .i64 65535] W fun e w' => e = .returned (.int .i64 (am 1 r 65535)) ∧ w' = W) := Lib.hid (fun W => among_q 1 r 65535 W)
  have a0 := am_lo 1 r 65535 (by omega)
  have a1 := am_hi 1 r 65535
  generalize am 1 r 65535 = a at HA a0 a1 ⊢
  have hq1 : IntKind.i64.wrap (a.tdiv 4) = a / 4 := by rw [Int.tdiv_eq_ediv_of_nonneg (by omega)]; exact IntWalk.i64_in _ ⟨by omega, by omega⟩
  have HQ := Lib.hid hq1
  clear htd hq1
  have hX0 : At3 28 (w.alloc (.cells #[.int .i64 0, .int .i64 h, .int .i64 k] 28)) w.heap.size (.int .i64 0) (.int .i64 h) (.int .i64 k) := at3_new 28 _ _ (.int .i64 0) (.int .i64 h) (.int .i64 k) rfl
  have hb : Below w.heap.size w (w.alloc (.cells #[.int .i64 0, .int .i64 h, .int .i64 k] 28)) := (Below.refl _ _).alloc (Nat.le_refl _) _
  go_enter Tryd.func13, Tryd.ntmps13
  go_upto_region 1 with fail
  generalize (w.alloc (.cells #[.int .i64 0, .int .i64 h, .int .i64 k] 28)) = w2 at hX0 hb ⊢
  generalize hg0 : w.heap.size = g0 at hX0 hb ⊢
  have HG := Lib.hid hg0
  clear hg0
  obtain ⟨_, _, _⟩ := hX0.frees
  obtain ⟨_, _, _⟩ := hX0.cells
  go_wp2_with fail
  refine (HS.out _).mono ?_
  rintro e w3 ⟨rfl, hk3⟩
  have hX0_3 := hX0.later hk3
  have hb3 := hb.trans (hk3.mono (by have := hX0.lt; omega))
  obtain ⟨_, _, _⟩ := hX0_3.frees
  obtain ⟨_, _, _⟩ := hX0_3.cells
  have hc := HT.out _ (by rw [HG.out]; exact hb3)
  go_upto_region 3 with fail
  have hcd : w3.drew.cell? ⟨1, 0, none⟩ = some (.int .i64 4) := hc
  obtain ⟨_, _, _⟩ := hX0_3.drew.cells
  go_region_with (first | (go_at_call 31; refine (HA.out _).mono ?_; rintro e w9 ⟨rfl, hq⟩; subst hq))
  all_goals
    go_wp2_with fail
    go_ret
    refine ⟨?_, by rw [HG.out]; exact hb3.drew⟩
    show Ending.returned (Value.int .i64 (max (IntKind.i64.wrap (a.tdiv 4)) 1)) = _
    rw [HQ.out]
set_option maxHeartbeats 800000 in
theorem weight1_any (h k r : Int) (w : World) (htd : Td w) : Calls Tryd.prog 13 #[.agg #[.int .i64 1, .int .i64 h, .int .i64 k], .int .i64 r] w fun e w' => e = .returned (.int .i64 (max (am 1 r 65535) 1)) ∧ Below w.heap.size w w' := by
  have HS := Lib.hid (fun W => sends_of 1 h k true (by rfl) W)
  have HT : Hid (∀ (W : World) (hb : Below w.heap.size w W), W.cell? ⟨1, 1, none⟩ = some (.int .i64 1)) := Lib.hid (fun (W : World) (hb : Below w.heap.size w W) => htd.later hb 1 (by omega))
  have HA : Hid (∀ W : World, Calls Tryd.prog 31 #[.int .i64 1, .int .i64 r, .int .i64 65535] W fun e w' => e = .returned (.int .i64 (am 1 r 65535)) ∧ w' = W) := Lib.hid (fun W => among_q 1 r 65535 W)
  have a0 := am_lo 1 r 65535 (by omega)
  have a1 := am_hi 1 r 65535
  generalize am 1 r 65535 = a at HA a0 a1 ⊢
  have hq1 : IntKind.i64.wrap a = a := IntWalk.i64_in _ ⟨by omega, by omega⟩
  have HQ := Lib.hid hq1
  clear htd hq1
  have hX0 : At3 28 (w.alloc (.cells #[.int .i64 1, .int .i64 h, .int .i64 k] 28)) w.heap.size (.int .i64 1) (.int .i64 h) (.int .i64 k) := at3_new 28 _ _ (.int .i64 1) (.int .i64 h) (.int .i64 k) rfl
  have hb : Below w.heap.size w (w.alloc (.cells #[.int .i64 1, .int .i64 h, .int .i64 k] 28)) := (Below.refl _ _).alloc (Nat.le_refl _) _
  go_enter Tryd.func13, Tryd.ntmps13
  go_upto_region 1 with fail
  generalize (w.alloc (.cells #[.int .i64 1, .int .i64 h, .int .i64 k] 28)) = w2 at hX0 hb ⊢
  generalize hg0 : w.heap.size = g0 at hX0 hb ⊢
  have HG := Lib.hid hg0
  clear hg0
  obtain ⟨_, _, _⟩ := hX0.frees
  obtain ⟨_, _, _⟩ := hX0.cells
  go_wp2_with fail
  refine (HS.out _).mono ?_
  rintro e w3 ⟨rfl, hk3⟩
  have hX0_3 := hX0.later hk3
  have hb3 := hb.trans (hk3.mono (by have := hX0.lt; omega))
  obtain ⟨_, _, _⟩ := hX0_3.frees
  obtain ⟨_, _, _⟩ := hX0_3.cells
  have hc := HT.out _ (by rw [HG.out]; exact hb3)
  go_upto_region 3 with fail
  have hcd : w3.drew.cell? ⟨1, 1, none⟩ = some (.int .i64 1) := hc
  obtain ⟨_, _, _⟩ := hX0_3.drew.cells
  go_region_with (first | (go_at_call 31; refine (HA.out _).mono ?_; rintro e w9 ⟨rfl, hq⟩; subst hq))
  all_goals
    go_wp2_with fail
    go_ret
    refine ⟨?_, by rw [HG.out]; exact hb3.drew⟩
    show Ending.returned (Value.int .i64 (max (IntKind.i64.wrap a) 1)) = _
    rw [HQ.out]
set_option maxHeartbeats 800000 in
theorem weight2_any (h k r : Int) (w : World) (htd : Td w) : Calls Tryd.prog 13 #[.agg #[.int .i64 2, .int .i64 h, .int .i64 k], .int .i64 r] w fun e w' => e = .returned (.int .i64 (max (am 1 r 65535 / 2) 1)) ∧ Below w.heap.size w w' := by
  have HS := Lib.hid (fun W => sends_of 2 h k true (by rfl) W)
  have HT : Hid (∀ (W : World) (hb : Below w.heap.size w W), W.cell? ⟨1, 2, none⟩ = some (.int .i64 2)) := Lib.hid (fun (W : World) (hb : Below w.heap.size w W) => htd.later hb 2 (by omega))
  have HA : Hid (∀ W : World, Calls Tryd.prog 31 #[.int .i64 1, .int .i64 r, .int .i64 65535] W fun e w' => e = .returned (.int .i64 (am 1 r 65535)) ∧ w' = W) := Lib.hid (fun W => among_q 1 r 65535 W)
  have a0 := am_lo 1 r 65535 (by omega)
  have a1 := am_hi 1 r 65535
  generalize am 1 r 65535 = a at HA a0 a1 ⊢
  have hq1 : IntKind.i64.wrap (a.tdiv 2) = a / 2 := by rw [Int.tdiv_eq_ediv_of_nonneg (by omega)]; exact IntWalk.i64_in _ ⟨by omega, by omega⟩
  have HQ := Lib.hid hq1
  clear htd hq1
  have hX0 : At3 28 (w.alloc (.cells #[.int .i64 2, .int .i64 h, .int .i64 k] 28)) w.heap.size (.int .i64 2) (.int .i64 h) (.int .i64 k) := at3_new 28 _ _ (.int .i64 2) (.int .i64 h) (.int .i64 k) rfl
  have hb : Below w.heap.size w (w.alloc (.cells #[.int .i64 2, .int .i64 h, .int .i64 k] 28)) := (Below.refl _ _).alloc (Nat.le_refl _) _
  go_enter Tryd.func13, Tryd.ntmps13
  go_upto_region 1 with fail
  generalize (w.alloc (.cells #[.int .i64 2, .int .i64 h, .int .i64 k] 28)) = w2 at hX0 hb ⊢
  generalize hg0 : w.heap.size = g0 at hX0 hb ⊢
  have HG := Lib.hid hg0
  clear hg0
  obtain ⟨_, _, _⟩ := hX0.frees
  obtain ⟨_, _, _⟩ := hX0.cells
  go_wp2_with fail
  refine (HS.out _).mono ?_
  rintro e w3 ⟨rfl, hk3⟩
  have hX0_3 := hX0.later hk3
  have hb3 := hb.trans (hk3.mono (by have := hX0.lt; omega))
  obtain ⟨_, _, _⟩ := hX0_3.frees
  obtain ⟨_, _, _⟩ := hX0_3.cells
  have hc := HT.out _ (by rw [HG.out]; exact hb3)
  go_upto_region 3 with fail
  have hcd : w3.drew.cell? ⟨1, 2, none⟩ = some (.int .i64 2) := hc
  obtain ⟨_, _, _⟩ := hX0_3.drew.cells
  go_region_with (first | (go_at_call 31; refine (HA.out _).mono ?_; rintro e w9 ⟨rfl, hq⟩; subst hq))
  all_goals
    go_wp2_with fail
    go_ret
    refine ⟨?_, by rw [HG.out]; exact hb3.drew⟩
    show Ending.returned (Value.int .i64 (max (IntKind.i64.wrap (a.tdiv 2)) 1)) = _
    rw [HQ.out]
theorem weight3_any (s h k r : Int) (hs : stk s = 3) (w : World) : Calls Tryd.prog 13 #[.agg #[.int .i64 s, .int .i64 h, .int .i64 k], .int .i64 r] w fun e w' => e = .returned (.int .i64 0) ∧ Below w.heap.size w w' := by
  have HS := Lib.hid (fun W => sends_of s h k false (by rw [hs]; rfl) W)
  clear hs
  have hX0 : At3 28 (w.alloc (.cells #[.int .i64 s, .int .i64 h, .int .i64 k] 28)) w.heap.size (.int .i64 s) (.int .i64 h) (.int .i64 k) := at3_new 28 _ _ (.int .i64 s) (.int .i64 h) (.int .i64 k) rfl
  have hb : Below w.heap.size w (w.alloc (.cells #[.int .i64 s, .int .i64 h, .int .i64 k] 28)) := (Below.refl _ _).alloc (Nat.le_refl _) _
  go_enter Tryd.func13, Tryd.ntmps13
  go_upto_region 1 with fail
  generalize (w.alloc (.cells #[.int .i64 s, .int .i64 h, .int .i64 k] 28)) = w2 at hX0 hb ⊢
  generalize hg0 : w.heap.size = g0 at hX0 hb ⊢
  have HG := Lib.hid hg0
  clear hg0
  obtain ⟨_, _, _⟩ := hX0.frees
  obtain ⟨_, _, _⟩ := hX0.cells
  go_wp2_with fail
  refine (HS.out _).mono ?_
  rintro e w3 ⟨rfl, hk3⟩
  have hX0_3 := hX0.later hk3
  have hb3 := hb.trans (hk3.mono (by have := hX0.lt; omega))
  obtain ⟨_, _, _⟩ := hX0_3.frees
  obtain ⟨_, _, _⟩ := hX0_3.cells
  go_wp2_with fail
  go_ret
  exact ⟨rfl, by rw [HG.out]; exact hb3⟩
theorem weight_any (l : LL) (r : Int) (w : World) (htd : Td w) : Calls Tryd.prog 13 #[l.val, .int .i64 r] w fun e w' => e = .returned (.int .i64 (wgt l.cnt.s (am 1 r 65535))) ∧ Below w.heap.size w w' := by
  obtain ⟨s, h, k⟩ := l
  have a0 := am_lo 1 r 65535 (by omega)
  simp only [LL.val, LL.cnt]
  have hs := stk_in s
  by_cases h3 : stk s = 3
  · rw [h3]; exact weight3_any s h k r h3 w
  have hid : stk s = s := stk_id s (by unfold stk at *; split at h3 <;> omega) (by unfold stk at *; split at h3 <;> omega)
  rw [hid] at hs h3 ⊢
  have : s = 0 ∨ s = 1 ∨ s = 2 := by omega
  rcases this with rfl | rfl | rfl
  · exact weight0_any h k r w htd
  · refine (weight1_any h k r w htd).mono fun e w' hq => ⟨?_, hq.2⟩
    rw [hq.1, show max (am 1 r 65535) 1 = wgt 1 (am 1 r 65535) by unfold wgt; simp; omega]
  · exact weight2_any h k r w htd
set_option maxHeartbeats 800000 in
theorem refWeight0_any (l : LL) (r h k : Int) (hl : l.cnt = ⟨0, h, k⟩) (w : World) : Calls Tryd.prog 14 #[l.val, .int .i64 r] w fun e w' => e = .returned (.int .i64 (max 1 (max 1 (min r 65535) / 4))) ∧ Below w.heap.size w w' := by
  have HS := Lib.hid (fun W => known_any l W)
  rw [hl] at HS
  clear hl
  obtain ⟨s, h0, k0⟩ := l
  simp only [LL.val] at *
  have hfd : ∀ W : World, (Instr.field 25 (.agg #[.int .i64 0, .int .i64 h, .int .i64 k]) 0).run Tryd.prog W = .ok (.int .i64 0) W := fun _ => by kernel_rfl
  have a0 : 1 ≤ max 1 (min r 65535) := by omega
  have a1 : max 1 (min r 65535) ≤ 65535 := by omega
  have hX0 : At3 25 (w.alloc (.cells #[.int .i64 s, .int .i64 h0, .int .i64 k0] 25)) w.heap.size (.int .i64 s) (.int .i64 h0) (.int .i64 k0) := at3_new 25 _ _ (.int .i64 s) (.int .i64 h0) (.int .i64 k0) rfl
  have hb : Below w.heap.size w (w.alloc (.cells #[.int .i64 s, .int .i64 h0, .int .i64 k0] 25)) := (Below.refl _ _).alloc (Nat.le_refl _) _
  go_enter Tryd.func14, Tryd.ntmps14
  go_upto_region 1 with fail
  generalize (w.alloc (.cells #[.int .i64 s, .int .i64 h0, .int .i64 k0] 25)) = w2 at hX0 hb ⊢
  generalize hg0 : w.heap.size = g0 at hX0 hb ⊢
  have HG := Lib.hid hg0
  clear hg0
  obtain ⟨_, _, _⟩ := hX0.frees
  obtain ⟨_, _, _⟩ := hX0.cells
  go_wp2_with fail
  refine (HS.out _).mono ?_
  rintro e w3 ⟨rfl, hk3⟩
  have hX0_3 := hX0.later hk3
  have hb3 := hb.trans (hk3.mono (by have := hX0.lt; omega))
  obtain ⟨_, _, _⟩ := hX0_3.frees
  obtain ⟨_, _, _⟩ := hX0_3.cells
  go_wp2_with fail
  go_ret
  exact ⟨by first | rfl | simp, by rw [HG.out]; exact hb3⟩
set_option maxHeartbeats 800000 in
theorem refWeight1_any (l : LL) (r h k : Int) (hl : l.cnt = ⟨1, h, k⟩) (w : World) : Calls Tryd.prog 14 #[l.val, .int .i64 r] w fun e w' => e = .returned (.int .i64 (max 1 (min r 65535))) ∧ Below w.heap.size w w' := by
  have HS := Lib.hid (fun W => known_any l W)
  rw [hl] at HS
  clear hl
  obtain ⟨s, h0, k0⟩ := l
  simp only [LL.val] at *
  have hfd : ∀ W : World, (Instr.field 25 (.agg #[.int .i64 1, .int .i64 h, .int .i64 k]) 0).run Tryd.prog W = .ok (.int .i64 1) W := fun _ => by kernel_rfl
  have a0 : 1 ≤ max 1 (min r 65535) := by omega
  have a1 : max 1 (min r 65535) ≤ 65535 := by omega
  have hX0 : At3 25 (w.alloc (.cells #[.int .i64 s, .int .i64 h0, .int .i64 k0] 25)) w.heap.size (.int .i64 s) (.int .i64 h0) (.int .i64 k0) := at3_new 25 _ _ (.int .i64 s) (.int .i64 h0) (.int .i64 k0) rfl
  have hb : Below w.heap.size w (w.alloc (.cells #[.int .i64 s, .int .i64 h0, .int .i64 k0] 25)) := (Below.refl _ _).alloc (Nat.le_refl _) _
  go_enter Tryd.func14, Tryd.ntmps14
  go_upto_region 1 with fail
  generalize (w.alloc (.cells #[.int .i64 s, .int .i64 h0, .int .i64 k0] 25)) = w2 at hX0 hb ⊢
  generalize hg0 : w.heap.size = g0 at hX0 hb ⊢
  have HG := Lib.hid hg0
  clear hg0
  obtain ⟨_, _, _⟩ := hX0.frees
  obtain ⟨_, _, _⟩ := hX0.cells
  go_wp2_with fail
  refine (HS.out _).mono ?_
  rintro e w3 ⟨rfl, hk3⟩
  have hX0_3 := hX0.later hk3
  have hb3 := hb.trans (hk3.mono (by have := hX0.lt; omega))
  obtain ⟨_, _, _⟩ := hX0_3.frees
  obtain ⟨_, _, _⟩ := hX0_3.cells
  go_wp2_with fail
  go_ret
  exact ⟨by first | rfl | simp, by rw [HG.out]; exact hb3⟩
set_option maxHeartbeats 800000 in
theorem refWeight2_any (l : LL) (r h k : Int) (hl : l.cnt = ⟨2, h, k⟩) (w : World) : Calls Tryd.prog 14 #[l.val, .int .i64 r] w fun e w' => e = .returned (.int .i64 (max 1 (max 1 (min r 65535) / 2))) ∧ Below w.heap.size w w' := by
  have HS := Lib.hid (fun W => known_any l W)
  rw [hl] at HS
  clear hl
  obtain ⟨s, h0, k0⟩ := l
  simp only [LL.val] at *
  have hfd : ∀ W : World, (Instr.field 25 (.agg #[.int .i64 2, .int .i64 h, .int .i64 k]) 0).run Tryd.prog W = .ok (.int .i64 2) W := fun _ => by kernel_rfl
  have a0 : 1 ≤ max 1 (min r 65535) := by omega
  have a1 : max 1 (min r 65535) ≤ 65535 := by omega
  have hX0 : At3 25 (w.alloc (.cells #[.int .i64 s, .int .i64 h0, .int .i64 k0] 25)) w.heap.size (.int .i64 s) (.int .i64 h0) (.int .i64 k0) := at3_new 25 _ _ (.int .i64 s) (.int .i64 h0) (.int .i64 k0) rfl
  have hb : Below w.heap.size w (w.alloc (.cells #[.int .i64 s, .int .i64 h0, .int .i64 k0] 25)) := (Below.refl _ _).alloc (Nat.le_refl _) _
  go_enter Tryd.func14, Tryd.ntmps14
  go_upto_region 1 with fail
  generalize (w.alloc (.cells #[.int .i64 s, .int .i64 h0, .int .i64 k0] 25)) = w2 at hX0 hb ⊢
  generalize hg0 : w.heap.size = g0 at hX0 hb ⊢
  have HG := Lib.hid hg0
  clear hg0
  obtain ⟨_, _, _⟩ := hX0.frees
  obtain ⟨_, _, _⟩ := hX0.cells
  go_wp2_with fail
  refine (HS.out _).mono ?_
  rintro e w3 ⟨rfl, hk3⟩
  have hX0_3 := hX0.later hk3
  have hb3 := hb.trans (hk3.mono (by have := hX0.lt; omega))
  obtain ⟨_, _, _⟩ := hX0_3.frees
  obtain ⟨_, _, _⟩ := hX0_3.cells
  go_wp2_with fail
  go_ret
  exact ⟨by first | rfl | simp, by rw [HG.out]; exact hb3⟩
set_option maxHeartbeats 800000 in
theorem refWeight3_any (l : LL) (r h k : Int) (hl : l.cnt = ⟨3, h, k⟩) (w : World) : Calls Tryd.prog 14 #[l.val, .int .i64 r] w fun e w' => e = .returned (.int .i64 (0)) ∧ Below w.heap.size w w' := by
  have HS := Lib.hid (fun W => known_any l W)
  rw [hl] at HS
  clear hl
  obtain ⟨s, h0, k0⟩ := l
  simp only [LL.val] at *
  have hfd : ∀ W : World, (Instr.field 25 (.agg #[.int .i64 3, .int .i64 h, .int .i64 k]) 0).run Tryd.prog W = .ok (.int .i64 3) W := fun _ => by kernel_rfl
  have a0 : 1 ≤ max 1 (min r 65535) := by omega
  have a1 : max 1 (min r 65535) ≤ 65535 := by omega
  have hX0 : At3 25 (w.alloc (.cells #[.int .i64 s, .int .i64 h0, .int .i64 k0] 25)) w.heap.size (.int .i64 s) (.int .i64 h0) (.int .i64 k0) := at3_new 25 _ _ (.int .i64 s) (.int .i64 h0) (.int .i64 k0) rfl
  have hb : Below w.heap.size w (w.alloc (.cells #[.int .i64 s, .int .i64 h0, .int .i64 k0] 25)) := (Below.refl _ _).alloc (Nat.le_refl _) _
  go_enter Tryd.func14, Tryd.ntmps14
  go_upto_region 1 with fail
  generalize (w.alloc (.cells #[.int .i64 s, .int .i64 h0, .int .i64 k0] 25)) = w2 at hX0 hb ⊢
  generalize hg0 : w.heap.size = g0 at hX0 hb ⊢
  have HG := Lib.hid hg0
  clear hg0
  obtain ⟨_, _, _⟩ := hX0.frees
  obtain ⟨_, _, _⟩ := hX0.cells
  go_wp2_with fail
  refine (HS.out _).mono ?_
  rintro e w3 ⟨rfl, hk3⟩
  have hX0_3 := hX0.later hk3
  have hb3 := hb.trans (hk3.mono (by have := hX0.lt; omega))
  obtain ⟨_, _, _⟩ := hX0_3.frees
  obtain ⟨_, _, _⟩ := hX0_3.cells
  go_wp2_with fail
  go_ret
  exact ⟨by first | rfl | simp, by rw [HG.out]; exact hb3⟩
theorem refWeight_any (l : LL) (r : Int) (w : World) : Calls Tryd.prog 14 #[l.val, .int .i64 r] w fun e w' => e = .returned (.int .i64 (wgt l.cnt.s (am 1 r 65535))) ∧ Below w.heap.size w w' := by
  have ho := l.cnt_ok
  have e1 := am_alt 1 r 65535 (by omega)
  have a0 := am_lo 1 r 65535 (by omega)
  generalize hc : l.cnt = c at ho ⊢
  obtain ⟨s, h, k⟩ := c
  obtain ⟨o1, o2, -, -, -⟩ := ho
  simp only at o1 o2 ⊢
  have : s = 0 ∨ s = 1 ∨ s = 2 ∨ s = 3 := by omega
  rcases this with rfl | rfl | rfl | rfl
  · refine (refWeight0_any l r h k hc w).mono fun e w' hq => ⟨?_, hq.2⟩
    rw [hq.1, e1]; simp only [wgt]; simp; omega
  · refine (refWeight1_any l r h k hc w).mono fun e w' hq => ⟨?_, hq.2⟩
    rw [hq.1, e1]; simp only [wgt]; simp
  · refine (refWeight2_any l r h k hc w).mono fun e w' hq => ⟨?_, hq.2⟩
    rw [hq.1, e1]; simp only [wgt]; simp; omega
  · refine (refWeight3_any l r h k hc w).mono fun e w' hq => ⟨?_, hq.2⟩
    rw [hq.1]; simp only [wgt]; simp
end Go.Proofs.YtggcfoegpadepaaDoor
