/- life: counted, Known, ended, New, Sends. -/
import Derived.Test.YtggcfoegpadepaaDoorLfC
namespace Go.Proofs.YtggcfoegpadepaaDoor
open Go.RowKit
set_option linter.unusedVariables false
set_option maxHeartbeats 800000 in
theorem cntd0_any (s h k : Int) (h0 : s < 0) (w : World) : Calls Tryd.prog 25 #[.agg #[.int .i64 s, .int .i64 h, .int .i64 k]] w fun e w' => e = .returned (.agg #[.int .i64 3, .int .i64 (am 0 h 1099511627776), .int .i64 (max k 0)]) ∧ Below w.heap.size w w' := by
  have hX0 : At3 28 ((w.alloc (.cells #[.int .i64 s, .int .i64 h, .int .i64 k] 28)).alloc (.cells #[.int .i64 0, .int .i64 0, .int .i64 0] 28)) w.heap.size (.int .i64 s) (.int .i64 h) (.int .i64 k) := (at3_new 28 _ _ (.int .i64 s) (.int .i64 h) (.int .i64 k) rfl).alloc _
  have hX1 : At3 28 ((w.alloc (.cells #[.int .i64 s, .int .i64 h, .int .i64 k] 28)).alloc (.cells #[.int .i64 0, .int .i64 0, .int .i64 0] 28)) (w.heap.size + 1) (.int .i64 0) (.int .i64 0) (.int .i64 0) := at3_new 28 _ _ (.int .i64 0) (.int .i64 0) (.int .i64 0) (by simp)
  have hb : Below w.heap.size w ((w.alloc (.cells #[.int .i64 s, .int .i64 h, .int .i64 k] 28)).alloc (.cells #[.int .i64 0, .int .i64 0, .int .i64 0] 28)) := ((Below.refl _ _).alloc (Nat.le_refl _) _).alloc (by simp) _
  go_enter Tryd.func25, Tryd.ntmps25
  go_upto_region 1 with fail
  generalize ((w.alloc (.cells #[.int .i64 s, .int .i64 h, .int .i64 k] 28)).alloc (.cells #[.int .i64 0, .int .i64 0, .int .i64 0] 28)) = w2 at hX0 hX1 hb ⊢
  generalize hg1 : w.heap.size + 1 = g1 at hX1 ⊢
  generalize hg0 : w.heap.size = g0 at hX0 hb hg1 ⊢
  have hne01 : g0 ≠ g1 := by omega
  have hle1 : g0 ≤ g1 := by omega
  have hne10 : g1 ≠ g0 := by omega
  have HG := Lib.hid hg0
  clear hg0 hg1
  obtain ⟨_, _, _⟩ := hX0.frees
  obtain ⟨_, _, _⟩ := hX0.cells
  obtain ⟨_, _, _⟩ := hX1.frees
  obtain ⟨_, _, _⟩ := hX1.cells
  go_upto_region 3 with fail
  have hX0_3 := (at3_set0 hX0 (.int .i64 3))
  have ho3 := ((Only.refl g0 w2).setCell 0 (.int .i64 3))
  have hX1_3 := hX1.only hne10 ho3
  have hb3 := hb.trans (ho3.below (Nat.le_refl _))
  generalize (w2.setCell ⟨g0, 0, none⟩ (.int .i64 3)) = w3 at hX0_3 hX1_3 hb3 ⊢
  clear ho3
  obtain ⟨_, _, _⟩ := hX0_3.frees
  obtain ⟨_, _, _⟩ := hX0_3.cells
  obtain ⟨_, _, _⟩ := hX1_3.frees
  obtain ⟨_, _, _⟩ := hX1_3.cells
  go_region_held3 (fun W => W.cell? ⟨g0, 0, none⟩ = some (.int .i64 3) ∧ W.cell? ⟨g0, 1, none⟩ = some (.int .i64 h) ∧ W.cell? ⟨g0, 2, none⟩ = some (.int .i64 k)) (first | (go_keep; done) | with_reducible exact hX0_3.drew.cells) (first | (go_at_call 26; refine (lfTick_q _ _).mono ?_; rintro e w' ⟨rfl, hq⟩; subst hq))
  all_goals
    have hZ := at3_store hX1_3 (.int .i64 3) (.int .i64 (am 0 h 1099511627776)) (.int .i64 (max k 0))
    have hbz := hb3.trans ((store3_only w3 g1 (.int .i64 3) (.int .i64 (am 0 h 1099511627776)) (.int .i64 (max k 0))).below hle1)
    obtain ⟨d0, d1, d2⟩ := hZ.cells
    go_wp2_with fail
    refine bodyPost_ret (v := .agg #[.int .i64 3, .int .i64 (am 0 h 1099511627776), .int .i64 (max k 0)]) (by simp [results, Tryd.results25, go_sem, d0, d1, d2]) rfl ⟨rfl, by rw [HG.out]; exact hbz.drew⟩
set_option maxHeartbeats 800000 in
theorem cntd1_any (s h k : Int) (h0 : 3 < s)  (w : World) : Calls Tryd.prog 25 #[.agg #[.int .i64 s, .int .i64 h, .int .i64 k]] w fun e w' => e = .returned (.agg #[.int .i64 3, .int .i64 (am 0 h 1099511627776), .int .i64 (max k 0)]) ∧ Below w.heap.size w w' := by
  have hX0 : At3 28 ((w.alloc (.cells #[.int .i64 s, .int .i64 h, .int .i64 k] 28)).alloc (.cells #[.int .i64 0, .int .i64 0, .int .i64 0] 28)) w.heap.size (.int .i64 s) (.int .i64 h) (.int .i64 k) := (at3_new 28 _ _ (.int .i64 s) (.int .i64 h) (.int .i64 k) rfl).alloc _
  have hX1 : At3 28 ((w.alloc (.cells #[.int .i64 s, .int .i64 h, .int .i64 k] 28)).alloc (.cells #[.int .i64 0, .int .i64 0, .int .i64 0] 28)) (w.heap.size + 1) (.int .i64 0) (.int .i64 0) (.int .i64 0) := at3_new 28 _ _ (.int .i64 0) (.int .i64 0) (.int .i64 0) (by simp)
  have hb : Below w.heap.size w ((w.alloc (.cells #[.int .i64 s, .int .i64 h, .int .i64 k] 28)).alloc (.cells #[.int .i64 0, .int .i64 0, .int .i64 0] 28)) := ((Below.refl _ _).alloc (Nat.le_refl _) _).alloc (by simp) _
  go_enter Tryd.func25, Tryd.ntmps25
  go_upto_region 1 with fail
  generalize ((w.alloc (.cells #[.int .i64 s, .int .i64 h, .int .i64 k] 28)).alloc (.cells #[.int .i64 0, .int .i64 0, .int .i64 0] 28)) = w2 at hX0 hX1 hb ⊢
  generalize hg1 : w.heap.size + 1 = g1 at hX1 ⊢
  generalize hg0 : w.heap.size = g0 at hX0 hb hg1 ⊢
  have hne01 : g0 ≠ g1 := by omega
  have hle1 : g0 ≤ g1 := by omega
  have hne10 : g1 ≠ g0 := by omega
  have HG := Lib.hid hg0
  clear hg0 hg1
  obtain ⟨_, _, _⟩ := hX0.frees
  obtain ⟨_, _, _⟩ := hX0.cells
  obtain ⟨_, _, _⟩ := hX1.frees
  obtain ⟨_, _, _⟩ := hX1.cells
  go_upto_region 3 with fail
  have hX0_3 := (at3_set0 hX0 (.int .i64 3))
  have ho3 := ((Only.refl g0 w2).setCell 0 (.int .i64 3))
  have hX1_3 := hX1.only hne10 ho3
  have hb3 := hb.trans (ho3.below (Nat.le_refl _))
  generalize (w2.setCell ⟨g0, 0, none⟩ (.int .i64 3)) = w3 at hX0_3 hX1_3 hb3 ⊢
  clear ho3
  obtain ⟨_, _, _⟩ := hX0_3.frees
  obtain ⟨_, _, _⟩ := hX0_3.cells
  obtain ⟨_, _, _⟩ := hX1_3.frees
  obtain ⟨_, _, _⟩ := hX1_3.cells
  go_region_held3 (fun W => W.cell? ⟨g0, 0, none⟩ = some (.int .i64 3) ∧ W.cell? ⟨g0, 1, none⟩ = some (.int .i64 h) ∧ W.cell? ⟨g0, 2, none⟩ = some (.int .i64 k)) (first | (go_keep; done) | with_reducible exact hX0_3.drew.cells) (first | (go_at_call 26; refine (lfTick_q _ _).mono ?_; rintro e w' ⟨rfl, hq⟩; subst hq))
  all_goals
    have hZ := at3_store hX1_3 (.int .i64 3) (.int .i64 (am 0 h 1099511627776)) (.int .i64 (max k 0))
    have hbz := hb3.trans ((store3_only w3 g1 (.int .i64 3) (.int .i64 (am 0 h 1099511627776)) (.int .i64 (max k 0))).below hle1)
    obtain ⟨d0, d1, d2⟩ := hZ.cells
    go_wp2_with fail
    refine bodyPost_ret (v := .agg #[.int .i64 3, .int .i64 (am 0 h 1099511627776), .int .i64 (max k 0)]) (by simp [results, Tryd.results25, go_sem, d0, d1, d2]) rfl ⟨rfl, by rw [HG.out]; exact hbz.drew⟩
set_option maxHeartbeats 800000 in
theorem cntd2_any (s h k : Int) (h0 : 0 ≤ s) (h1 : s ≤ 3) (w : World) : Calls Tryd.prog 25 #[.agg #[.int .i64 s, .int .i64 h, .int .i64 k]] w fun e w' => e = .returned (.agg #[.int .i64 s, .int .i64 (am 0 h 1099511627776), .int .i64 (max k 0)]) ∧ Below w.heap.size w w' := by
  have hX0 : At3 28 ((w.alloc (.cells #[.int .i64 s, .int .i64 h, .int .i64 k] 28)).alloc (.cells #[.int .i64 0, .int .i64 0, .int .i64 0] 28)) w.heap.size (.int .i64 s) (.int .i64 h) (.int .i64 k) := (at3_new 28 _ _ (.int .i64 s) (.int .i64 h) (.int .i64 k) rfl).alloc _
  have hX1 : At3 28 ((w.alloc (.cells #[.int .i64 s, .int .i64 h, .int .i64 k] 28)).alloc (.cells #[.int .i64 0, .int .i64 0, .int .i64 0] 28)) (w.heap.size + 1) (.int .i64 0) (.int .i64 0) (.int .i64 0) := at3_new 28 _ _ (.int .i64 0) (.int .i64 0) (.int .i64 0) (by simp)
  have hb : Below w.heap.size w ((w.alloc (.cells #[.int .i64 s, .int .i64 h, .int .i64 k] 28)).alloc (.cells #[.int .i64 0, .int .i64 0, .int .i64 0] 28)) := ((Below.refl _ _).alloc (Nat.le_refl _) _).alloc (by simp) _
  go_enter Tryd.func25, Tryd.ntmps25
  go_upto_region 1 with fail
  generalize ((w.alloc (.cells #[.int .i64 s, .int .i64 h, .int .i64 k] 28)).alloc (.cells #[.int .i64 0, .int .i64 0, .int .i64 0] 28)) = w2 at hX0 hX1 hb ⊢
  generalize hg1 : w.heap.size + 1 = g1 at hX1 ⊢
  generalize hg0 : w.heap.size = g0 at hX0 hb hg1 ⊢
  have hne01 : g0 ≠ g1 := by omega
  have hle1 : g0 ≤ g1 := by omega
  have hne10 : g1 ≠ g0 := by omega
  have HG := Lib.hid hg0
  clear hg0 hg1
  obtain ⟨_, _, _⟩ := hX0.frees
  obtain ⟨_, _, _⟩ := hX0.cells
  obtain ⟨_, _, _⟩ := hX1.frees
  obtain ⟨_, _, _⟩ := hX1.cells
  go_upto_region 3 with fail
  go_region_held3 (fun W => W.cell? ⟨g0, 0, none⟩ = some (.int .i64 s) ∧ W.cell? ⟨g0, 1, none⟩ = some (.int .i64 h) ∧ W.cell? ⟨g0, 2, none⟩ = some (.int .i64 k)) (first | (go_keep; done) | with_reducible exact hX0.drew.cells) (first | (go_at_call 26; refine (lfTick_q _ _).mono ?_; rintro e w' ⟨rfl, hq⟩; subst hq))
  all_goals
    have hZ := at3_store hX1 (.int .i64 s) (.int .i64 (am 0 h 1099511627776)) (.int .i64 (max k 0))
    have hbz := hb.trans ((store3_only w2 g1 (.int .i64 s) (.int .i64 (am 0 h 1099511627776)) (.int .i64 (max k 0))).below hle1)
    obtain ⟨d0, d1, d2⟩ := hZ.cells
    go_wp2_with fail
    refine bodyPost_ret (v := .agg #[.int .i64 s, .int .i64 (am 0 h 1099511627776), .int .i64 (max k 0)]) (by simp [results, Tryd.results25, go_sem, d0, d1, d2]) rfl ⟨rfl, by rw [HG.out]; exact hbz.drew⟩
set_option maxHeartbeats 800000 in
theorem known0_any (s h k : Int) (h0 : s < 0) (w : World) : Calls Tryd.prog 28 #[.agg #[.int .i64 s, .int .i64 h, .int .i64 k]] w fun e w' => e = .returned (.agg #[.int .i64 3, .int .i64 (am 0 h 1099511627776), .int .i64 (max 0 k)]) ∧ Below w.heap.size w w' := by
  have hX0 : At3 25 ((w.alloc (.cells #[.int .i64 s, .int .i64 h, .int .i64 k] 25)).alloc (.cells #[.int .i64 0, .int .i64 0, .int .i64 0] 25)) w.heap.size (.int .i64 s) (.int .i64 h) (.int .i64 k) := (at3_new 25 _ _ (.int .i64 s) (.int .i64 h) (.int .i64 k) rfl).alloc _
  have hX1 : At3 25 ((w.alloc (.cells #[.int .i64 s, .int .i64 h, .int .i64 k] 25)).alloc (.cells #[.int .i64 0, .int .i64 0, .int .i64 0] 25)) (w.heap.size + 1) (.int .i64 0) (.int .i64 0) (.int .i64 0) := at3_new 25 _ _ (.int .i64 0) (.int .i64 0) (.int .i64 0) (by simp)
  have hb : Below w.heap.size w ((w.alloc (.cells #[.int .i64 s, .int .i64 h, .int .i64 k] 25)).alloc (.cells #[.int .i64 0, .int .i64 0, .int .i64 0] 25)) := ((Below.refl _ _).alloc (Nat.le_refl _) _).alloc (by simp) _
  go_enter Tryd.func28, Tryd.ntmps28
  go_upto_region 1 with fail
  generalize ((w.alloc (.cells #[.int .i64 s, .int .i64 h, .int .i64 k] 25)).alloc (.cells #[.int .i64 0, .int .i64 0, .int .i64 0] 25)) = w2 at hX0 hX1 hb ⊢
  generalize hg1 : w.heap.size + 1 = g1 at hX1 ⊢
  generalize hg0 : w.heap.size = g0 at hX0 hb hg1 ⊢
  have hne01 : g0 ≠ g1 := by omega
  have hle1 : g0 ≤ g1 := by omega
  have hne10 : g1 ≠ g0 := by omega
  have HG := Lib.hid hg0
  clear hg0 hg1
  obtain ⟨_, _, _⟩ := hX0.frees
  obtain ⟨_, _, _⟩ := hX0.cells
  obtain ⟨_, _, _⟩ := hX1.frees
  obtain ⟨_, _, _⟩ := hX1.cells
  go_upto_region 3 with fail
  have hX0_3 := (at3_set0 hX0 (.int .i64 3))
  have ho3 := ((Only.refl g0 w2).setCell 0 (.int .i64 3))
  have hX1_3 := hX1.only hne10 ho3
  have hb3 := hb.trans (ho3.below (Nat.le_refl _))
  generalize (w2.setCell ⟨g0, 0, none⟩ (.int .i64 3)) = w3 at hX0_3 hX1_3 hb3 ⊢
  clear ho3
  obtain ⟨_, _, _⟩ := hX0_3.frees
  obtain ⟨_, _, _⟩ := hX0_3.cells
  obtain ⟨_, _, _⟩ := hX1_3.frees
  obtain ⟨_, _, _⟩ := hX1_3.cells
  go_region_held3 (fun W => W.cell? ⟨g0, 0, none⟩ = some (.int .i64 3) ∧ W.cell? ⟨g0, 1, none⟩ = some (.int .i64 h) ∧ W.cell? ⟨g0, 2, none⟩ = some (.int .i64 k)) (first | (go_keep; done) | with_reducible exact hX0_3.drew.cells) (first | (go_at_call 29; refine (refLfTick_q _ _).mono ?_; rintro e w' ⟨rfl, hq⟩; subst hq))
  all_goals
    have hZ := at3_store hX1_3 (.int .i64 3) (.int .i64 (am 0 h 1099511627776)) (.int .i64 (max 0 k))
    have hbz := hb3.trans ((store3_only w3 g1 (.int .i64 3) (.int .i64 (am 0 h 1099511627776)) (.int .i64 (max 0 k))).below hle1)
    obtain ⟨d0, d1, d2⟩ := hZ.cells
    go_wp2_with fail
    refine bodyPost_ret (v := .agg #[.int .i64 3, .int .i64 (am 0 h 1099511627776), .int .i64 (max 0 k)]) (by simp [results, Tryd.results28, go_sem, d0, d1, d2]) rfl ⟨rfl, by rw [HG.out]; exact hbz.drew⟩
set_option maxHeartbeats 800000 in
theorem known1_any (s h k : Int) (h0 : 3 < s)  (w : World) : Calls Tryd.prog 28 #[.agg #[.int .i64 s, .int .i64 h, .int .i64 k]] w fun e w' => e = .returned (.agg #[.int .i64 3, .int .i64 (am 0 h 1099511627776), .int .i64 (max 0 k)]) ∧ Below w.heap.size w w' := by
  have hX0 : At3 25 ((w.alloc (.cells #[.int .i64 s, .int .i64 h, .int .i64 k] 25)).alloc (.cells #[.int .i64 0, .int .i64 0, .int .i64 0] 25)) w.heap.size (.int .i64 s) (.int .i64 h) (.int .i64 k) := (at3_new 25 _ _ (.int .i64 s) (.int .i64 h) (.int .i64 k) rfl).alloc _
  have hX1 : At3 25 ((w.alloc (.cells #[.int .i64 s, .int .i64 h, .int .i64 k] 25)).alloc (.cells #[.int .i64 0, .int .i64 0, .int .i64 0] 25)) (w.heap.size + 1) (.int .i64 0) (.int .i64 0) (.int .i64 0) := at3_new 25 _ _ (.int .i64 0) (.int .i64 0) (.int .i64 0) (by simp)
  have hb : Below w.heap.size w ((w.alloc (.cells #[.int .i64 s, .int .i64 h, .int .i64 k] 25)).alloc (.cells #[.int .i64 0, .int .i64 0, .int .i64 0] 25)) := ((Below.refl _ _).alloc (Nat.le_refl _) _).alloc (by simp) _
  go_enter Tryd.func28, Tryd.ntmps28
  go_upto_region 1 with fail
  generalize ((w.alloc (.cells #[.int .i64 s, .int .i64 h, .int .i64 k] 25)).alloc (.cells #[.int .i64 0, .int .i64 0, .int .i64 0] 25)) = w2 at hX0 hX1 hb ⊢
  generalize hg1 : w.heap.size + 1 = g1 at hX1 ⊢
  generalize hg0 : w.heap.size = g0 at hX0 hb hg1 ⊢
  have hne01 : g0 ≠ g1 := by omega
  have hle1 : g0 ≤ g1 := by omega
  have hne10 : g1 ≠ g0 := by omega
  have HG := Lib.hid hg0
  clear hg0 hg1
  obtain ⟨_, _, _⟩ := hX0.frees
  obtain ⟨_, _, _⟩ := hX0.cells
  obtain ⟨_, _, _⟩ := hX1.frees
  obtain ⟨_, _, _⟩ := hX1.cells
  go_upto_region 3 with fail
  have hX0_3 := (at3_set0 hX0 (.int .i64 3))
  have ho3 := ((Only.refl g0 w2).setCell 0 (.int .i64 3))
  have hX1_3 := hX1.only hne10 ho3
  have hb3 := hb.trans (ho3.below (Nat.le_refl _))
  generalize (w2.setCell ⟨g0, 0, none⟩ (.int .i64 3)) = w3 at hX0_3 hX1_3 hb3 ⊢
  clear ho3
  obtain ⟨_, _, _⟩ := hX0_3.frees
  obtain ⟨_, _, _⟩ := hX0_3.cells
  obtain ⟨_, _, _⟩ := hX1_3.frees
  obtain ⟨_, _, _⟩ := hX1_3.cells
  go_region_held3 (fun W => W.cell? ⟨g0, 0, none⟩ = some (.int .i64 3) ∧ W.cell? ⟨g0, 1, none⟩ = some (.int .i64 h) ∧ W.cell? ⟨g0, 2, none⟩ = some (.int .i64 k)) (first | (go_keep; done) | with_reducible exact hX0_3.drew.cells) (first | (go_at_call 29; refine (refLfTick_q _ _).mono ?_; rintro e w' ⟨rfl, hq⟩; subst hq))
  all_goals
    have hZ := at3_store hX1_3 (.int .i64 3) (.int .i64 (am 0 h 1099511627776)) (.int .i64 (max 0 k))
    have hbz := hb3.trans ((store3_only w3 g1 (.int .i64 3) (.int .i64 (am 0 h 1099511627776)) (.int .i64 (max 0 k))).below hle1)
    obtain ⟨d0, d1, d2⟩ := hZ.cells
    go_wp2_with fail
    refine bodyPost_ret (v := .agg #[.int .i64 3, .int .i64 (am 0 h 1099511627776), .int .i64 (max 0 k)]) (by simp [results, Tryd.results28, go_sem, d0, d1, d2]) rfl ⟨rfl, by rw [HG.out]; exact hbz.drew⟩
set_option maxHeartbeats 800000 in
theorem known2_any (s h k : Int) (h0 : 0 ≤ s) (h1 : s ≤ 3) (w : World) : Calls Tryd.prog 28 #[.agg #[.int .i64 s, .int .i64 h, .int .i64 k]] w fun e w' => e = .returned (.agg #[.int .i64 s, .int .i64 (am 0 h 1099511627776), .int .i64 (max 0 k)]) ∧ Below w.heap.size w w' := by
  have hX0 : At3 25 ((w.alloc (.cells #[.int .i64 s, .int .i64 h, .int .i64 k] 25)).alloc (.cells #[.int .i64 0, .int .i64 0, .int .i64 0] 25)) w.heap.size (.int .i64 s) (.int .i64 h) (.int .i64 k) := (at3_new 25 _ _ (.int .i64 s) (.int .i64 h) (.int .i64 k) rfl).alloc _
  have hX1 : At3 25 ((w.alloc (.cells #[.int .i64 s, .int .i64 h, .int .i64 k] 25)).alloc (.cells #[.int .i64 0, .int .i64 0, .int .i64 0] 25)) (w.heap.size + 1) (.int .i64 0) (.int .i64 0) (.int .i64 0) := at3_new 25 _ _ (.int .i64 0) (.int .i64 0) (.int .i64 0) (by simp)
  have hb : Below w.heap.size w ((w.alloc (.cells #[.int .i64 s, .int .i64 h, .int .i64 k] 25)).alloc (.cells #[.int .i64 0, .int .i64 0, .int .i64 0] 25)) := ((Below.refl _ _).alloc (Nat.le_refl _) _).alloc (by simp) _
  go_enter Tryd.func28, Tryd.ntmps28
  go_upto_region 1 with fail
  generalize ((w.alloc (.cells #[.int .i64 s, .int .i64 h, .int .i64 k] 25)).alloc (.cells #[.int .i64 0, .int .i64 0, .int .i64 0] 25)) = w2 at hX0 hX1 hb ⊢
  generalize hg1 : w.heap.size + 1 = g1 at hX1 ⊢
  generalize hg0 : w.heap.size = g0 at hX0 hb hg1 ⊢
  have hne01 : g0 ≠ g1 := by omega
  have hle1 : g0 ≤ g1 := by omega
  have hne10 : g1 ≠ g0 := by omega
  have HG := Lib.hid hg0
  clear hg0 hg1
  obtain ⟨_, _, _⟩ := hX0.frees
  obtain ⟨_, _, _⟩ := hX0.cells
  obtain ⟨_, _, _⟩ := hX1.frees
  obtain ⟨_, _, _⟩ := hX1.cells
  go_upto_region 3 with fail
  go_region_held3 (fun W => W.cell? ⟨g0, 0, none⟩ = some (.int .i64 s) ∧ W.cell? ⟨g0, 1, none⟩ = some (.int .i64 h) ∧ W.cell? ⟨g0, 2, none⟩ = some (.int .i64 k)) (first | (go_keep; done) | with_reducible exact hX0.drew.cells) (first | (go_at_call 29; refine (refLfTick_q _ _).mono ?_; rintro e w' ⟨rfl, hq⟩; subst hq))
  all_goals
    have hZ := at3_store hX1 (.int .i64 s) (.int .i64 (am 0 h 1099511627776)) (.int .i64 (max 0 k))
    have hbz := hb.trans ((store3_only w2 g1 (.int .i64 s) (.int .i64 (am 0 h 1099511627776)) (.int .i64 (max 0 k))).below hle1)
    obtain ⟨d0, d1, d2⟩ := hZ.cells
    go_wp2_with fail
    refine bodyPost_ret (v := .agg #[.int .i64 s, .int .i64 (am 0 h 1099511627776), .int .i64 (max 0 k)]) (by simp [results, Tryd.results28, go_sem, d0, d1, d2]) rfl ⟨rfl, by rw [HG.out]; exact hbz.drew⟩
theorem cntd_any (l : LL) (w : World) : Calls Tryd.prog 25 #[l.val] w fun e w' => e = .returned l.cnt.val ∧ Below w.heap.size w w' := by
  obtain ⟨s, h, k⟩ := l
  simp only [LL.val, LL.cnt, stk]
  by_cases h0 : s < 0
  · rw [if_pos (Or.inl h0)]; exact cntd0_any s h k h0 w
  by_cases h1 : 3 < s
  · rw [if_pos (Or.inr h1)]; exact cntd1_any s h k h1 w
  rw [if_neg (by omega)]; exact cntd2_any s h k (by omega) (by omega) w
theorem known_any (l : LL) (w : World) : Calls Tryd.prog 28 #[l.val] w fun e w' => e = .returned l.cnt.val ∧ Below w.heap.size w w' := by
  obtain ⟨s, h, k⟩ := l
  simp only [LL.val, LL.cnt, stk]
  rw [show max k 0 = max 0 k by omega]
  by_cases h0 : s < 0
  · rw [if_pos (Or.inl h0)]; exact known0_any s h k h0 w
  by_cases h1 : 3 < s
  · rw [if_pos (Or.inr h1)]; exact known1_any s h k h1 w
  rw [if_neg (by omega)]; exact known2_any s h k (by omega) (by omega) w
theorem ended_any (s h k : Int) (w : World) : Calls Tryd.prog 30 #[.agg #[.int .i64 s, .int .i64 h, .int .i64 k]] w fun e w' => e = .returned (.agg #[.int .i64 3, .int .i64 h, .int .i64 0]) ∧ Below w.heap.size w w' := by
  have hX0 : At3 28 ((w.alloc (.cells #[.int .i64 s, .int .i64 h, .int .i64 k] 28)).alloc (.cells #[.int .i64 0, .int .i64 0, .int .i64 0] 28)) w.heap.size (.int .i64 s) (.int .i64 h) (.int .i64 k) := (at3_new 28 _ _ (.int .i64 s) (.int .i64 h) (.int .i64 k) rfl).alloc _
  have hX1 : At3 28 ((w.alloc (.cells #[.int .i64 s, .int .i64 h, .int .i64 k] 28)).alloc (.cells #[.int .i64 0, .int .i64 0, .int .i64 0] 28)) (w.heap.size + 1) (.int .i64 0) (.int .i64 0) (.int .i64 0) := at3_new 28 _ _ (.int .i64 0) (.int .i64 0) (.int .i64 0) (by simp)
  have hb : Below w.heap.size w ((w.alloc (.cells #[.int .i64 s, .int .i64 h, .int .i64 k] 28)).alloc (.cells #[.int .i64 0, .int .i64 0, .int .i64 0] 28)) := ((Below.refl _ _).alloc (Nat.le_refl _) _).alloc (by simp) _
  go_enter Tryd.func30, Tryd.ntmps30
  go_upto_region 1 with fail
  generalize ((w.alloc (.cells #[.int .i64 s, .int .i64 h, .int .i64 k] 28)).alloc (.cells #[.int .i64 0, .int .i64 0, .int .i64 0] 28)) = w2 at hX0 hX1 hb ⊢
  generalize hg1 : w.heap.size + 1 = g1 at hX1 ⊢
  generalize hg0 : w.heap.size = g0 at hX0 hb hg1 ⊢
  have hne01 : g0 ≠ g1 := by omega
  have hle1 : g0 ≤ g1 := by omega
  have hne10 : g1 ≠ g0 := by omega
  have HG := Lib.hid hg0
  clear hg0 hg1
  obtain ⟨_, _, _⟩ := hX0.frees
  obtain ⟨_, _, _⟩ := hX0.cells
  obtain ⟨_, _, _⟩ := hX1.frees
  obtain ⟨_, _, _⟩ := hX1.cells
  have hZ := at3_store hX1 (.int .i64 3) (.int .i64 h) (.int .i64 0)
  have hbz := hb.trans ((store3_only w2 g1 (.int .i64 3) (.int .i64 h) (.int .i64 0)).below hle1)
  obtain ⟨d0, d1, d2⟩ := hZ.cells
  go_wp2_with fail
  refine bodyPost_ret (v := .agg #[.int .i64 3, .int .i64 h, .int .i64 0]) (by simp [results, Tryd.results30, go_sem, d0, d1, d2]) rfl ⟨rfl, by rw [HG.out]; exact hbz⟩
theorem lfNew_any (n : Int) (w : World) : Calls Tryd.prog 17 #[.int .i64 n] w fun e w' => e = .returned (.agg #[.int .i64 0, .int .i64 (am 0 n 1099511627776), .int .i64 0]) ∧ Below w.heap.size w w' := by
  have hX0 : At3 28 (w.alloc (.cells #[.int .i64 0, .int .i64 0, .int .i64 0] 28)) w.heap.size (.int .i64 0) (.int .i64 0) (.int .i64 0) := at3_new 28 _ _ (.int .i64 0) (.int .i64 0) (.int .i64 0) rfl
  have hb : Below w.heap.size w (w.alloc (.cells #[.int .i64 0, .int .i64 0, .int .i64 0] 28)) := (Below.refl _ _).alloc (Nat.le_refl _) _
  go_enter Tryd.func17, Tryd.ntmps17
  go_upto_region 1 with fail
  generalize (w.alloc (.cells #[.int .i64 0, .int .i64 0, .int .i64 0] 28)) = w2 at hX0 hb ⊢
  generalize hg0 : w.heap.size = g0 at hX0 hb ⊢
  have HG := Lib.hid hg0
  clear hg0
  obtain ⟨_, _, _⟩ := hX0.frees
  obtain ⟨_, _, _⟩ := hX0.cells
  go_wp2_with fail
  refine (lfTick_q _ _).mono ?_
  rintro e w3 ⟨rfl, hk3⟩
  subst hk3
  have hZ := at3_store hX0 (.int .i64 0) (.int .i64 (am 0 n 1099511627776)) (.int .i64 0)
  have hbz := hb.trans ((store3_only w3 g0 (.int .i64 0) (.int .i64 (am 0 n 1099511627776)) (.int .i64 0)).below (Nat.le_refl _))
  obtain ⟨d0, d1, d2⟩ := hZ.cells
  go_wp2_with fail
  refine bodyPost_ret (v := .agg #[.int .i64 0, .int .i64 (am 0 n 1099511627776), .int .i64 0]) (by simp [results, Tryd.results17, go_sem, d0, d1, d2]) rfl ⟨rfl, by rw [HG.out]; exact hbz⟩
theorem sends_any (l : LL) (w : World) : Calls Tryd.prog 12 #[l.val] w fun e w' => e = .returned (.bool (l.cnt.s != 3)) ∧ Below w.heap.size w w' := by
  have HC := Lib.hid (fun W => cntd_any l W)
  generalize l.cnt = c at HC ⊢
  obtain ⟨s, h, k⟩ := l
  obtain ⟨s', h', k'⟩ := c
  simp only [LL.val] at *
  have hfd : ∀ W : World, (Instr.field 28 (.agg #[.int .i64 s', .int .i64 h', .int .i64 k']) 0).run Tryd.prog W = .ok (.int .i64 s') W := fun _ => by kernel_rfl
  generalize hq : (s' != 3) = q
  have hX0 : At3 28 (w.alloc (.cells #[.int .i64 s, .int .i64 h, .int .i64 k] 28)) w.heap.size (.int .i64 s) (.int .i64 h) (.int .i64 k) := at3_new 28 _ _ (.int .i64 s) (.int .i64 h) (.int .i64 k) rfl
  have hb : Below w.heap.size w (w.alloc (.cells #[.int .i64 s, .int .i64 h, .int .i64 k] 28)) := (Below.refl _ _).alloc (Nat.le_refl _) _
  go_enter Tryd.func12, Tryd.ntmps12
  go_upto_region 1 with fail
  generalize (w.alloc (.cells #[.int .i64 s, .int .i64 h, .int .i64 k] 28)) = w2 at hX0 hb ⊢
  generalize hg0 : w.heap.size = g0 at hX0 hb ⊢
  have HG := Lib.hid hg0
  clear hg0
  obtain ⟨_, _, _⟩ := hX0.frees
  obtain ⟨_, _, _⟩ := hX0.cells
  go_wp2_with fail
  refine (HC.out _).mono ?_
  rintro e w3 ⟨rfl, hk3⟩
  have hX0_3 := hX0.later hk3
  have hb3 := hb.trans (hk3.mono (by have := hX0.lt; omega))
  obtain ⟨_, _, _⟩ := hX0_3.frees
  obtain ⟨_, _, _⟩ := hX0_3.cells
  go_wp2_with fail
  go_ret
  exact ⟨rfl, by rw [HG.out]; exact hb3⟩
end Go.Proofs.YtggcfoegpadepaaDoor
