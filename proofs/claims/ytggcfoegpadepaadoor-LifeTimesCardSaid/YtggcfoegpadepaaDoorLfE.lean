/- life: strike; Report; Tick. -/
import Derived.Test.YtggcfoegpadepaaDoorLfD
namespace Go.Proofs.YtggcfoegpadepaaDoor
open Go.RowKit
set_option linter.unusedVariables false
theorem sends_of (s h k : Int) (q : Bool) (hq : (stk s != 3) = q) (w : World) : Calls Tryd.prog 12 #[.agg #[.int .i64 s, .int .i64 h, .int .i64 k]] w fun e w' => e = .returned (.bool q) ∧ Below w.heap.size w w' := by
  subst hq; exact sends_any ⟨s, h, k⟩ w
set_option maxHeartbeats 800000 in
theorem strike0_any (h k most : Int) (m0 : 1 ≤ most) (m1 : most ≤ 100) (k0 : 0 ≤ k)  (w : World) (htb : Tb w) : Calls Tryd.prog 27 #[.agg #[.int .i64 3, .int .i64 h, .int .i64 k], .int .i64 most] w fun e w' => e = .returned (.agg #[.int .i64 3, .int .i64 h, .int .i64 0]) ∧ Below w.heap.size w w' := by
  have hw1 : IntKind.i64.wrap (most - 1) = most - 1 := IntWalk.i64_in _ ⟨by omega, by omega⟩
  have HS := Lib.hid (fun W => sends_of 3 h k false (by rfl) W)
  have HT : Hid (∀ (W : World) (hb : Below w.heap.size w W), W.cell? ⟨2, 3, none⟩ = some (.int .i64 3)) := Lib.hid (fun (W : World) (hb : Below w.heap.size w W) => (htb.later hb 3 (by omega)).2)
  clear htb
  have hX0 : At3 28 ((w.alloc (.cells #[.int .i64 3, .int .i64 h, .int .i64 k] 28)).alloc (.cells #[.int .i64 0, .int .i64 0, .int .i64 0] 28)) w.heap.size (.int .i64 3) (.int .i64 h) (.int .i64 k) := (at3_new 28 _ _ (.int .i64 3) (.int .i64 h) (.int .i64 k) rfl).alloc _
  have hX1 : At3 28 ((w.alloc (.cells #[.int .i64 3, .int .i64 h, .int .i64 k] 28)).alloc (.cells #[.int .i64 0, .int .i64 0, .int .i64 0] 28)) (w.heap.size + 1) (.int .i64 0) (.int .i64 0) (.int .i64 0) := at3_new 28 _ _ (.int .i64 0) (.int .i64 0) (.int .i64 0) (by simp)
  have hb : Below w.heap.size w ((w.alloc (.cells #[.int .i64 3, .int .i64 h, .int .i64 k] 28)).alloc (.cells #[.int .i64 0, .int .i64 0, .int .i64 0] 28)) := ((Below.refl _ _).alloc (Nat.le_refl _) _).alloc (by simp) _
  go_enter Tryd.func27, Tryd.ntmps27
  go_upto_region 1 with fail
  generalize ((w.alloc (.cells #[.int .i64 3, .int .i64 h, .int .i64 k] 28)).alloc (.cells #[.int .i64 0, .int .i64 0, .int .i64 0] 28)) = w2 at hX0 hX1 hb ⊢
  generalize hg1 : w.heap.size + 1 = g1 at hX1 ⊢
  generalize hg0 : w.heap.size = g0 at hX0 hb hg1 ⊢
  have hne01 : g0 ≠ g1 := by omega
  have hle1 : g0 ≤ g1 := by omega
  have hne10 : g1 ≠ g0 := by omega
  have HG := Lib.hid hg0
  clear hg0 hg1
  obtain ⟨_, _, _⟩ := hX0.frees
  obtain ⟨_, _, _⟩ := hX0.cells
  obtain ⟨_, _, _⟩ := hX1.frees
  obtain ⟨_, _, _⟩ := hX1.cells
  have hc := HT.out _ (by rw [HG.out]; exact hb)
  go_upto_region 2 with fail
  have hX0_3 := (at3_set0 hX0 (.int .i64 3))
  have ho3 := ((Only.refl g0 w2).setCell 0 (.int .i64 3))
  have hX1_3 := hX1.only hne10 ho3
  have hb3 := hb.trans (ho3.below (Nat.le_refl _))
  generalize (w2.setCell ⟨g0, 0, none⟩ (.int .i64 3)) = w3 at hX0_3 hX1_3 hb3 ⊢
  clear ho3
  obtain ⟨_, _, _⟩ := hX0_3.frees
  obtain ⟨_, _, _⟩ := hX0_3.cells
  obtain ⟨_, _, _⟩ := hX1_3.frees
  obtain ⟨_, _, _⟩ := hX1_3.cells
  go_wp2_with fail
  refine (HS.out _).mono ?_
  rintro e w4 ⟨rfl, hk4⟩
  have hX0_4 := hX0_3.later hk4
  have hX1_4 := hX1_3.later hk4
  have hb4 := hb3.trans (hk4.mono (by have := hX0_3.lt; omega))
  obtain ⟨_, _, _⟩ := hX0_4.frees
  obtain ⟨_, _, _⟩ := hX0_4.cells
  obtain ⟨_, _, _⟩ := hX1_4.frees
  obtain ⟨_, _, _⟩ := hX1_4.cells
  go_upto_region 3 with fail
  go_wp2_with fail
  refine (ended_any 3 h k _).mono ?_
  rintro e w5 ⟨rfl, hk5⟩
  have hX0_5 := hX0_4.later hk5
  have hX1_5 := hX1_4.later hk5
  have hb5 := hb4.trans (hk5.mono (by have := hX0_4.lt; omega))
  obtain ⟨_, _, _⟩ := hX0_5.frees
  obtain ⟨_, _, _⟩ := hX0_5.cells
  obtain ⟨_, _, _⟩ := hX1_5.frees
  obtain ⟨_, _, _⟩ := hX1_5.cells
  have hZ := at3_store hX1_5 (.int .i64 3) (.int .i64 h) (.int .i64 0)
  have hbz := hb5.trans ((store3_only w5 g1 (.int .i64 3) (.int .i64 h) (.int .i64 0)).below hle1)
  obtain ⟨d0, d1, d2⟩ := hZ.cells
  go_wp2_with fail
  refine bodyPost_ret (v := .agg #[.int .i64 3, .int .i64 h, .int .i64 0]) (by simp [results, Tryd.results27, go_sem, d0, d1, d2]) rfl ⟨rfl, by rw [HG.out]; exact hbz⟩
set_option maxHeartbeats 800000 in
theorem strike1_any (h k most : Int) (m0 : 1 ≤ most) (m1 : most ≤ 100) (k0 : 0 ≤ k) (n : Nat) (hn : n < 3) (hk : most - 1 ≤ k) (w : World) (htb : Tb w) : Calls Tryd.prog 27 #[.agg #[.int .i64 n, .int .i64 h, .int .i64 k], .int .i64 most] w fun e w' => e = .returned (.agg #[.int .i64 3, .int .i64 h, .int .i64 0]) ∧ Below w.heap.size w w' := by
  have hw1 : IntKind.i64.wrap (most - 1) = most - 1 := IntWalk.i64_in _ ⟨by omega, by omega⟩
  have HS := Lib.hid (fun W => sends_of (bHigh n) h k true (by unfold bHigh stk; simp; split <;> (try split) <;> omega) W)
  have HT : Hid (∀ (W : World) (hb : Below w.heap.size w W), W.cell? ⟨2, n, none⟩ = some (.int .i64 (bHigh n))) := Lib.hid (fun (W : World) (hb : Below w.heap.size w W) => (htb.later hb n (by omega)).2)
  clear htb
  have hn4 : n < 4 := by omega
  generalize bHigh n = bh at HS HT
  have hX0 : At3 28 ((w.alloc (.cells #[.int .i64 n, .int .i64 h, .int .i64 k] 28)).alloc (.cells #[.int .i64 0, .int .i64 0, .int .i64 0] 28)) w.heap.size (.int .i64 n) (.int .i64 h) (.int .i64 k) := (at3_new 28 _ _ (.int .i64 n) (.int .i64 h) (.int .i64 k) rfl).alloc _
  have hX1 : At3 28 ((w.alloc (.cells #[.int .i64 n, .int .i64 h, .int .i64 k] 28)).alloc (.cells #[.int .i64 0, .int .i64 0, .int .i64 0] 28)) (w.heap.size + 1) (.int .i64 0) (.int .i64 0) (.int .i64 0) := at3_new 28 _ _ (.int .i64 0) (.int .i64 0) (.int .i64 0) (by simp)
  have hb : Below w.heap.size w ((w.alloc (.cells #[.int .i64 n, .int .i64 h, .int .i64 k] 28)).alloc (.cells #[.int .i64 0, .int .i64 0, .int .i64 0] 28)) := ((Below.refl _ _).alloc (Nat.le_refl _) _).alloc (by simp) _
  go_enter Tryd.func27, Tryd.ntmps27
  go_upto_region 1 with fail
  generalize ((w.alloc (.cells #[.int .i64 n, .int .i64 h, .int .i64 k] 28)).alloc (.cells #[.int .i64 0, .int .i64 0, .int .i64 0] 28)) = w2 at hX0 hX1 hb ⊢
  generalize hg1 : w.heap.size + 1 = g1 at hX1 ⊢
  generalize hg0 : w.heap.size = g0 at hX0 hb hg1 ⊢
  have hne01 : g0 ≠ g1 := by omega
  have hle1 : g0 ≤ g1 := by omega
  have hne10 : g1 ≠ g0 := by omega
  have HG := Lib.hid hg0
  clear hg0 hg1
  obtain ⟨_, _, _⟩ := hX0.frees
  obtain ⟨_, _, _⟩ := hX0.cells
  obtain ⟨_, _, _⟩ := hX1.frees
  obtain ⟨_, _, _⟩ := hX1.cells
  have hc := HT.out _ (by rw [HG.out]; exact hb)
  go_upto_region 2 with fail
  have hX0_3 := (at3_set0 hX0 (.int .i64 bh))
  have ho3 := ((Only.refl g0 w2).setCell 0 (.int .i64 bh))
  have hX1_3 := hX1.only hne10 ho3
  have hb3 := hb.trans (ho3.below (Nat.le_refl _))
  generalize (w2.setCell ⟨g0, 0, none⟩ (.int .i64 bh)) = w3 at hX0_3 hX1_3 hb3 ⊢
  clear ho3
  obtain ⟨_, _, _⟩ := hX0_3.frees
  obtain ⟨_, _, _⟩ := hX0_3.cells
  obtain ⟨_, _, _⟩ := hX1_3.frees
  obtain ⟨_, _, _⟩ := hX1_3.cells
  go_wp2_with fail
  refine (HS.out _).mono ?_
  rintro e w4 ⟨rfl, hk4⟩
  have hX0_4 := hX0_3.later hk4
  have hX1_4 := hX1_3.later hk4
  have hb4 := hb3.trans (hk4.mono (by have := hX0_3.lt; omega))
  obtain ⟨_, _, _⟩ := hX0_4.frees
  obtain ⟨_, _, _⟩ := hX0_4.cells
  obtain ⟨_, _, _⟩ := hX1_4.frees
  obtain ⟨_, _, _⟩ := hX1_4.cells
  go_upto_region 3 with fail
  go_wp2_with fail
  refine (ended_any bh h k _).mono ?_
  rintro e w5 ⟨rfl, hk5⟩
  have hX0_5 := hX0_4.later hk5
  have hX1_5 := hX1_4.later hk5
  have hb5 := hb4.trans (hk5.mono (by have := hX0_4.lt; omega))
  obtain ⟨_, _, _⟩ := hX0_5.frees
  obtain ⟨_, _, _⟩ := hX0_5.cells
  obtain ⟨_, _, _⟩ := hX1_5.frees
  obtain ⟨_, _, _⟩ := hX1_5.cells
  have hZ := at3_store hX1_5 (.int .i64 3) (.int .i64 h) (.int .i64 0)
  have hbz := hb5.trans ((store3_only w5 g1 (.int .i64 3) (.int .i64 h) (.int .i64 0)).below hle1)
  obtain ⟨d0, d1, d2⟩ := hZ.cells
  go_wp2_with fail
  refine bodyPost_ret (v := .agg #[.int .i64 3, .int .i64 h, .int .i64 0]) (by simp [results, Tryd.results27, go_sem, d0, d1, d2]) rfl ⟨rfl, by rw [HG.out]; exact hbz⟩
set_option maxHeartbeats 800000 in
theorem strike2_any (h k most : Int) (m0 : 1 ≤ most) (m1 : most ≤ 100) (k0 : 0 ≤ k) (n : Nat) (hn : n < 3) (hk : k < most - 1) (w : World) (htb : Tb w) : Calls Tryd.prog 27 #[.agg #[.int .i64 n, .int .i64 h, .int .i64 k], .int .i64 most] w fun e w' => e = .returned (.agg #[.int .i64 (bHigh n), .int .i64 h, .int .i64 (k + 1)]) ∧ Below w.heap.size w w' := by
  have hw1 : IntKind.i64.wrap (most - 1) = most - 1 := IntWalk.i64_in _ ⟨by omega, by omega⟩
  have hw2 : IntKind.i64.wrap (k + 1) = k + 1 := IntWalk.i64_in _ ⟨by omega, by omega⟩
  have HS := Lib.hid (fun W => sends_of (bHigh n) h k true (by unfold bHigh stk; simp; split <;> (try split) <;> omega) W)
  have HT : Hid (∀ (W : World) (hb : Below w.heap.size w W), W.cell? ⟨2, n, none⟩ = some (.int .i64 (bHigh n))) := Lib.hid (fun (W : World) (hb : Below w.heap.size w W) => (htb.later hb n (by omega)).2)
  clear htb
  have hn4 : n < 4 := by omega
  generalize bHigh n = bh at HS HT ⊢
  have hX0 : At3 28 ((w.alloc (.cells #[.int .i64 n, .int .i64 h, .int .i64 k] 28)).alloc (.cells #[.int .i64 0, .int .i64 0, .int .i64 0] 28)) w.heap.size (.int .i64 n) (.int .i64 h) (.int .i64 k) := (at3_new 28 _ _ (.int .i64 n) (.int .i64 h) (.int .i64 k) rfl).alloc _
  have hX1 : At3 28 ((w.alloc (.cells #[.int .i64 n, .int .i64 h, .int .i64 k] 28)).alloc (.cells #[.int .i64 0, .int .i64 0, .int .i64 0] 28)) (w.heap.size + 1) (.int .i64 0) (.int .i64 0) (.int .i64 0) := at3_new 28 _ _ (.int .i64 0) (.int .i64 0) (.int .i64 0) (by simp)
  have hb : Below w.heap.size w ((w.alloc (.cells #[.int .i64 n, .int .i64 h, .int .i64 k] 28)).alloc (.cells #[.int .i64 0, .int .i64 0, .int .i64 0] 28)) := ((Below.refl _ _).alloc (Nat.le_refl _) _).alloc (by simp) _
  go_enter Tryd.func27, Tryd.ntmps27
  go_upto_region 1 with fail
  generalize ((w.alloc (.cells #[.int .i64 n, .int .i64 h, .int .i64 k] 28)).alloc (.cells #[.int .i64 0, .int .i64 0, .int .i64 0] 28)) = w2 at hX0 hX1 hb ⊢
  generalize hg1 : w.heap.size + 1 = g1 at hX1 ⊢
  generalize hg0 : w.heap.size = g0 at hX0 hb hg1 ⊢
  have hne01 : g0 ≠ g1 := by omega
  have hle1 : g0 ≤ g1 := by omega
  have hne10 : g1 ≠ g0 := by omega
  have HG := Lib.hid hg0
  clear hg0 hg1
  obtain ⟨_, _, _⟩ := hX0.frees
  obtain ⟨_, _, _⟩ := hX0.cells
  obtain ⟨_, _, _⟩ := hX1.frees
  obtain ⟨_, _, _⟩ := hX1.cells
  have hc := HT.out _ (by rw [HG.out]; exact hb)
  go_upto_region 2 with fail
  have hX0_3 := (at3_set0 hX0 (.int .i64 bh))
  have ho3 := ((Only.refl g0 w2).setCell 0 (.int .i64 bh))
  have hX1_3 := hX1.only hne10 ho3
  have hb3 := hb.trans (ho3.below (Nat.le_refl _))
  generalize (w2.setCell ⟨g0, 0, none⟩ (.int .i64 bh)) = w3 at hX0_3 hX1_3 hb3 ⊢
  clear ho3
  obtain ⟨_, _, _⟩ := hX0_3.frees
  obtain ⟨_, _, _⟩ := hX0_3.cells
  obtain ⟨_, _, _⟩ := hX1_3.frees
  obtain ⟨_, _, _⟩ := hX1_3.cells
  go_wp2_with fail
  refine (HS.out _).mono ?_
  rintro e w4 ⟨rfl, hk4⟩
  have hX0_4 := hX0_3.later hk4
  have hX1_4 := hX1_3.later hk4
  have hb4 := hb3.trans (hk4.mono (by have := hX0_3.lt; omega))
  obtain ⟨_, _, _⟩ := hX0_4.frees
  obtain ⟨_, _, _⟩ := hX0_4.cells
  obtain ⟨_, _, _⟩ := hX1_4.frees
  obtain ⟨_, _, _⟩ := hX1_4.cells
  go_upto_region 4 with fail
  go_upto_region 5 with fail
  have hX0_5 := (at3_set2 hX0_4 (.int .i64 (k + 1)))
  have ho5 := ((Only.refl g0 w4).setCell 2 (.int .i64 (k + 1)))
  have hX1_5 := hX1_4.only hne10 ho5
  have hb5 := hb4.trans (ho5.below (Nat.le_refl _))
  generalize (w4.setCell ⟨g0, 2, none⟩ (.int .i64 (k + 1))) = w5 at hX0_5 hX1_5 hb5 ⊢
  clear ho5
  obtain ⟨_, _, _⟩ := hX0_5.frees
  obtain ⟨_, _, _⟩ := hX0_5.cells
  obtain ⟨_, _, _⟩ := hX1_5.frees
  obtain ⟨_, _, _⟩ := hX1_5.cells
  have hZ := at3_store hX1_5 (.int .i64 bh) (.int .i64 h) (.int .i64 (k + 1))
  have hbz := hb5.trans ((store3_only w5 g1 (.int .i64 bh) (.int .i64 h) (.int .i64 (k + 1))).below hle1)
  obtain ⟨d0, d1, d2⟩ := hZ.cells
  go_wp2_with fail
  refine bodyPost_ret (v := .agg #[.int .i64 bh, .int .i64 h, .int .i64 (k + 1)]) (by simp [results, Tryd.results27, go_sem, d0, d1, d2]) rfl ⟨rfl, by rw [HG.out]; exact hbz⟩
end Go.Proofs.YtggcfoegpadepaaDoor
