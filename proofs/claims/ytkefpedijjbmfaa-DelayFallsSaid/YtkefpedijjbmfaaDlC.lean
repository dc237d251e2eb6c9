/- delay: among, ticks, tick, counted, New; the document's Fit. -/
import Derived.Test.YtkefpedijjbmfaaGaB
import Derived.Test.YtkefpedijjbmfaaDlM
import Derived.Deep.RegionHeld3
import Derived.Deep.QuietTactic
import Derived.BigQuiet
import Derived.Deep.DeepCutAuto
import Derived.Deep.CutBlock
import Derived.RegionTactic
import Derived.BigRegion
import Derived.Deep.RegionWith
namespace Go.Proofs.Ytkefpedijjbmfaa
open Go.RowKit
set_option linter.unusedVariables false
theorem dlAmong_q (a n b : Int) (w : World) : Calls Try.prog 19 #[.int .i64 a, .int .i64 n, .int .i64 b] w fun e w' => e = .returned (.int .i64 (am a n b)) ∧ w' = w := by
  go_enter Try.func19, Try.ntmps19
  go_wp2
  go_ret
  exact ⟨rfl, rfl⟩
theorem dlTicks_q (n : Int) (w : World) : Calls Try.prog 17 #[.int .i64 n] w fun e w' => e = .returned (.int .i64 (am 0 n 1048576)) ∧ w' = w := by
  go_enter Try.func17, Try.ntmps17
  go_wp2_with fail
  refine (dlAmong_q _ _ _ _).mono ?_
  rintro e w' ⟨rfl, rfl⟩
  go_wp2
  go_ret
  exact ⟨rfl, rfl⟩
theorem dlTick_q (n : Int) (w : World) : Calls Try.prog 18 #[.int .i64 n] w fun e w' => e = .returned (.int .i64 (am 0 n 1099511627776)) ∧ w' = w := by
  go_enter Try.func18, Try.ntmps18
  go_wp2_with fail
  refine (dlAmong_q _ _ _ _).mono ?_
  rintro e w' ⟨rfl, rfl⟩
  go_wp2
  go_ret
  exact ⟨rfl, rfl⟩
set_option maxHeartbeats 1600000 in
theorem dlCnt_any (d : DL) (w : World) : Calls Try.prog 16 #[d.val] w fun e w' => e = .returned d.fit.val ∧ Below w.heap.size w w' := by
  obtain ⟨a, b, c⟩ := d
  simp only [DL.val, DL.fit]
  have H1 : Hid (∀ W : World, Calls Try.prog 17 #[.int .i64 a] W fun e w' => e = .returned (.int .i64 (am 0 a 1048576)) ∧ w' = W) := Lib.hid (fun W => dlTicks_q a W)
  have H2 : Hid (∀ W : World, Calls Try.prog 17 #[.int .i64 b] W fun e w' => e = .returned (.int .i64 (am 0 b 1048576)) ∧ w' = W) := Lib.hid (fun W => dlTicks_q b W)
  have H3 : Hid (∀ W : World, Calls Try.prog 19 #[.int .i64 (am 0 a 1048576), .int .i64 c, .int .i64 (max (am 0 b 1048576) (am 0 a 1048576))] W fun e w' => e = .returned (.int .i64 (am (am 0 a 1048576) c (max (am 0 b 1048576) (am 0 a 1048576)))) ∧ w' = W) := Lib.hid (fun W => dlAmong_q _ _ _ W)
  generalize am (am 0 a 1048576) c (max (am 0 b 1048576) (am 0 a 1048576)) = n at H3 ⊢
  generalize am 0 a 1048576 = l at H1 H3 ⊢
  generalize am 0 b 1048576 = m0 at H2 H3 ⊢
  generalize hm : max m0 l = m at H3 ⊢
  have hX0 : At3 27 ((w.alloc (.cells #[.int .i64 a, .int .i64 b, .int .i64 c] 27)).alloc (.cells #[.int .i64 0, .int .i64 0, .int .i64 0] 27)) w.heap.size (.int .i64 a) (.int .i64 b) (.int .i64 c) := (at3_new 27 _ _ (.int .i64 a) (.int .i64 b) (.int .i64 c) rfl).alloc _
  have hX1 : At3 27 ((w.alloc (.cells #[.int .i64 a, .int .i64 b, .int .i64 c] 27)).alloc (.cells #[.int .i64 0, .int .i64 0, .int .i64 0] 27)) (w.heap.size + 1) (.int .i64 0) (.int .i64 0) (.int .i64 0) := at3_new 27 _ _ (.int .i64 0) (.int .i64 0) (.int .i64 0) (by simp)
  have hb : Below w.heap.size w ((w.alloc (.cells #[.int .i64 a, .int .i64 b, .int .i64 c] 27)).alloc (.cells #[.int .i64 0, .int .i64 0, .int .i64 0] 27)) := ((Below.refl _ _).alloc (Nat.le_refl _) _).alloc (by simp) _
  go_enter Try.func16, Try.ntmps16
  go_upto_region 1 with fail
  generalize ((w.alloc (.cells #[.int .i64 a, .int .i64 b, .int .i64 c] 27)).alloc (.cells #[.int .i64 0, .int .i64 0, .int .i64 0] 27)) = w2 at hX0 hX1 hb ⊢
  generalize hg1 : w.heap.size + 1 = g1 at hX1 ⊢
  generalize hg0 : w.heap.size = g0 at hX0 hb hg1 ⊢
  have hne01 : g0 ≠ g1 := by omega
  have hle1 : g0 ≤ g1 := by omega
  have hne10 : g1 ≠ g0 := by omega
  have HG := Lib.hid hg0
  clear hg0 hg1
  obtain ⟨_, _, _⟩ := hX0.frees
  obtain ⟨_, _, _⟩ := hX0.cells
  obtain ⟨_, _, _⟩ := hX1.frees
  obtain ⟨_, _, _⟩ := hX1.cells
  go_wp2_with fail
  refine (H1.out _).mono ?_
  rintro e w3 ⟨rfl, hk3⟩
  subst hk3
  go_wp2_with fail
  refine (H2.out _).mono ?_
  rintro e w4 ⟨rfl, hk4⟩
  subst hk4
  go_upto_region 3 with fail
  go_wp2_with fail
  refine (H3.out _).mono ?_
  rintro e w5 ⟨rfl, hk5⟩
  subst hk5
  have hZ := at3_store hX1 (.int .i64 l) (.int .i64 m) (.int .i64 n)
  have hbz := hb.trans ((store3_only w5 g1 (.int .i64 l) (.int .i64 m) (.int .i64 n)).below hle1)
  obtain ⟨d0, d1, d2⟩ := hZ.cells
  go_wp2_with fail
  refine bodyPost_ret (v := .agg #[.int .i64 l, .int .i64 m, .int .i64 n]) (by simp [results, Try.results16, go_sem, d0, d1, d2]) rfl ⟨rfl, by rw [HG.out]; exact hbz⟩
set_option maxHeartbeats 1600000 in
theorem refDlFit_any (d : DL) (w : World) : Calls Try.prog 13 #[d.val] w fun e w' => e = .returned d.fit.val ∧ Below w.heap.size w w' := by
  obtain ⟨a, b, c⟩ := d
  rw [DL.fit_ref]
  simp only [DL.val]
  generalize hl : max 0 (min a 1048576) = l
  generalize hm : max l (min b 1048576) = m
  generalize hn : max l (min c m) = n
  have hX0 : At3 23 ((w.alloc (.cells #[.int .i64 a, .int .i64 b, .int .i64 c] 23)).alloc (.cells #[.int .i64 0, .int .i64 0, .int .i64 0] 23)) w.heap.size (.int .i64 a) (.int .i64 b) (.int .i64 c) := (at3_new 23 _ _ (.int .i64 a) (.int .i64 b) (.int .i64 c) rfl).alloc _
  have hX1 : At3 23 ((w.alloc (.cells #[.int .i64 a, .int .i64 b, .int .i64 c] 23)).alloc (.cells #[.int .i64 0, .int .i64 0, .int .i64 0] 23)) (w.heap.size + 1) (.int .i64 0) (.int .i64 0) (.int .i64 0) := at3_new 23 _ _ (.int .i64 0) (.int .i64 0) (.int .i64 0) (by simp)
  have hb : Below w.heap.size w ((w.alloc (.cells #[.int .i64 a, .int .i64 b, .int .i64 c] 23)).alloc (.cells #[.int .i64 0, .int .i64 0, .int .i64 0] 23)) := ((Below.refl _ _).alloc (Nat.le_refl _) _).alloc (by simp) _
  go_enter Try.func13, Try.ntmps13
  go_upto_region 1 with fail
  generalize ((w.alloc (.cells #[.int .i64 a, .int .i64 b, .int .i64 c] 23)).alloc (.cells #[.int .i64 0, .int .i64 0, .int .i64 0] 23)) = w2 at hX0 hX1 hb ⊢
  generalize hg1 : w.heap.size + 1 = g1 at hX1 ⊢
  generalize hg0 : w.heap.size = g0 at hX0 hb hg1 ⊢
  have hne01 : g0 ≠ g1 := by omega
  have hle1 : g0 ≤ g1 := by omega
  have hne10 : g1 ≠ g0 := by omega
  have HG := Lib.hid hg0
  clear hg0 hg1
  obtain ⟨_, _, _⟩ := hX0.frees
  obtain ⟨_, _, _⟩ := hX0.cells
  obtain ⟨_, _, _⟩ := hX1.frees
  obtain ⟨_, _, _⟩ := hX1.cells
  go_upto_region 3 with fail
  have hZ := at3_store hX1 (.int .i64 l) (.int .i64 m) (.int .i64 n)
  have hbz := hb.trans ((store3_only w2 g1 (.int .i64 l) (.int .i64 m) (.int .i64 n)).below hle1)
  obtain ⟨d0, d1, d2⟩ := hZ.cells
  go_wp2_with fail
  refine bodyPost_ret (v := .agg #[.int .i64 l, .int .i64 m, .int .i64 n]) (by simp [results, Try.results13, go_sem, d0, d1, d2]) rfl ⟨rfl, by rw [HG.out]; exact hbz⟩
set_option maxHeartbeats 1600000 in
theorem dlNew_any (a b : Int) (w : World) : Calls Try.prog 12 #[.int .i64 a, .int .i64 b] w fun e w' => e = .returned (DL.fit ⟨a, b, 0⟩).val ∧ Below w.heap.size w w' := by
  have HC : Hid (∀ W : World, Calls Try.prog 16 #[.agg #[.int .i64 a, .int .i64 b, .int .i64 0]] W fun e w' => e = .returned (DL.fit ⟨a, b, 0⟩).val ∧ Below W.heap.size W w') := Lib.hid (fun W => dlCnt_any ⟨a, b, 0⟩ W)
  generalize DL.fit ⟨a, b, 0⟩ = q at HC ⊢
  obtain ⟨l, m, n⟩ := q
  simp only [DL.val] at HC ⊢
  have hX0 : At3 27 (w.alloc (.cells #[.int .i64 0, .int .i64 0, .int .i64 0] 27)) w.heap.size (.int .i64 0) (.int .i64 0) (.int .i64 0) := at3_new 27 _ _ (.int .i64 0) (.int .i64 0) (.int .i64 0) rfl
  have hb : Below w.heap.size w (w.alloc (.cells #[.int .i64 0, .int .i64 0, .int .i64 0] 27)) := (Below.refl _ _).alloc (Nat.le_refl _) _
  go_enter Try.func12, Try.ntmps12
  go_upto_region 1 with fail
  generalize (w.alloc (.cells #[.int .i64 0, .int .i64 0, .int .i64 0] 27)) = w2 at hX0 hb ⊢
  generalize hg0 : w.heap.size = g0 at hX0 hb ⊢
  have HG := Lib.hid hg0
  clear hg0
  obtain ⟨_, _, _⟩ := hX0.frees
  obtain ⟨_, _, _⟩ := hX0.cells
  go_wp2_with fail
  refine (HC.out _).mono ?_
  rintro e w3 ⟨rfl, hk3⟩
  have hX0_3 := hX0.later hk3
  have hb3 := hb.trans (hk3.mono (by have := hX0.lt; omega))
  obtain ⟨_, _, _⟩ := hX0_3.frees
  obtain ⟨_, _, _⟩ := hX0_3.cells
  have hZ := at3_store hX0_3 (.int .i64 l) (.int .i64 m) (.int .i64 n)
  have hbz := hb3.trans ((store3_only w3 g0 (.int .i64 l) (.int .i64 m) (.int .i64 n)).below (Nat.le_refl _))
  obtain ⟨d0, d1, d2⟩ := hZ.cells
  go_wp2_with fail
  refine bodyPost_ret (v := .agg #[.int .i64 l, .int .i64 m, .int .i64 n]) (by simp [results, Try.results12, go_sem, d0, d1, d2]) rfl ⟨rfl, by rw [HG.out]; exact hbz⟩
end Go.Proofs.Ytkefpedijjbmfaa
