/- delay: Jitter, Late, Due, of both sides. -/
import Derived.Test.YtkefpedijjbmfaaDlC
namespace Go.Proofs.Ytkefpedijjbmfaa
open Go.RowKit
set_option linter.unusedVariables false
theorem dlJq (a b c j w : Int) (h : (DL.mk a b c).Ok) (hw : (DL.mk a b c).want j = w) : min (a + 4 * am 0 j 1048576) b = w ∧ 0 ≤ am 0 j 1048576 ∧ am 0 j 1048576 ≤ 1048576 ∧ 0 ≤ c ∧ c ≤ 1048576 ∧ 0 ≤ a ∧ a ≤ 1048576 := by
  obtain ⟨h0, h1, h2, h3, h4⟩ := h
  simp only at h0 h1 h2 h3 h4
  refine ⟨hw, ?_⟩
  unfold am
  omega
set_option maxHeartbeats 1600000 in
theorem dlJit0 (d : DL) (j : Int) (l m n W : Int) (hf : d.fit = ⟨l, m, n⟩) (hW : d.fit.want j = W) (hq : n < W) (w : World) : Calls Try.prog 10 #[d.val, .int .i64 j] w fun e w' => e = .returned (.agg #[.int .i64 l, .int .i64 m, .int .i64 W]) ∧ Below w.heap.size w w' := by
  have hok := d.fit_ok
  have HC := Lib.hid (fun W => dlCnt_any d W)
  rw [hf] at hok HC hW
  obtain ⟨e1, j0, j1, n0, n1, l0, l1⟩ := dlJq l m n j W hok hW
  clear hf hok hW
  obtain ⟨a, b, c⟩ := d
  simp only [DL.val] at HC ⊢
  have HT : Hid (∀ X : World, Calls Try.prog 17 #[.int .i64 j] X fun e w' => e = .returned (.int .i64 (am 0 j 1048576)) ∧ w' = X) := Lib.hid (fun X => dlTicks_q j X)
  generalize am 0 j 1048576 = J at HT e1 j0 j1
  have hw1 : IntKind.i64.wrap (4 * J) = 4 * J := IntWalk.i64_in _ ⟨by omega, by omega⟩
  have hw2 : IntKind.i64.wrap (l + 4 * J) = l + 4 * J := IntWalk.i64_in _ ⟨by omega, by omega⟩
  have hw3 : IntKind.i64.wrap (n - 1) = n - 1 := IntWalk.i64_in _ ⟨by omega, by omega⟩
  clear j0 j1 n0 n1 l0 l1
  have hX0 : At3 27 ((w.alloc (.cells #[.int .i64 a, .int .i64 b, .int .i64 c] 27)).alloc (.cells #[.int .i64 0, .int .i64 0, .int .i64 0] 27)) w.heap.size (.int .i64 a) (.int .i64 b) (.int .i64 c) := (at3_new 27 _ _ (.int .i64 a) (.int .i64 b) (.int .i64 c) rfl).alloc _
  have hX1 : At3 27 ((w.alloc (.cells #[.int .i64 a, .int .i64 b, .int .i64 c] 27)).alloc (.cells #[.int .i64 0, .int .i64 0, .int .i64 0] 27)) (w.heap.size + 1) (.int .i64 0) (.int .i64 0) (.int .i64 0) := at3_new 27 _ _ (.int .i64 0) (.int .i64 0) (.int .i64 0) (by simp)
  have hb : Below w.heap.size w ((w.alloc (.cells #[.int .i64 a, .int .i64 b, .int .i64 c] 27)).alloc (.cells #[.int .i64 0, .int .i64 0, .int .i64 0] 27)) := ((Below.refl _ _).alloc (Nat.le_refl _) _).alloc (by simp) _
  go_enter Try.func10, Try.ntmps10
  go_upto_region 1 with fail
  generalize ((w.alloc (.cells #[.int .i64 a, .int .i64 b, .int .i64 c] 27)).alloc (.cells #[.int .i64 0, .int .i64 0, .int .i64 0] 27)) = w2 at hX0 hX1 hb ⊢
  generalize hg1 : w.heap.size + 1 = g1 at hX1 ⊢
  generalize hg0 : w.heap.size = g0 at hX0 hb hg1 ⊢
  have hne01 : g0 ≠ g1 := by omega
  have hle1 : g0 ≤ g1 := by omega
  have hne10 : g1 ≠ g0 := by omega
  have HG := Lib.hid hg0
  clear hg0 hg1
  obtain ⟨_, _, _⟩ := hX0.frees
  obtain ⟨_, _, _⟩ := hX0.cells
  obtain ⟨_, _, _⟩ := hX1.frees
  obtain ⟨_, _, _⟩ := hX1.cells
  go_wp2_with fail
  refine (HC.out _).mono ?_
  rintro e w3 ⟨rfl, hk3⟩
  have hX0_3 := hX0.later hk3
  have hX1_3 := hX1.later hk3
  have hb3 := hb.trans (hk3.mono (by have := hX0.lt; omega))
  obtain ⟨_, _, _⟩ := hX0_3.frees
  obtain ⟨_, _, _⟩ := hX0_3.cells
  obtain ⟨_, _, _⟩ := hX1_3.frees
  obtain ⟨_, _, _⟩ := hX1_3.cells
  go_upto_region 2 with fail
  have hX0_4 := at3_store hX0_3 (.int .i64 l) (.int .i64 m) (.int .i64 n)
  have ho4 := store3_only w3 g0 (.int .i64 l) (.int .i64 m) (.int .i64 n)
  have hX1_4 := hX1_3.only hne10 ho4
  have hb4 := hb3.trans (ho4.below (Nat.le_refl _))
  generalize (((w3.setCell ⟨g0, 0, none⟩ (.int .i64 l)).setCell ⟨g0, 1, none⟩ (.int .i64 m)).setCell ⟨g0, 2, none⟩ (.int .i64 n)) = w4 at hX0_4 hX1_4 hb4 ⊢
  clear ho4
  obtain ⟨_, _, _⟩ := hX0_4.frees
  obtain ⟨_, _, _⟩ := hX0_4.cells
  obtain ⟨_, _, _⟩ := hX1_4.frees
  obtain ⟨_, _, _⟩ := hX1_4.cells
  go_region_held3 (fun X => X.cell? ⟨g0, 0, none⟩ = some (.int .i64 l) ∧ X.cell? ⟨g0, 1, none⟩ = some (.int .i64 m)) (first | (go_keep; done) | exact ⟨hX0_4.cells.1, hX0_4.cells.2.1⟩ | exact ⟨hX0_4.drew.cells.1, hX0_4.drew.cells.2.1⟩) (first | (go_at_call 17; refine (HT.out _).mono ?_; rintro e w' ⟨rfl, hkq⟩; subst hkq))
  go_upto_region 3 with fail
  have hX0_5 := hX0_4.drew
  have hX1_5 := hX1_4.drew
  have hb5 := hb4.drew
  generalize w4.drew = w5 at hX0_5 hX1_5 hb5 ⊢
  obtain ⟨_, _, _⟩ := hX0_5.frees
  obtain ⟨_, _, _⟩ := hX0_5.cells
  obtain ⟨_, _, _⟩ := hX1_5.frees
  obtain ⟨_, _, _⟩ := hX1_5.cells
  go_upto_region 7 with fail
  have hX0_6 := (at3_set2 hX0_5 (.int .i64 W))
  have ho6 := ((Only.refl g0 w5).setCell 2 (.int .i64 W))
  have hX1_6 := hX1_5.only hne10 ho6
  have hb6 := hb5.trans (ho6.below (Nat.le_refl _))
  generalize (w5.setCell ⟨g0, 2, none⟩ (.int .i64 W)) = w6 at hX0_6 hX1_6 hb6 ⊢
  clear ho6
  obtain ⟨_, _, _⟩ := hX0_6.frees
  obtain ⟨_, _, _⟩ := hX0_6.cells
  obtain ⟨_, _, _⟩ := hX1_6.frees
  obtain ⟨_, _, _⟩ := hX1_6.cells
  have hZ := at3_store hX1_6 (.int .i64 l) (.int .i64 m) (.int .i64 W)
  have hbz := hb6.trans ((store3_only w6 g1 (.int .i64 l) (.int .i64 m) (.int .i64 W)).below hle1)
  obtain ⟨d0, d1, d2⟩ := hZ.cells
  go_wp2_with fail
  refine bodyPost_ret (v := .agg #[.int .i64 l, .int .i64 m, .int .i64 W]) (by simp [results, Try.results10, go_sem, d0, d1, d2]) rfl ⟨rfl, by rw [HG.out]; exact hbz⟩
set_option maxHeartbeats 1600000 in
theorem dlJit1 (d : DL) (j : Int) (l m n W : Int) (hf : d.fit = ⟨l, m, n⟩) (hW : d.fit.want j = W) (hq : ¬ n < W) (hq2 : W < n) (w : World) : Calls Try.prog 10 #[d.val, .int .i64 j] w fun e w' => e = .returned (.agg #[.int .i64 l, .int .i64 m, .int .i64 (n - 1)]) ∧ Below w.heap.size w w' := by
  have hok := d.fit_ok
  have HC := Lib.hid (fun W => dlCnt_any d W)
  rw [hf] at hok HC hW
  obtain ⟨e1, j0, j1, n0, n1, l0, l1⟩ := dlJq l m n j W hok hW
  clear hf hok hW
  obtain ⟨a, b, c⟩ := d
  simp only [DL.val] at HC ⊢
  have HT : Hid (∀ X : World, Calls Try.prog 17 #[.int .i64 j] X fun e w' => e = .returned (.int .i64 (am 0 j 1048576)) ∧ w' = X) := Lib.hid (fun X => dlTicks_q j X)
  generalize am 0 j 1048576 = J at HT e1 j0 j1
  have hw1 : IntKind.i64.wrap (4 * J) = 4 * J := IntWalk.i64_in _ ⟨by omega, by omega⟩
  have hw2 : IntKind.i64.wrap (l + 4 * J) = l + 4 * J := IntWalk.i64_in _ ⟨by omega, by omega⟩
  have hw3 : IntKind.i64.wrap (n - 1) = n - 1 := IntWalk.i64_in _ ⟨by omega, by omega⟩
  clear j0 j1 n0 n1 l0 l1
  have hX0 : At3 27 ((w.alloc (.cells #[.int .i64 a, .int .i64 b, .int .i64 c] 27)).alloc (.cells #[.int .i64 0, .int .i64 0, .int .i64 0] 27)) w.heap.size (.int .i64 a) (.int .i64 b) (.int .i64 c) := (at3_new 27 _ _ (.int .i64 a) (.int .i64 b) (.int .i64 c) rfl).alloc _
  have hX1 : At3 27 ((w.alloc (.cells #[.int .i64 a, .int .i64 b, .int .i64 c] 27)).alloc (.cells #[.int .i64 0, .int .i64 0, .int .i64 0] 27)) (w.heap.size + 1) (.int .i64 0) (.int .i64 0) (.int .i64 0) := at3_new 27 _ _ (.int .i64 0) (.int .i64 0) (.int .i64 0) (by simp)
  have hb : Below w.heap.size w ((w.alloc (.cells #[.int .i64 a, .int .i64 b, .int .i64 c] 27)).alloc (.cells #[.int .i64 0, .int .i64 0, .int .i64 0] 27)) := ((Below.refl _ _).alloc (Nat.le_refl _) _).alloc (by simp) _
  go_enter Try.func10, Try.ntmps10
  go_upto_region 1 with fail
  generalize ((w.alloc (.cells #[.int .i64 a, .int .i64 b, .int .i64 c] 27)).alloc (.cells #[.int .i64 0, .int .i64 0, .int .i64 0] 27)) = w2 at hX0 hX1 hb ⊢
  generalize hg1 : w.heap.size + 1 = g1 at hX1 ⊢
  generalize hg0 : w.heap.size = g0 at hX0 hb hg1 ⊢
  have hne01 : g0 ≠ g1 := by omega
  have hle1 : g0 ≤ g1 := by omega
  have hne10 : g1 ≠ g0 := by omega
  have HG := Lib.hid hg0
  clear hg0 hg1
  obtain ⟨_, _, _⟩ := hX0.frees
  obtain ⟨_, _, _⟩ := hX0.cells
  obtain ⟨_, _, _⟩ := hX1.frees
  obtain ⟨_, _, _⟩ := hX1.cells
  go_wp2_with fail
  refine (HC.out _).mono ?_
  rintro e w3 ⟨rfl, hk3⟩
  have hX0_3 := hX0.later hk3
  have hX1_3 := hX1.later hk3
  have hb3 := hb.trans (hk3.mono (by have := hX0.lt; omega))
  obtain ⟨_, _, _⟩ := hX0_3.frees
  obtain ⟨_, _, _⟩ := hX0_3.cells
  obtain ⟨_, _, _⟩ := hX1_3.frees
  obtain ⟨_, _, _⟩ := hX1_3.cells
  go_upto_region 2 with fail
  have hX0_4 := at3_store hX0_3 (.int .i64 l) (.int .i64 m) (.int .i64 n)
  have ho4 := store3_only w3 g0 (.int .i64 l) (.int .i64 m) (.int .i64 n)
  have hX1_4 := hX1_3.only hne10 ho4
  have hb4 := hb3.trans (ho4.below (Nat.le_refl _))
  generalize (((w3.setCell ⟨g0, 0, none⟩ (.int .i64 l)).setCell ⟨g0, 1, none⟩ (.int .i64 m)).setCell ⟨g0, 2, none⟩ (.int .i64 n)) = w4 at hX0_4 hX1_4 hb4 ⊢
  clear ho4
  obtain ⟨_, _, _⟩ := hX0_4.frees
  obtain ⟨_, _, _⟩ := hX0_4.cells
  obtain ⟨_, _, _⟩ := hX1_4.frees
  obtain ⟨_, _, _⟩ := hX1_4.cells
  go_region_held3 (fun X => X.cell? ⟨g0, 0, none⟩ = some (.int .i64 l) ∧ X.cell? ⟨g0, 1, none⟩ = some (.int .i64 m)) (first | (go_keep; done) | exact ⟨hX0_4.cells.1, hX0_4.cells.2.1⟩ | exact ⟨hX0_4.drew.cells.1, hX0_4.drew.cells.2.1⟩) (first | (go_at_call 17; refine (HT.out _).mono ?_; rintro e w' ⟨rfl, hkq⟩; subst hkq))
  go_upto_region 3 with fail
  have hX0_5 := hX0_4.drew
  have hX1_5 := hX1_4.drew
  have hb5 := hb4.drew
  generalize w4.drew = w5 at hX0_5 hX1_5 hb5 ⊢
  obtain ⟨_, _, _⟩ := hX0_5.frees
  obtain ⟨_, _, _⟩ := hX0_5.cells
  obtain ⟨_, _, _⟩ := hX1_5.frees
  obtain ⟨_, _, _⟩ := hX1_5.cells
  go_upto_region 7 with fail
  have hX0_6 := (at3_set2 hX0_5 (.int .i64 (n - 1)))
  have ho6 := ((Only.refl g0 w5).setCell 2 (.int .i64 (n - 1)))
  have hX1_6 := hX1_5.only hne10 ho6
  have hb6 := hb5.trans (ho6.below (Nat.le_refl _))
  generalize (w5.setCell ⟨g0, 2, none⟩ (.int .i64 (n - 1))) = w6 at hX0_6 hX1_6 hb6 ⊢
  clear ho6
  obtain ⟨_, _, _⟩ := hX0_6.frees
  obtain ⟨_, _, _⟩ := hX0_6.cells
  obtain ⟨_, _, _⟩ := hX1_6.frees
  obtain ⟨_, _, _⟩ := hX1_6.cells
  have hZ := at3_store hX1_6 (.int .i64 l) (.int .i64 m) (.int .i64 (n - 1))
  have hbz := hb6.trans ((store3_only w6 g1 (.int .i64 l) (.int .i64 m) (.int .i64 (n - 1))).below hle1)
  obtain ⟨d0, d1, d2⟩ := hZ.cells
  go_wp2_with fail
  refine bodyPost_ret (v := .agg #[.int .i64 l, .int .i64 m, .int .i64 (n - 1)]) (by simp [results, Try.results10, go_sem, d0, d1, d2]) rfl ⟨rfl, by rw [HG.out]; exact hbz⟩
set_option maxHeartbeats 1600000 in
theorem dlJit2 (d : DL) (j : Int) (l m n W : Int) (hf : d.fit = ⟨l, m, n⟩) (hW : d.fit.want j = W) (hq : ¬ n < W) (hq2 : ¬ W < n) (w : World) : Calls Try.prog 10 #[d.val, .int .i64 j] w fun e w' => e = .returned (.agg #[.int .i64 l, .int .i64 m, .int .i64 n]) ∧ Below w.heap.size w w' := by
  have hok := d.fit_ok
  have HC := Lib.hid (fun W => dlCnt_any d W)
  rw [hf] at hok HC hW
  obtain ⟨e1, j0, j1, n0, n1, l0, l1⟩ := dlJq l m n j W hok hW
  clear hf hok hW
  obtain ⟨a, b, c⟩ := d
  simp only [DL.val] at HC ⊢
  have HT : Hid (∀ X : World, Calls Try.prog 17 #[.int .i64 j] X fun e w' => e = .returned (.int .i64 (am 0 j 1048576)) ∧ w' = X) := Lib.hid (fun X => dlTicks_q j X)
  generalize am 0 j 1048576 = J at HT e1 j0 j1
  have hw1 : IntKind.i64.wrap (4 * J) = 4 * J := IntWalk.i64_in _ ⟨by omega, by omega⟩
  have hw2 : IntKind.i64.wrap (l + 4 * J) = l + 4 * J := IntWalk.i64_in _ ⟨by omega, by omega⟩
  have hw3 : IntKind.i64.wrap (n - 1) = n - 1 := IntWalk.i64_in _ ⟨by omega, by omega⟩
  clear j0 j1 n0 n1 l0 l1
  have hX0 : At3 27 ((w.alloc (.cells #[.int .i64 a, .int .i64 b, .int .i64 c] 27)).alloc (.cells #[.int .i64 0, .int .i64 0, .int .i64 0] 27)) w.heap.size (.int .i64 a) (.int .i64 b) (.int .i64 c) := (at3_new 27 _ _ (.int .i64 a) (.int .i64 b) (.int .i64 c) rfl).alloc _
  have hX1 : At3 27 ((w.alloc (.cells #[.int .i64 a, .int .i64 b, .int .i64 c] 27)).alloc (.cells #[.int .i64 0, .int .i64 0, .int .i64 0] 27)) (w.heap.size + 1) (.int .i64 0) (.int .i64 0) (.int .i64 0) := at3_new 27 _ _ (.int .i64 0) (.int .i64 0) (.int .i64 0) (by simp)
  have hb : Below w.heap.size w ((w.alloc (.cells #[.int .i64 a, .int .i64 b, .int .i64 c] 27)).alloc (.cells #[.int .i64 0, .int .i64 0, .int .i64 0] 27)) := ((Below.refl _ _).alloc (Nat.le_refl _) _).alloc (by simp) _
  go_enter Try.func10, Try.ntmps10
  go_upto_region 1 with fail
  generalize ((w.alloc (.cells #[.int .i64 a, .int .i64 b, .int .i64 c] 27)).alloc (.cells #[.int .i64 0, .int .i64 0, .int .i64 0] 27)) = w2 at hX0 hX1 hb ⊢
  generalize hg1 : w.heap.size + 1 = g1 at hX1 ⊢
  generalize hg0 : w.heap.size = g0 at hX0 hb hg1 ⊢
  have hne01 : g0 ≠ g1 := by omega
  have hle1 : g0 ≤ g1 := by omega
  have hne10 : g1 ≠ g0 := by omega
  have HG := Lib.hid hg0
  clear hg0 hg1
  obtain ⟨_, _, _⟩ := hX0.frees
  obtain ⟨_, _, _⟩ := hX0.cells
  obtain ⟨_, _, _⟩ := hX1.frees
  obtain ⟨_, _, _⟩ := hX1.cells
  go_wp2_with fail
  refine (HC.out _).mono ?_
  rintro e w3 ⟨rfl, hk3⟩
  have hX0_3 := hX0.later hk3
  have hX1_3 := hX1.later hk3
  have hb3 := hb.trans (hk3.mono (by have := hX0.lt; omega))
  obtain ⟨_, _, _⟩ := hX0_3.frees
  obtain ⟨_, _, _⟩ := hX0_3.cells
  obtain ⟨_, _, _⟩ := hX1_3.frees
  obtain ⟨_, _, _⟩ := hX1_3.cells
  go_upto_region 2 with fail
  have hX0_4 := at3_store hX0_3 (.int .i64 l) (.int .i64 m) (.int .i64 n)
  have ho4 := store3_only w3 g0 (.int .i64 l) (.int .i64 m) (.int .i64 n)
  have hX1_4 := hX1_3.only hne10 ho4
  have hb4 := hb3.trans (ho4.below (Nat.le_refl _))
  generalize (((w3.setCell ⟨g0, 0, none⟩ (.int .i64 l)).setCell ⟨g0, 1, none⟩ (.int .i64 m)).setCell ⟨g0, 2, none⟩ (.int .i64 n)) = w4 at hX0_4 hX1_4 hb4 ⊢
  clear ho4
  obtain ⟨_, _, _⟩ := hX0_4.frees
  obtain ⟨_, _, _⟩ := hX0_4.cells
  obtain ⟨_, _, _⟩ := hX1_4.frees
  obtain ⟨_, _, _⟩ := hX1_4.cells
  go_region_held3 (fun X => X.cell? ⟨g0, 0, none⟩ = some (.int .i64 l) ∧ X.cell? ⟨g0, 1, none⟩ = some (.int .i64 m)) (first | (go_keep; done) | exact ⟨hX0_4.cells.1, hX0_4.cells.2.1⟩ | exact ⟨hX0_4.drew.cells.1, hX0_4.drew.cells.2.1⟩) (first | (go_at_call 17; refine (HT.out _).mono ?_; rintro e w' ⟨rfl, hkq⟩; subst hkq))
  go_upto_region 3 with fail
  have hX0_5 := hX0_4.drew
  have hX1_5 := hX1_4.drew
  have hb5 := hb4.drew
  generalize w4.drew = w5 at hX0_5 hX1_5 hb5 ⊢
  obtain ⟨_, _, _⟩ := hX0_5.frees
  obtain ⟨_, _, _⟩ := hX0_5.cells
  obtain ⟨_, _, _⟩ := hX1_5.frees
  obtain ⟨_, _, _⟩ := hX1_5.cells
  go_upto_region 7 with fail
  have hZ := at3_store hX1_5 (.int .i64 l) (.int .i64 m) (.int .i64 n)
  have hbz := hb5.trans ((store3_only w5 g1 (.int .i64 l) (.int .i64 m) (.int .i64 n)).below hle1)
  obtain ⟨d0, d1, d2⟩ := hZ.cells
  go_wp2_with fail
  refine bodyPost_ret (v := .agg #[.int .i64 l, .int .i64 m, .int .i64 n]) (by simp [results, Try.results10, go_sem, d0, d1, d2]) rfl ⟨rfl, by rw [HG.out]; exact hbz⟩
theorem dlJit_any (d : DL) (j : Int) (w : World) : Calls Try.prog 10 #[d.val, .int .i64 j] w fun e w' => e = .returned (d.jit j).val ∧ Below w.heap.size w w' := by
  unfold DL.jit DL.val jitC
  by_cases h : d.fit.c < d.fit.want j
  · rw [if_pos h]; exact dlJit0 d j _ _ _ _ rfl rfl h w
  · rw [if_neg h]
    by_cases h2 : d.fit.want j < d.fit.c
    · rw [if_pos h2]; exact dlJit1 d j _ _ _ _ rfl rfl h h2 w
    · rw [if_neg h2]; exact dlJit2 d j _ _ _ _ rfl rfl h h2 w
set_option maxHeartbeats 1600000 in
theorem refDlJit0 (d : DL) (j : Int) (l m n W : Int) (hf : d.fit = ⟨l, m, n⟩) (hW : d.fit.want j = W) (hq : n < W) (w : World) : Calls Try.prog 11 #[d.val, .int .i64 j] w fun e w' => e = .returned (.agg #[.int .i64 l, .int .i64 m, .int .i64 W]) ∧ Below w.heap.size w w' := by
  have hok := d.fit_ok
  have HC := Lib.hid (fun W => refDlFit_any d W)
  rw [hf] at hok HC hW
  obtain ⟨e1, j0, j1, n0, n1, l0, l1⟩ := dlJq l m n j W hok hW
  clear hf hok hW
  obtain ⟨a, b, c⟩ := d
  simp only [DL.val] at HC ⊢
  have hJ : max 0 (min j 1048576) = am 0 j 1048576 := am_alt 0 j 1048576 (by omega)
  generalize am 0 j 1048576 = J at hJ e1 j0 j1
  have hw1 : IntKind.i64.wrap (4 * J) = 4 * J := IntWalk.i64_in _ ⟨by omega, by omega⟩
  have hw2 : IntKind.i64.wrap (l + 4 * J) = l + 4 * J := IntWalk.i64_in _ ⟨by omega, by omega⟩
  have hw3 : IntKind.i64.wrap (n - 1) = n - 1 := IntWalk.i64_in _ ⟨by omega, by omega⟩
  clear j0 j1 n0 n1 l0 l1
  rw [Int.min_comm] at e1
  have hX0 : At3 23 ((w.alloc (.cells #[.int .i64 a, .int .i64 b, .int .i64 c] 23)).alloc (.cells #[.int .i64 0, .int .i64 0, .int .i64 0] 23)) w.heap.size (.int .i64 a) (.int .i64 b) (.int .i64 c) := (at3_new 23 _ _ (.int .i64 a) (.int .i64 b) (.int .i64 c) rfl).alloc _
  have hX1 : At3 23 ((w.alloc (.cells #[.int .i64 a, .int .i64 b, .int .i64 c] 23)).alloc (.cells #[.int .i64 0, .int .i64 0, .int .i64 0] 23)) (w.heap.size + 1) (.int .i64 0) (.int .i64 0) (.int .i64 0) := at3_new 23 _ _ (.int .i64 0) (.int .i64 0) (.int .i64 0) (by simp)
  have hb : Below w.heap.size w ((w.alloc (.cells #[.int .i64 a, .int .i64 b, .int .i64 c] 23)).alloc (.cells #[.int .i64 0, .int .i64 0, .int .i64 0] 23)) := ((Below.refl _ _).alloc (Nat.le_refl _) _).alloc (by simp) _
  go_enter Try.func11, Try.ntmps11
  go_upto_region 1 with fail
  generalize ((w.alloc (.cells #[.int .i64 a, .int .i64 b, .int .i64 c] 23)).alloc (.cells #[.int .i64 0, .int .i64 0, .int .i64 0] 23)) = w2 at hX0 hX1 hb ⊢
  generalize hg1 : w.heap.size + 1 = g1 at hX1 ⊢
  generalize hg0 : w.heap.size = g0 at hX0 hb hg1 ⊢
  have hne01 : g0 ≠ g1 := by omega
  have hle1 : g0 ≤ g1 := by omega
  have hne10 : g1 ≠ g0 := by omega
  have HG := Lib.hid hg0
  clear hg0 hg1
  obtain ⟨_, _, _⟩ := hX0.frees
  obtain ⟨_, _, _⟩ := hX0.cells
  obtain ⟨_, _, _⟩ := hX1.frees
  obtain ⟨_, _, _⟩ := hX1.cells
  go_wp2_with fail
  refine (HC.out _).mono ?_
  rintro e w3 ⟨rfl, hk3⟩
  have hX0_3 := hX0.later hk3
  have hX1_3 := hX1.later hk3
  have hb3 := hb.trans (hk3.mono (by have := hX0.lt; omega))
  obtain ⟨_, _, _⟩ := hX0_3.frees
  obtain ⟨_, _, _⟩ := hX0_3.cells
  obtain ⟨_, _, _⟩ := hX1_3.frees
  obtain ⟨_, _, _⟩ := hX1_3.cells
  have hX0_4 := hX0_3.alloc (.cells #[.int .i64 l, .int .i64 m, .int .i64 n] 23)
  have hX1_4 := hX1_3.alloc (.cells #[.int .i64 l, .int .i64 m, .int .i64 n] 23)
  have hb4 := hb3.alloc (by have := hX0_3.lt; omega) (.cells #[.int .i64 l, .int .i64 m, .int .i64 n] 23)
  have hX2_4 := at3_new 23 w3 _ (.int .i64 l) (.int .i64 m) (.int .i64 n) rfl
  have lt0_4 := hX0_3.lt
  have lt1_4 := hX1_3.lt
  go_upto_region 2 with fail
  generalize (w3.alloc (.cells #[.int .i64 l, .int .i64 m, .int .i64 n] 23)) = w4 at hX0_4 hX1_4 hX2_4 hb4 ⊢
  generalize w3.heap.size = g2 at hX2_4 lt0_4 lt1_4 ⊢
  have hne20 : g2 ≠ g0 := by omega
  have hne02 : g0 ≠ g2 := by omega
  have hne21 : g2 ≠ g1 := by omega
  have hne12 : g1 ≠ g2 := by omega
  have hle2 : g0 ≤ g2 := by omega
  clear lt0_4 lt1_4
  obtain ⟨_, _, _⟩ := hX0_4.frees
  obtain ⟨_, _, _⟩ := hX0_4.cells
  obtain ⟨_, _, _⟩ := hX1_4.frees
  obtain ⟨_, _, _⟩ := hX1_4.cells
  obtain ⟨_, _, _⟩ := hX2_4.frees
  obtain ⟨_, _, _⟩ := hX2_4.cells
  go_upto_region 3 with fail
  go_upto_region 7 with fail
  have hX2_5 := (at3_set2 hX2_4 (.int .i64 W))
  have ho5 := ((Only.refl g2 w4).setCell 2 (.int .i64 W))
  have hX0_5 := hX0_4.only hne02 ho5
  have hX1_5 := hX1_4.only hne12 ho5
  have hb5 := hb4.trans (ho5.below hle2)
  generalize (w4.setCell ⟨g2, 2, none⟩ (.int .i64 W)) = w5 at hX0_5 hX1_5 hX2_5 hb5 ⊢
  clear ho5
  obtain ⟨_, _, _⟩ := hX0_5.frees
  obtain ⟨_, _, _⟩ := hX0_5.cells
  obtain ⟨_, _, _⟩ := hX1_5.frees
  obtain ⟨_, _, _⟩ := hX1_5.cells
  obtain ⟨_, _, _⟩ := hX2_5.frees
  obtain ⟨_, _, _⟩ := hX2_5.cells
  have hZ := at3_store hX1_5 (.int .i64 l) (.int .i64 m) (.int .i64 W)
  have hbz := hb5.trans ((store3_only w5 g1 (.int .i64 l) (.int .i64 m) (.int .i64 W)).below hle1)
  obtain ⟨d0, d1, d2⟩ := hZ.cells
  go_wp2_with fail
  refine bodyPost_ret (v := .agg #[.int .i64 l, .int .i64 m, .int .i64 W]) (by simp [results, Try.results11, go_sem, d0, d1, d2]) rfl ⟨rfl, by rw [HG.out]; exact hbz⟩
set_option maxHeartbeats 1600000 in
theorem refDlJit1 (d : DL) (j : Int) (l m n W : Int) (hf : d.fit = ⟨l, m, n⟩) (hW : d.fit.want j = W) (hq : ¬ n < W) (hq2 : W < n) (w : World) : Calls Try.prog 11 #[d.val, .int .i64 j] w fun e w' => e = .returned (.agg #[.int .i64 l, .int .i64 m, .int .i64 (n - 1)]) ∧ Below w.heap.size w w' := by
  have hok := d.fit_ok
  have HC := Lib.hid (fun W => refDlFit_any d W)
  rw [hf] at hok HC hW
  obtain ⟨e1, j0, j1, n0, n1, l0, l1⟩ := dlJq l m n j W hok hW
  clear hf hok hW
  obtain ⟨a, b, c⟩ := d
  simp only [DL.val] at HC ⊢
  have hJ : max 0 (min j 1048576) = am 0 j 1048576 := am_alt 0 j 1048576 (by omega)
  generalize am 0 j 1048576 = J at hJ e1 j0 j1
  have hw1 : IntKind.i64.wrap (4 * J) = 4 * J := IntWalk.i64_in _ ⟨by omega, by omega⟩
  have hw2 : IntKind.i64.wrap (l + 4 * J) = l + 4 * J := IntWalk.i64_in _ ⟨by omega, by omega⟩
  have hw3 : IntKind.i64.wrap (n - 1) = n - 1 := IntWalk.i64_in _ ⟨by omega, by omega⟩
  clear j0 j1 n0 n1 l0 l1
  rw [Int.min_comm] at e1
  have hX0 : At3 23 ((w.alloc (.cells #[.int .i64 a, .int .i64 b, .int .i64 c] 23)).alloc (.cells #[.int .i64 0, .int .i64 0, .int .i64 0] 23)) w.heap.size (.int .i64 a) (.int .i64 b) (.int .i64 c) := (at3_new 23 _ _ (.int .i64 a) (.int .i64 b) (.int .i64 c) rfl).alloc _
  have hX1 : At3 23 ((w.alloc (.cells #[.int .i64 a, .int .i64 b, .int .i64 c] 23)).alloc (.cells #[.int .i64 0, .int .i64 0, .int .i64 0] 23)) (w.heap.size + 1) (.int .i64 0) (.int .i64 0) (.int .i64 0) := at3_new 23 _ _ (.int .i64 0) (.int .i64 0) (.int .i64 0) (by simp)
  have hb : Below w.heap.size w ((w.alloc (.cells #[.int .i64 a, .int .i64 b, .int .i64 c] 23)).alloc (.cells #[.int .i64 0, .int .i64 0, .int .i64 0] 23)) := ((Below.refl _ _).alloc (Nat.le_refl _) _).alloc (by simp) _
  go_enter Try.func11, Try.ntmps11
  go_upto_region 1 with fail
  generalize ((w.alloc (.cells #[.int .i64 a, .int .i64 b, .int .i64 c] 23)).alloc (.cells #[.int .i64 0, .int .i64 0, .int .i64 0] 23)) = w2 at hX0 hX1 hb ⊢
  generalize hg1 : w.heap.size + 1 = g1 at hX1 ⊢
  generalize hg0 : w.heap.size = g0 at hX0 hb hg1 ⊢
  have hne01 : g0 ≠ g1 := by omega
  have hle1 : g0 ≤ g1 := by omega
  have hne10 : g1 ≠ g0 := by omega
  have HG := Lib.hid hg0
  clear hg0 hg1
  obtain ⟨_, _, _⟩ := hX0.frees
  obtain ⟨_, _, _⟩ := hX0.cells
  obtain ⟨_, _, _⟩ := hX1.frees
  obtain ⟨_, _, _⟩ := hX1.cells
  go_wp2_with fail
  refine (HC.out _).mono ?_
  rintro e w3 ⟨rfl, hk3⟩
  have hX0_3 := hX0.later hk3
  have hX1_3 := hX1.later hk3
  have hb3 := hb.trans (hk3.mono (by have := hX0.lt; omega))
  obtain ⟨_, _, _⟩ := hX0_3.frees
  obtain ⟨_, _, _⟩ := hX0_3.cells
  obtain ⟨_, _, _⟩ := hX1_3.frees
  obtain ⟨_, _, _⟩ := hX1_3.cells
  have hX0_4 := hX0_3.alloc (.cells #[.int .i64 l, .int .i64 m, .int .i64 n] 23)
  have hX1_4 := hX1_3.alloc (.cells #[.int .i64 l, .int .i64 m, .int .i64 n] 23)
  have hb4 := hb3.alloc (by have := hX0_3.lt; omega) (.cells #[.int .i64 l, .int .i64 m, .int .i64 n] 23)
  have hX2_4 := at3_new 23 w3 _ (.int .i64 l) (.int .i64 m) (.int .i64 n) rfl
  have lt0_4 := hX0_3.lt
  have lt1_4 := hX1_3.lt
  go_upto_region 2 with fail
  generalize (w3.alloc (.cells #[.int .i64 l, .int .i64 m, .int .i64 n] 23)) = w4 at hX0_4 hX1_4 hX2_4 hb4 ⊢
  generalize w3.heap.size = g2 at hX2_4 lt0_4 lt1_4 ⊢
  have hne20 : g2 ≠ g0 := by omega
  have hne02 : g0 ≠ g2 := by omega
  have hne21 : g2 ≠ g1 := by omega
  have hne12 : g1 ≠ g2 := by omega
  have hle2 : g0 ≤ g2 := by omega
  clear lt0_4 lt1_4
  obtain ⟨_, _, _⟩ := hX0_4.frees
  obtain ⟨_, _, _⟩ := hX0_4.cells
  obtain ⟨_, _, _⟩ := hX1_4.frees
  obtain ⟨_, _, _⟩ := hX1_4.cells
  obtain ⟨_, _, _⟩ := hX2_4.frees
  obtain ⟨_, _, _⟩ := hX2_4.cells
  go_upto_region 3 with fail
  go_upto_region 7 with fail
  have hX2_5 := (at3_set2 hX2_4 (.int .i64 (n - 1)))
  have ho5 := ((Only.refl g2 w4).setCell 2 (.int .i64 (n - 1)))
  have hX0_5 := hX0_4.only hne02 ho5
  have hX1_5 := hX1_4.only hne12 ho5
  have hb5 := hb4.trans (ho5.below hle2)
  generalize (w4.setCell ⟨g2, 2, none⟩ (.int .i64 (n - 1))) = w5 at hX0_5 hX1_5 hX2_5 hb5 ⊢
  clear ho5
  obtain ⟨_, _, _⟩ := hX0_5.frees
  obtain ⟨_, _, _⟩ := hX0_5.cells
  obtain ⟨_, _, _⟩ := hX1_5.frees
  obtain ⟨_, _, _⟩ := hX1_5.cells
  obtain ⟨_, _, _⟩ := hX2_5.frees
  obtain ⟨_, _, _⟩ := hX2_5.cells
  have hZ := at3_store hX1_5 (.int .i64 l) (.int .i64 m) (.int .i64 (n - 1))
  have hbz := hb5.trans ((store3_only w5 g1 (.int .i64 l) (.int .i64 m) (.int .i64 (n - 1))).below hle1)
  obtain ⟨d0, d1, d2⟩ := hZ.cells
  go_wp2_with fail
  refine bodyPost_ret (v := .agg #[.int .i64 l, .int .i64 m, .int .i64 (n - 1)]) (by simp [results, Try.results11, go_sem, d0, d1, d2]) rfl ⟨rfl, by rw [HG.out]; exact hbz⟩
set_option maxHeartbeats 1600000 in
theorem refDlJit2 (d : DL) (j : Int) (l m n W : Int) (hf : d.fit = ⟨l, m, n⟩) (hW : d.fit.want j = W) (hq : ¬ n < W) (hq2 : ¬ W < n) (w : World) : Calls Try.prog 11 #[d.val, .int .i64 j] w fun e w' => e = .returned (.agg #[.int .i64 l, .int .i64 m, .int .i64 n]) ∧ Below w.heap.size w w' := by
  have hok := d.fit_ok
  have HC := Lib.hid (fun W => refDlFit_any d W)
  rw [hf] at hok HC hW
  obtain ⟨e1, j0, j1, n0, n1, l0, l1⟩ := dlJq l m n j W hok hW
  clear hf hok hW
  obtain ⟨a, b, c⟩ := d
  simp only [DL.val] at HC ⊢
  have hJ : max 0 (min j 1048576) = am 0 j 1048576 := am_alt 0 j 1048576 (by omega)
  generalize am 0 j 1048576 = J at hJ e1 j0 j1
  have hw1 : IntKind.i64.wrap (4 * J) = 4 * J := IntWalk.i64_in _ ⟨by omega, by omega⟩
  have hw2 : IntKind.i64.wrap (l + 4 * J) = l + 4 * J := IntWalk.i64_in _ ⟨by omega, by omega⟩
  have hw3 : IntKind.i64.wrap (n - 1) = n - 1 := IntWalk.i64_in _ ⟨by omega, by omega⟩
  clear j0 j1 n0 n1 l0 l1
  rw [Int.min_comm] at e1
  have hX0 : At3 23 ((w.alloc (.cells #[.int .i64 a, .int .i64 b, .int .i64 c] 23)).alloc (.cells #[.int .i64 0, .int .i64 0, .int .i64 0] 23)) w.heap.size (.int .i64 a) (.int .i64 b) (.int .i64 c) := (at3_new 23 _ _ (.int .i64 a) (.int .i64 b) (.int .i64 c) rfl).alloc _
  have hX1 : At3 23 ((w.alloc (.cells #[.int .i64 a, .int .i64 b, .int .i64 c] 23)).alloc (.cells #[.int .i64 0, .int .i64 0, .int .i64 0] 23)) (w.heap.size + 1) (.int .i64 0) (.int .i64 0) (.int .i64 0) := at3_new 23 _ _ (.int .i64 0) (.int .i64 0) (.int .i64 0) (by simp)
  have hb : Below w.heap.size w ((w.alloc (.cells #[.int .i64 a, .int .i64 b, .int .i64 c] 23)).alloc (.cells #[.int .i64 0, .int .i64 0, .int .i64 0] 23)) := ((Below.refl _ _).alloc (Nat.le_refl _) _).alloc (by simp) _
  go_enter Try.func11, Try.ntmps11
  go_upto_region 1 with fail
  generalize ((w.alloc (.cells #[.int .i64 a, .int .i64 b, .int .i64 c] 23)).alloc (.cells #[.int .i64 0, .int .i64 0, .int .i64 0] 23)) = w2 at hX0 hX1 hb ⊢
  generalize hg1 : w.heap.size + 1 = g1 at hX1 ⊢
  generalize hg0 : w.heap.size = g0 at hX0 hb hg1 ⊢
  have hne01 : g0 ≠ g1 := by omega
  have hle1 : g0 ≤ g1 := by omega
  have hne10 : g1 ≠ g0 := by omega
  have HG := Lib.hid hg0
  clear hg0 hg1
  obtain ⟨_, _, _⟩ := hX0.frees
  obtain ⟨_, _, _⟩ := hX0.cells
  obtain ⟨_, _, _⟩ := hX1.frees
  obtain ⟨_, _, _⟩ := hX1.cells
  go_wp2_with fail
  refine (HC.out _).mono ?_
  rintro e w3 ⟨rfl, hk3⟩
  have hX0_3 := hX0.later hk3
  have hX1_3 := hX1.later hk3
  have hb3 := hb.trans (hk3.mono (by have := hX0.lt; omega))
  obtain ⟨_, _, _⟩ := hX0_3.frees
  obtain ⟨_, _, _⟩ := hX0_3.cells
  obtain ⟨_, _, _⟩ := hX1_3.frees
  obtain ⟨_, _, _⟩ := hX1_3.cells
  have hX0_4 := hX0_3.alloc (.cells #[.int .i64 l, .int .i64 m, .int .i64 n] 23)
  have hX1_4 := hX1_3.alloc (.cells #[.int .i64 l, .int .i64 m, .int .i64 n] 23)
  have hb4 := hb3.alloc (by have := hX0_3.lt; omega) (.cells #[.int .i64 l, .int .i64 m, .int .i64 n] 23)
  have hX2_4 := at3_new 23 w3 _ (.int .i64 l) (.int .i64 m) (.int .i64 n) rfl
  have lt0_4 := hX0_3.lt
  have lt1_4 := hX1_3.lt
  go_upto_region 2 with fail
  generalize (w3.alloc (.cells #[.int .i64 l, .int .i64 m, .int .i64 n] 23)) = w4 at hX0_4 hX1_4 hX2_4 hb4 ⊢
  generalize w3.heap.size = g2 at hX2_4 lt0_4 lt1_4 ⊢
  have hne20 : g2 ≠ g0 := by omega
  have hne02 : g0 ≠ g2 := by omega
  have hne21 : g2 ≠ g1 := by omega
  have hne12 : g1 ≠ g2 := by omega
  have hle2 : g0 ≤ g2 := by omega
  clear lt0_4 lt1_4
  obtain ⟨_, _, _⟩ := hX0_4.frees
  obtain ⟨_, _, _⟩ := hX0_4.cells
  obtain ⟨_, _, _⟩ := hX1_4.frees
  obtain ⟨_, _, _⟩ := hX1_4.cells
  obtain ⟨_, _, _⟩ := hX2_4.frees
  obtain ⟨_, _, _⟩ := hX2_4.cells
  go_upto_region 3 with fail
  go_upto_region 7 with fail
  have hZ := at3_store hX1_4 (.int .i64 l) (.int .i64 m) (.int .i64 n)
  have hbz := hb4.trans ((store3_only w4 g1 (.int .i64 l) (.int .i64 m) (.int .i64 n)).below hle1)
  obtain ⟨d0, d1, d2⟩ := hZ.cells
  go_wp2_with fail
  refine bodyPost_ret (v := .agg #[.int .i64 l, .int .i64 m, .int .i64 n]) (by simp [results, Try.results11, go_sem, d0, d1, d2]) rfl ⟨rfl, by rw [HG.out]; exact hbz⟩
theorem refDlJit_any (d : DL) (j : Int) (w : World) : Calls Try.prog 11 #[d.val, .int .i64 j] w fun e w' => e = .returned (d.jit j).val ∧ Below w.heap.size w w' := by
  unfold DL.jit DL.val jitC
  by_cases h : d.fit.c < d.fit.want j
  · rw [if_pos h]; exact refDlJit0 d j _ _ _ _ rfl rfl h w
  · rw [if_neg h]
    by_cases h2 : d.fit.want j < d.fit.c
    · rw [if_pos h2]; exact refDlJit1 d j _ _ _ _ rfl rfl h h2 w
    · rw [if_neg h2]; exact refDlJit2 d j _ _ _ _ rfl rfl h h2 w
end Go.Proofs.Ytkefpedijjbmfaa
