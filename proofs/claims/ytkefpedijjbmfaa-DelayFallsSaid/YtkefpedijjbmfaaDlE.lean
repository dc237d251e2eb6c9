/- delay: Late of both sides; Due. -/
import Derived.Test.YtkefpedijjbmfaaDlD
namespace Go.Proofs.Ytkefpedijjbmfaa
open Go.RowKit
set_option linter.unusedVariables false
set_option maxHeartbeats 1600000 in
theorem refDlLate_any (d : DL) (j : Int) (w : World) : Calls Try.prog 9 #[d.val, .int .i64 j] w fun e w' => e = .returned (d.late j).val ∧ Below w.heap.size w w' := by
  have hok := d.fit_ok
  have HC := Lib.hid (fun W => refDlFit_any d W)
  unfold DL.late
  generalize d.fit = f at HC hok ⊢
  obtain ⟨l, m, n⟩ := f
  obtain ⟨h0, h1, h2, h3, h4⟩ := hok
  simp only at h0 h1 h2 h3 h4
  obtain ⟨a, b, c⟩ := d
  simp only [DL.val] at HC ⊢
  have j0 : 0 ≤ am 0 j 1048576 := am_lo 0 j 1048576 (by omega)
  have j1 : am 0 j 1048576 ≤ 1048576 := am_hi 0 j 1048576
  have hJ : max 0 (min j 1048576) = am 0 j 1048576 := am_alt 0 j 1048576 (by omega)
  generalize am 0 j 1048576 = J at hJ j0 j1 ⊢
  have hw2 : IntKind.i64.wrap (n + J) = n + J := IntWalk.i64_in _ ⟨by omega, by omega⟩
  rw [Int.min_comm]
  generalize hV : min m (n + J) = V
  clear h0 h1 h2 h3 h4 j0 j1
  have hX0 : At3 23 ((w.alloc (.cells #[.int .i64 a, .int .i64 b, .int .i64 c] 23)).alloc (.cells #[.int .i64 0, .int .i64 0, .int .i64 0] 23)) w.heap.size (.int .i64 a) (.int .i64 b) (.int .i64 c) := (at3_new 23 _ _ (.int .i64 a) (.int .i64 b) (.int .i64 c) rfl).alloc _
  have hX1 : At3 23 ((w.alloc (.cells #[.int .i64 a, .int .i64 b, .int .i64 c] 23)).alloc (.cells #[.int .i64 0, .int .i64 0, .int .i64 0] 23)) (w.heap.size + 1) (.int .i64 0) (.int .i64 0) (.int .i64 0) := at3_new 23 _ _ (.int .i64 0) (.int .i64 0) (.int .i64 0) (by simp)
  have hb : Below w.heap.size w ((w.alloc (.cells #[.int .i64 a, .int .i64 b, .int .i64 c] 23)).alloc (.cells #[.int .i64 0, .int .i64 0, .int .i64 0] 23)) := ((Below.refl _ _).alloc (Nat.le_refl _) _).alloc (by simp) _
  go_enter Try.func9, Try.ntmps9
  go_upto_region 1 with fail
  generalize ((w.alloc (.cells #[.int .i64 a, .int .i64 b, .int .i64 c] 23)).alloc (.cells #[.int .i64 0, .int .i64 0, .int .i64 0] 23)) = w2 at hX0 hX1 hb ⊢
  generalize hg1 : w.heap.size + 1 = g1 at hX1 ⊢
  generalize hg0 : w.heap.size = g0 at hX0 hb hg1 ⊢
  have hne01 : g0 ≠ g1 := by omega
  have hle1 : g0 ≤ g1 := by omega
  have hne10 : g1 ≠ g0 := by omega
  have HG := Lib.hid hg0
  clear hg0 hg1
  obtain ⟨_, _, _⟩ := hX0.frees
  obtain ⟨_, _, _⟩ := hX0.cells
  obtain ⟨_, _, _⟩ := hX1.frees
  obtain ⟨_, _, _⟩ := hX1.cells
  go_wp2_with fail
  refine (HC.out _).mono ?_
  rintro e w3 ⟨rfl, hk3⟩
  have hX0_3 := hX0.later hk3
  have hX1_3 := hX1.later hk3
  have hb3 := hb.trans (hk3.mono (by have := hX0.lt; omega))
  obtain ⟨_, _, _⟩ := hX0_3.frees
  obtain ⟨_, _, _⟩ := hX0_3.cells
  obtain ⟨_, _, _⟩ := hX1_3.frees
  obtain ⟨_, _, _⟩ := hX1_3.cells
  have hX0_4 := hX0_3.alloc (.cells #[.int .i64 l, .int .i64 m, .int .i64 n] 23)
  have hX1_4 := hX1_3.alloc (.cells #[.int .i64 l, .int .i64 m, .int .i64 n] 23)
  have hb4 := hb3.alloc (by have := hX0_3.lt; omega) (.cells #[.int .i64 l, .int .i64 m, .int .i64 n] 23)
  have hX2_4 := at3_new 23 w3 _ (.int .i64 l) (.int .i64 m) (.int .i64 n) rfl
  have lt0_4 := hX0_3.lt
  have lt1_4 := hX1_3.lt
  go_upto_region 2 with fail
  generalize (w3.alloc (.cells #[.int .i64 l, .int .i64 m, .int .i64 n] 23)) = w4 at hX0_4 hX1_4 hX2_4 hb4 ⊢
  generalize w3.heap.size = g2 at hX2_4 lt0_4 lt1_4 ⊢
  have hne20 : g2 ≠ g0 := by omega
  have hne02 : g0 ≠ g2 := by omega
  have hne21 : g2 ≠ g1 := by omega
  have hne12 : g1 ≠ g2 := by omega
  have hle2 : g0 ≤ g2 := by omega
  clear lt0_4 lt1_4
  obtain ⟨_, _, _⟩ := hX0_4.frees
  obtain ⟨_, _, _⟩ := hX0_4.cells
  obtain ⟨_, _, _⟩ := hX1_4.frees
  obtain ⟨_, _, _⟩ := hX1_4.cells
  obtain ⟨_, _, _⟩ := hX2_4.frees
  obtain ⟨_, _, _⟩ := hX2_4.cells
  go_upto_region 3 with fail
  have hX2_5 := (at3_set2 hX2_4 (.int .i64 V))
  have ho5 := ((Only.refl g2 w4).setCell 2 (.int .i64 V))
  have hX0_5 := hX0_4.only hne02 ho5
  have hX1_5 := hX1_4.only hne12 ho5
  have hb5 := hb4.trans (ho5.below hle2)
  generalize (w4.setCell ⟨g2, 2, none⟩ (.int .i64 V)) = w5 at hX0_5 hX1_5 hX2_5 hb5 ⊢
  clear ho5
  obtain ⟨_, _, _⟩ := hX0_5.frees
  obtain ⟨_, _, _⟩ := hX0_5.cells
  obtain ⟨_, _, _⟩ := hX1_5.frees
  obtain ⟨_, _, _⟩ := hX1_5.cells
  obtain ⟨_, _, _⟩ := hX2_5.frees
  obtain ⟨_, _, _⟩ := hX2_5.cells
  have hZ := at3_store hX1_5 (.int .i64 l) (.int .i64 m) (.int .i64 V)
  have hbz := hb5.trans ((store3_only w5 g1 (.int .i64 l) (.int .i64 m) (.int .i64 V)).below hle1)
  obtain ⟨d0, d1, d2⟩ := hZ.cells
  go_wp2_with fail
  refine bodyPost_ret (v := .agg #[.int .i64 l, .int .i64 m, .int .i64 V]) (by simp [results, Try.results9, go_sem, d0, d1, d2]) rfl ⟨rfl, by rw [HG.out]; exact hbz⟩
set_option maxHeartbeats 1600000 in
theorem dlLate_any (d : DL) (j : Int) (w : World) : Calls Try.prog 8 #[d.val, .int .i64 j] w fun e w' => e = .returned (d.late j).val ∧ Below w.heap.size w w' := by
  have hok := d.fit_ok
  have HC := Lib.hid (fun W => dlCnt_any d W)
  unfold DL.late
  generalize d.fit = f at HC hok ⊢
  obtain ⟨l, m, n⟩ := f
  obtain ⟨h0, h1, h2, h3, h4⟩ := hok
  simp only at h0 h1 h2 h3 h4
  obtain ⟨a, b, c⟩ := d
  simp only [DL.val] at HC ⊢
  have j0 : 0 ≤ am 0 j 1048576 := am_lo 0 j 1048576 (by omega)
  have j1 : am 0 j 1048576 ≤ 1048576 := am_hi 0 j 1048576
  have HT : Hid (∀ X : World, Calls Try.prog 17 #[.int .i64 j] X fun e w' => e = .returned (.int .i64 (am 0 j 1048576)) ∧ w' = X) := Lib.hid (fun X => dlTicks_q j X)
  generalize am 0 j 1048576 = J at HT j0 j1 ⊢
  have hw2 : IntKind.i64.wrap (n + J) = n + J := IntWalk.i64_in _ ⟨by omega, by omega⟩
  generalize hV : min (n + J) m = V
  clear h0 h1 h2 h3 h4 j0 j1
  have hX0 : At3 27 ((w.alloc (.cells #[.int .i64 a, .int .i64 b, .int .i64 c] 27)).alloc (.cells #[.int .i64 0, .int .i64 0, .int .i64 0] 27)) w.heap.size (.int .i64 a) (.int .i64 b) (.int .i64 c) := (at3_new 27 _ _ (.int .i64 a) (.int .i64 b) (.int .i64 c) rfl).alloc _
  have hX1 : At3 27 ((w.alloc (.cells #[.int .i64 a, .int .i64 b, .int .i64 c] 27)).alloc (.cells #[.int .i64 0, .int .i64 0, .int .i64 0] 27)) (w.heap.size + 1) (.int .i64 0) (.int .i64 0) (.int .i64 0) := at3_new 27 _ _ (.int .i64 0) (.int .i64 0) (.int .i64 0) (by simp)
  have hb : Below w.heap.size w ((w.alloc (.cells #[.int .i64 a, .int .i64 b, .int .i64 c] 27)).alloc (.cells #[.int .i64 0, .int .i64 0, .int .i64 0] 27)) := ((Below.refl _ _).alloc (Nat.le_refl _) _).alloc (by simp) _
  go_enter Try.func8, Try.ntmps8
  go_upto_region 1 with fail
  generalize ((w.alloc (.cells #[.int .i64 a, .int .i64 b, .int .i64 c] 27)).alloc (.cells #[.int .i64 0, .int .i64 0, .int .i64 0] 27)) = w2 at hX0 hX1 hb ⊢
  generalize hg1 : w.heap.size + 1 = g1 at hX1 ⊢
  generalize hg0 : w.heap.size = g0 at hX0 hb hg1 ⊢
  have hne01 : g0 ≠ g1 := by omega
  have hle1 : g0 ≤ g1 := by omega
  have hne10 : g1 ≠ g0 := by omega
  have HG := Lib.hid hg0
  clear hg0 hg1
  obtain ⟨_, _, _⟩ := hX0.frees
  obtain ⟨_, _, _⟩ := hX0.cells
  obtain ⟨_, _, _⟩ := hX1.frees
  obtain ⟨_, _, _⟩ := hX1.cells
  go_wp2_with fail
  refine (HC.out _).mono ?_
  rintro e w3 ⟨rfl, hk3⟩
  have hX0_3 := hX0.later hk3
  have hX1_3 := hX1.later hk3
  have hb3 := hb.trans (hk3.mono (by have := hX0.lt; omega))
  obtain ⟨_, _, _⟩ := hX0_3.frees
  obtain ⟨_, _, _⟩ := hX0_3.cells
  obtain ⟨_, _, _⟩ := hX1_3.frees
  obtain ⟨_, _, _⟩ := hX1_3.cells
  go_upto_region 2 with fail
  have hX0_4 := at3_store hX0_3 (.int .i64 l) (.int .i64 m) (.int .i64 n)
  have ho4 := store3_only w3 g0 (.int .i64 l) (.int .i64 m) (.int .i64 n)
  have hX1_4 := hX1_3.only hne10 ho4
  have hb4 := hb3.trans (ho4.below (Nat.le_refl _))
  generalize (((w3.setCell ⟨g0, 0, none⟩ (.int .i64 l)).setCell ⟨g0, 1, none⟩ (.int .i64 m)).setCell ⟨g0, 2, none⟩ (.int .i64 n)) = w4 at hX0_4 hX1_4 hb4 ⊢
  clear ho4
  obtain ⟨_, _, _⟩ := hX0_4.frees
  obtain ⟨_, _, _⟩ := hX0_4.cells
  obtain ⟨_, _, _⟩ := hX1_4.frees
  obtain ⟨_, _, _⟩ := hX1_4.cells
  go_region_law (first | (go_simp; go_at_call 17; refine (HT.out _).mono ?_; rintro e w' ⟨rfl, hkq⟩; subst hkq))
  all_goals
    have hX0_5 := (at3_set2 hX0_4 (.int .i64 V))
    have ho5 := ((Only.refl g0 w4).setCell 2 (.int .i64 V))
    have hX1_5 := hX1_4.only hne10 ho5
    have hb5 := hb4.trans (ho5.below (Nat.le_refl _))
    generalize (w4.setCell ⟨g0, 2, none⟩ (.int .i64 V)) = w5 at hX0_5 hX1_5 hb5 ⊢
    clear ho5
    obtain ⟨_, _, _⟩ := hX0_5.frees
    obtain ⟨_, _, _⟩ := hX0_5.cells
    obtain ⟨_, _, _⟩ := hX1_5.frees
    obtain ⟨_, _, _⟩ := hX1_5.cells
    have hZ := at3_store hX1_5 (.int .i64 l) (.int .i64 m) (.int .i64 V)
    have hbz := hb5.trans ((store3_only w5 g1 (.int .i64 l) (.int .i64 m) (.int .i64 V)).below hle1)
    obtain ⟨d0, d1, d2⟩ := hZ.cells
    go_wp2_with fail
    refine bodyPost_ret (v := .agg #[.int .i64 l, .int .i64 m, .int .i64 V]) (by simp [results, Try.results8, go_sem, d0, d1, d2]) rfl ⟨rfl, by rw [HG.out]; first | exact hbz | exact hbz.drew⟩
end Go.Proofs.Ytkefpedijjbmfaa
