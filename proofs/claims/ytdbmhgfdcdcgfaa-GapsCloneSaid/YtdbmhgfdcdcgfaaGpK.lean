/- gaps: the document's near, Clip, wait. -/
import Derived.Test.YtdbmhgfdcdcgfaaGpJ
namespace Go.Proofs.Ytdbmhgfdcdcgfaa
open Go.RowKit
set_option linter.unusedVariables false
set_option linter.unusedSimpArgs false
theorem refGpNear_q (n lo hi : Int) (w : World) (h : lo ≤ hi) : Calls Try.prog 22 #[.int .i64 n, .int .i64 lo, .int .i64 hi] w fun e w' => e = .returned (.int .i64 (gAm lo n hi)) ∧ w' = w := by
  unfold gAm
  by_cases h1 : n < lo
  · have e1 : min (max n lo) hi = lo := by omega
    rw [e1]
    have hd : decide (n < lo) = true := by simp; omega
    go_enter Try.func22, Try.ntmps22
    go_wp2
    go_ret
    exact ⟨rfl, rfl⟩
  · have hd : decide (n < lo) = false := by simp; omega
    by_cases h2 : hi < n
    · have e1 : min (max n lo) hi = hi := by omega
      rw [e1]
      have hd2 : decide (hi < n) = true := by simp; omega
      go_enter Try.func22, Try.ntmps22
      go_wp2
      go_ret
      exact ⟨rfl, rfl⟩
    · have e1 : min (max n lo) hi = n := by omega
      rw [e1]
      have hd2 : decide (hi < n) = false := by simp; omega
      go_enter Try.func22, Try.ntmps22
      go_wp2
      go_ret
      exact ⟨rfl, rfl⟩
set_option maxRecDepth 100000 in
set_option maxHeartbeats 1600000 in
theorem refGpWait_q (m t f A : Int) (k : Nat) (w : World) (hA : 1 ≤ A ∧ A ≤ 1048576) (hk : k ≤ 1000) :
    Calls Try.prog 35 #[.agg #[.int .i64 m, .int .i64 t, .int .i64 f, .int .i64 A], .int .i64 ((k : Int) + 1)] w fun e w' => e = .returned (.int .i64 (wtR A k)) ∧ Below w.heap.size w w' := by
  have hX := at4_new 23 w w.heap.size (.int .i64 m) (.int .i64 t) (.int .i64 f) (.int .i64 A) rfl
  have hb : Below w.heap.size w (w.alloc (.cells #[.int .i64 m, .int .i64 t, .int .i64 f, .int .i64 A] 23)) := (Below.refl _ _).alloc (Nat.le_refl _) _
  go_enter Try.func35, Try.ntmps35
  go_upto_region 1 with fail
  generalize (w.alloc (.cells #[.int .i64 m, .int .i64 t, .int .i64 f, .int .i64 A] 23)) = w2 at *
  generalize hg0 : w.heap.size = g0 at *
  have HG := Lib.hid hg0
  clear hg0
  obtain ⟨_, _, _, _⟩ := hX.cells
  go_wp2_with fail
  go_loopw [5, 6] (fun v i wr => ∃ j : Nat, j ≤ k ∧ v = .int .i64 (wtR A j) ∧ i = .int .i64 ((j : Int) + 1) ∧ Below g0 w wr) (fun v i _ => k + 1 - (intOf i).toNat)
  case atStart => exact ⟨0, Nat.zero_le _, rfl, by simp, hb⟩
  case round =>
    obtain ⟨j, hj, rfl, rfl, hbr⟩ := hrel
    have hw := wtR_bd A hA j
    have HW := Lib.hid (show wtR A (j + 1) = min (2 * wtR A j) 1048576 from rfl)
    by_cases hlt : j < k
    · generalize wtR A j = u at *
      have hd : decide ((j : Int) + 1 < (k : Int) + 1) = true := by simp; omega
      go_wp2_with fail
      go_roundw
      case rel => exact ⟨j + 1, by omega, by rw [HW.out], by go_num, hbr⟩
      case measure => simp [intOf]; omega
    · obtain rfl : j = k := by omega
      generalize hu : wtR A j = u at *
      have HU := Lib.hid hu
      clear hu
      go_wp2_with fail
      go_ret
      exact ⟨by rw [HU.out]; rfl, by rw [HG.out]; exact hbr⟩
set_option maxRecDepth 100000 in
set_option maxHeartbeats 1600000 in
theorem refGpClip_any (c : GC) (w : World) : Calls Try.prog 11 #[c.val] w fun e w' => e = .returned c.clip.val ∧ Below w.heap.size w w' := by
  obtain ⟨m, t, f, a⟩ := c
  simp only [GC.val, GC.clip]
  rw [show gpM m = gAm 1 m 1024 from rfl, show gpT t = gAm 1 t 100 from rfl, show gpF f = gAm 0 f 1048576 from rfl, show gpA a = gAm 1 a 1048576 from rfl]
  have hX0 := (at4_new 23 w w.heap.size (.int .i64 m) (.int .i64 t) (.int .i64 f) (.int .i64 a) rfl).alloc (.cells #[.int .i64 0, .int .i64 0, .int .i64 0, .int .i64 0] 23)
  have hX1 := at4_new 23 (w.alloc (.cells #[.int .i64 m, .int .i64 t, .int .i64 f, .int .i64 a] 23)) (w.heap.size + 1) (.int .i64 0) (.int .i64 0) (.int .i64 0) (.int .i64 0) (by simp)
  have hb : Below w.heap.size w ((w.alloc (.cells #[.int .i64 m, .int .i64 t, .int .i64 f, .int .i64 a] 23)).alloc (.cells #[.int .i64 0, .int .i64 0, .int .i64 0, .int .i64 0] 23)) := ((Below.refl _ _).alloc (Nat.le_refl _) _).alloc (by simp) _
  go_enter Try.func11, Try.ntmps11
  go_upto_region 1 with fail
  generalize ((w.alloc (.cells #[.int .i64 m, .int .i64 t, .int .i64 f, .int .i64 a] 23)).alloc (.cells #[.int .i64 0, .int .i64 0, .int .i64 0, .int .i64 0] 23)) = w2 at *
  generalize hg1 : w.heap.size + 1 = g1 at *
  generalize hg0 : w.heap.size = g0 at *
  have HG := Lib.hid hg0
  have hle1 : g0 ≤ g1 := by omega
  have hne01 : g0 ≠ g1 := by omega
  clear hg0 hg1
  obtain ⟨_, _, _, _⟩ := hX0.cells
  obtain ⟨_, _, _, _⟩ := hX1.cells
  obtain ⟨_, _, _, _⟩ := hX1.frees
  go_region_held3 (fun W => W.cell? ⟨g0, 0, none⟩ = some (.int .i64 m) ∧ W.cell? ⟨g0, 1, none⟩ = some (.int .i64 t) ∧ W.cell? ⟨g0, 2, none⟩ = some (.int .i64 f) ∧ W.cell? ⟨g0, 3, none⟩ = some (.int .i64 a)) (first | (go_keep; done) | with_reducible exact hX0.drew.cells | with_reducible exact (At4.only hX0 hne01 (put4_only _ _ _ _ _ _)).drew.cells) (first | (go_at_call 22; refine (refGpNear_q _ _ _ _ (by decide)).mono ?_; rintro e w' ⟨rfl, rfl⟩))
  all_goals
    have hZ := at4_put hX1 (.int .i64 (gAm 1 m 1024)) (.int .i64 (gAm 1 t 100)) (.int .i64 (gAm 0 f 1048576)) (.int .i64 (gAm 1 a 1048576))
    have hbz := hb.trans ((put4_only w2 g1 (.int .i64 (gAm 1 m 1024)) (.int .i64 (gAm 1 t 100)) (.int .i64 (gAm 0 f 1048576)) (.int .i64 (gAm 1 a 1048576))).below hle1)
    obtain ⟨d0, d1, d2, d3⟩ := hZ.cells
    go_wp2_with fail
    refine bodyPost_ret (v := .agg #[.int .i64 (gAm 1 m 1024), .int .i64 (gAm 1 t 100), .int .i64 (gAm 0 f 1048576), .int .i64 (gAm 1 a 1048576)]) (by simp [results, Try.results11, go_sem, d0, d1, d2, d3]) rfl ⟨rfl, by rw [HG.out]; exact hbz.drew⟩

end Go.Proofs.Ytdbmhgfdcdcgfaa
