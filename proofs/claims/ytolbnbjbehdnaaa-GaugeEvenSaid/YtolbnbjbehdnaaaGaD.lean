/- gauge: a trip: Next, Timeout; a rate: step, Next. -/
import Derived.Test.YtolbnbjbehdnaaaGaC
namespace Go.Proofs.Ytolbnbjbehdnaaa
open Go.RowKit
set_option linter.unusedVariables false

theorem tNext0_any (s : Int) (h0 : 0 ≤ s) (h1 : s ≤ 1048576) (w : World) :
    Calls Try.prog 12 #[.agg #[.int .i64 0, .int .i64 0, .bool false], .int .i64 s] w fun e w' => e = .returned (.agg #[.int .i64 (8 * s), .int .i64 (2 * s), .bool true]) ∧ Below w.heap.size w w' := by
  have hu := fun W => upTo_any 1048576 s W
  rw [upM_in _ s h0 h1] at hu
  have hX : At3 36 ((w.alloc (.cells #[.int .i64 0, .int .i64 0, .bool false] 36)).alloc (.cells #[.int .i64 0, .int .i64 0, .bool false] 36)) w.heap.size (.int .i64 0) (.int .i64 0) (.bool false) := (at3_new 36 w _ (.int .i64 0) (.int .i64 0) (.bool false) rfl).alloc _
  have hY : At3 36 ((w.alloc (.cells #[.int .i64 0, .int .i64 0, .bool false] 36)).alloc (.cells #[.int .i64 0, .int .i64 0, .bool false] 36)) (w.heap.size + 1) (.int .i64 0) (.int .i64 0) (.bool false) := at3_new 36 _ _ (.int .i64 0) (.int .i64 0) (.bool false) (by simp)
  have hb : Below w.heap.size w ((w.alloc (.cells #[.int .i64 0, .int .i64 0, .bool false] 36)).alloc (.cells #[.int .i64 0, .int .i64 0, .bool false] 36)) := ((Below.refl _ _).alloc (Nat.le_refl _) _).alloc (by simp) _
  go_enter Try.func12, Try.ntmps12
  go_upto_region 1 with fail
  generalize ((w.alloc (.cells #[.int .i64 0, .int .i64 0, .bool false] 36)).alloc (.cells #[.int .i64 0, .int .i64 0, .bool false] 36)) = w2 at hX hY hb ⊢
  generalize hg2 : w.heap.size + 1 = g2 at hY ⊢
  generalize hg : w.heap.size = g at hX hb hg2 ⊢
  have hne : g ≠ g2 := by omega
  have hgle : g ≤ g2 := by omega
  have HG := Lib.hid hg
  clear hg hg2
  obtain ⟨_, _, _⟩ := hX.frees
  obtain ⟨_, _, _⟩ := hX.cells
  obtain ⟨_, _, _⟩ := hY.frees
  obtain ⟨_, _, _⟩ := hY.cells
  go_wp2_with fail
  refine (hu _).mono ?_
  rintro e w' ⟨rfl, rfl⟩
  go_wp2_with fail
  have hZ := at3_store hY (.int .i64 (8 * s)) (.int .i64 (2 * s)) (.bool true)
  have hbz := hb.trans ((store3_only w2 g2 (.int .i64 (8 * s)) (.int .i64 (2 * s)) (.bool true)).below hgle)
  obtain ⟨d0, d1, d2⟩ := hZ.cells
  refine bodyPost_ret (v := .agg #[.int .i64 (8 * s), .int .i64 (2 * s), .bool true]) (by simp [results, Try.results12, go_sem, d0, d1, d2]) rfl ⟨rfl, by rw [HG.out]; exact hbz⟩
theorem tNext1_any (s m p : Int) (h0 : 0 ≤ s) (h1 : s ≤ 1048576) (m0 : 0 ≤ m) (m1 : m ≤ 16777216) (p0 : 0 ≤ p) (p1 : p ≤ 16777216) (hms : m / 8 = s) (w : World) :
    Calls Try.prog 12 #[.agg #[.int .i64 m, .int .i64 p, .bool true], .int .i64 s] w fun e w' => e = .returned (.agg #[.int .i64 m, .int .i64 (p - p / 4), .bool true]) ∧ Below w.heap.size w w' := by
  have hu := fun W => upTo_any 1048576 s W
  rw [upM_in _ s h0 h1] at hu
  have hv := upM_in _ m m0 m1
  have hp := upM_in _ p p0 p1
  have hz := fun W => size_any 0 (by omega) (by omega) W
  have hd2 : s - s = 0 := by omega
  rw [show max (0 : Int) (-0) = 0 from by decide] at hz
  have hX : At3 36 ((w.alloc (.cells #[.int .i64 m, .int .i64 p, .bool true] 36)).alloc (.cells #[.int .i64 0, .int .i64 0, .bool false] 36)) w.heap.size (.int .i64 m) (.int .i64 p) (.bool true) := (at3_new 36 w _ (.int .i64 m) (.int .i64 p) (.bool true) rfl).alloc _
  have hY : At3 36 ((w.alloc (.cells #[.int .i64 m, .int .i64 p, .bool true] 36)).alloc (.cells #[.int .i64 0, .int .i64 0, .bool false] 36)) (w.heap.size + 1) (.int .i64 0) (.int .i64 0) (.bool false) := at3_new 36 _ _ (.int .i64 0) (.int .i64 0) (.bool false) (by simp)
  have hb : Below w.heap.size w ((w.alloc (.cells #[.int .i64 m, .int .i64 p, .bool true] 36)).alloc (.cells #[.int .i64 0, .int .i64 0, .bool false] 36)) := ((Below.refl _ _).alloc (Nat.le_refl _) _).alloc (by simp) _
  go_enter Try.func12, Try.ntmps12
  go_upto_region 1 with fail
  generalize ((w.alloc (.cells #[.int .i64 m, .int .i64 p, .bool true] 36)).alloc (.cells #[.int .i64 0, .int .i64 0, .bool false] 36)) = w2 at hX hY hb ⊢
  generalize hg2 : w.heap.size + 1 = g2 at hY ⊢
  generalize hg : w.heap.size = g at hX hb hg2 ⊢
  have hne : g ≠ g2 := by omega
  have hgle : g ≤ g2 := by omega
  have HG := Lib.hid hg
  clear hg hg2
  obtain ⟨_, _, _⟩ := hX.frees
  obtain ⟨_, _, _⟩ := hX.cells
  obtain ⟨_, _, _⟩ := hY.frees
  obtain ⟨_, _, _⟩ := hY.cells
  go_wp2_with fail
  refine (hu _).mono ?_
  rintro e w' ⟨rfl, rfl⟩
  go_upto_region 4 with fail
  go_quiet ((go_at_call 16; exact Calls.quiet_of_same (upTo_q 16777216 _ _)))
  have hb3 := below_drewN hb nq
  have hX3 : At3 36 (w2.drewN nq) g (.int .i64 m) (.int .i64 p) (.bool true) := hX
  have hY3 : At3 36 (w2.drewN nq) g2 (.int .i64 0) (.int .i64 0) (.bool false) := hY
  generalize w2.drewN nq = w3 at hb3 hX3 hY3 ⊢
  obtain ⟨_, _, _⟩ := hX3.frees
  obtain ⟨_, _, _⟩ := hX3.cells
  obtain ⟨_, _, _⟩ := hY3.frees
  obtain ⟨_, _, _⟩ := hY3.cells
  go_wp2_with fail
  refine (hz _).mono ?_
  rintro e w' ⟨rfl, rfl⟩
  go_wp2_with fail
  have hZ := at3_store hY3 (.int .i64 m) (.int .i64 (p - p / 4)) (.bool true)
  have hbz := hb3.trans ((store3_only w3 g2 (.int .i64 m) (.int .i64 (p - p / 4)) (.bool true)).below hgle)
  obtain ⟨d0, d1, d2⟩ := hZ.cells
  refine bodyPost_ret (v := .agg #[.int .i64 m, .int .i64 (p - p / 4), .bool true]) (by simp [results, Try.results12, go_sem, d0, d1, d2]) rfl ⟨rfl, by rw [HG.out]; exact hbz⟩
theorem tOut_any (m p : Int) (m0 : 0 ≤ m) (m1 : m ≤ 16777216) (p0 : 0 ≤ p) (p1 : p ≤ 16777216) (w : World) :
    Calls Try.prog 13 #[.agg #[.int .i64 m, .int .i64 p, .bool true]] w fun e w' => e = .returned (.int .i64 (max (m / 8 + p) 1)) ∧ Below w.heap.size w w' := by
  have hv := upM_in _ m m0 m1
  have hp := upM_in _ p p0 p1
  have hX := at3_new 36 w _ (.int .i64 m) (.int .i64 p) (.bool true) rfl
  have hb : Below w.heap.size w (w.alloc (.cells #[.int .i64 m, .int .i64 p, .bool true] 36)) := (Below.refl _ _).alloc (Nat.le_refl _) _
  obtain ⟨_, _, _⟩ := hX.cells
  go_enter Try.func13, Try.ntmps13
  go_upto_region 3 with fail
  go_quiet ((go_at_call 16; exact Calls.quiet_of_same (upTo_q 16777216 _ _)))
  go_wp2
  go_ret
  exact ⟨rfl, below_drewN hb nq⟩
theorem tOut0_any (w : World) :
    Calls Try.prog 13 #[.agg #[.int .i64 0, .int .i64 0, .bool false]] w fun e w' => e = .returned (.int .i64 100) ∧ Below w.heap.size w w' := by
  have hX := at3_new 36 w _ (.int .i64 0) (.int .i64 0) (.bool false) rfl
  have hb : Below w.heap.size w (w.alloc (.cells #[.int .i64 0, .int .i64 0, .bool false] 36)) := (Below.refl _ _).alloc (Nat.le_refl _) _
  obtain ⟨_, _, _⟩ := hX.cells
  go_enter Try.func13, Try.ntmps13
  go_wp2
  go_ret
  exact ⟨rfl, hb⟩
end Go.Proofs.Ytolbnbjbehdnaaa
