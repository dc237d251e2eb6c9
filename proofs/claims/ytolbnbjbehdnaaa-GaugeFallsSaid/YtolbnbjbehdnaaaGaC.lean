/- gauge: upTo, tick, size; Next, Value of a jitter. -/
import Derived.Test.YtolbnbjbehdnaaaGaB
import Derived.Deep.RegionHeld3
import Derived.Deep.QuietTactic
import Derived.BigQuiet
import Derived.Deep.DeepCutAuto
import Derived.Deep.CutBlock
import Derived.RegionTactic
import Derived.BigRegion
import Derived.Deep.RegionWith
namespace Go.Proofs.Ytolbnbjbehdnaaa
open Go.RowKit
set_option linter.unusedVariables false
theorem upTo_any (m n : Int) (w : World) : Calls Try.prog 16 #[.int .i64 m, .int .i64 n] w fun e w' => e = .returned (.int .i64 (upM m n)) ∧ w = w' := by
  unfold upM
  go_enter Try.func16, Try.ntmps16
  go_wp2
  go_ret
  exact ⟨rfl, rfl⟩
theorem tick_any (n : Int) (w : World) : Calls Try.prog 15 #[.int .i64 n] w fun e w' => e = .returned (.int .i64 (upM 1099511627776 n)) ∧ w = w' := by
  have h := fun W => upTo_any 1099511627776 n W
  generalize upM 1099511627776 n = r at h ⊢
  go_enter Try.func15, Try.ntmps15
  go_wp2_with fail
  refine (h _).mono ?_
  rintro e w' ⟨rfl, rfl⟩
  go_wp2
  go_ret
  exact ⟨rfl, rfl⟩
theorem upTo_q (m n : Int) (w : World) : Calls Try.prog 16 #[.int .i64 m, .int .i64 n] w fun e w' => e = .returned (.int .i64 (upM m n)) ∧ w' = w := (upTo_any m n w).mono fun _ _ ⟨h1, h2⟩ => ⟨h1, h2.symm⟩
theorem tick_q (n : Int) (w : World) : Calls Try.prog 15 #[.int .i64 n] w fun e w' => e = .returned (.int .i64 (upM 1099511627776 n)) ∧ w' = w := (tick_any n w).mono fun _ _ ⟨h1, h2⟩ => ⟨h1, h2.symm⟩
theorem size_any (n : Int) (h0 : -4611686018427387904 ≤ n) (h1 : n ≤ 4611686018427387904) (w : World) : Calls Try.prog 17 #[.int .i64 n] w fun e w' => e = .returned (.int .i64 (max n (-n))) ∧ w = w' := by
  have hw : IntKind.i64.wrap (-n) = -n := IntWalk.i64_in _ ⟨by omega, by omega⟩
  go_enter Try.func17, Try.ntmps17
  go_wp2
  go_ret
  exact ⟨rfl, rfl⟩
theorem clip_any (n a b : Int) (w : World) : Calls Try.prog 9 #[.int .i64 n, .int .i64 a, .int .i64 b] w fun e w' => e = .returned (.int .i64 (max a (min n b))) ∧ w = w' := by
  go_enter Try.func9, Try.ntmps9
  go_wp2
  go_ret
  exact ⟨rfl, rfl⟩
theorem clip_q (n a b : Int) (w : World) : Calls Try.prog 9 #[.int .i64 n, .int .i64 a, .int .i64 b] w fun e w' => e = .returned (.int .i64 (max a (min n b))) ∧ w' = w := (clip_any n a b w).mono fun _ _ ⟨h1, h2⟩ => ⟨h1, h2.symm⟩
theorem jValue_any (s t : Int) (h : Bool) (h0 : 0 ≤ s) (h1 : s ≤ 17592186044416) (w : World) : Calls Try.prog 8 #[.agg #[.int .i64 s, .int .i64 t, .bool h]] w fun e w' => e = .returned (.int .i64 (s / 16)) ∧ Below w.heap.size w w' := by
  have hb : Below w.heap.size w (w.alloc (.cells #[.int .i64 s, .int .i64 t, .bool h] 25)) := (Below.refl _ _).alloc (Nat.le_refl _) _
  have hX := at3_new 25 w _ (.int .i64 s) (.int .i64 t) (.bool h) rfl
  have hu := fun W => upTo_any 17592186044416 s W
  rw [upM_in _ s h0 h1] at hu
  obtain ⟨_, _, _⟩ := hX.cells
  go_enter Try.func8, Try.ntmps8
  go_wp2_with fail
  refine (hu _).mono ?_
  rintro e w' ⟨rfl, rfl⟩
  go_wp2
  go_ret
  exact ⟨rfl, hb⟩
theorem jNext0_any (s t sent came : Int) (h0 : 0 ≤ s) (h1 : s ≤ 17592186044416) (a0 : 0 ≤ sent) (a1 : sent ≤ 1099511627776) (b0 : 0 ≤ came) (b1 : came ≤ 1099511627776) (w : World) :
    Calls Try.prog 7 #[.agg #[.int .i64 s, .int .i64 t, .bool false], .int .i64 sent, .int .i64 came] w fun e w' => e = .returned (.agg #[.int .i64 s, .int .i64 (came - sent), .bool true]) ∧ Below w.heap.size w w' := by
  have hu := fun W => upTo_any 17592186044416 s W
  rw [upM_in _ s h0 h1] at hu
  have hs := fun W => tick_any sent W
  rw [upM_in _ sent a0 a1] at hs
  have hc := fun W => tick_any came W
  rw [upM_in _ came b0 b1] at hc
  have hX : At3 25 ((w.alloc (.cells #[.int .i64 s, .int .i64 t, .bool false] 25)).alloc (.cells #[.int .i64 0, .int .i64 0, .bool false] 25)) w.heap.size (.int .i64 s) (.int .i64 t) (.bool false) := (at3_new 25 w _ (.int .i64 s) (.int .i64 t) (.bool false) rfl).alloc _
  have hY : At3 25 ((w.alloc (.cells #[.int .i64 s, .int .i64 t, .bool false] 25)).alloc (.cells #[.int .i64 0, .int .i64 0, .bool false] 25)) (w.heap.size + 1) (.int .i64 0) (.int .i64 0) (.bool false) := at3_new 25 _ _ _ _ _ (by simp)
  have hb : Below w.heap.size w ((w.alloc (.cells #[.int .i64 s, .int .i64 t, .bool false] 25)).alloc (.cells #[.int .i64 0, .int .i64 0, .bool false] 25)) := ((Below.refl _ _).alloc (Nat.le_refl _) _).alloc (by simp) _
  go_enter Try.func7, Try.ntmps7
  go_upto_region 1 with fail
  generalize ((w.alloc (.cells #[.int .i64 s, .int .i64 t, .bool false] 25)).alloc (.cells #[.int .i64 0, .int .i64 0, .bool false] 25)) = w2 at hX hY hb ⊢
  generalize hg2 : w.heap.size + 1 = g2 at hY ⊢
  generalize hg : w.heap.size = g at hX hb hg2 ⊢
  have hne : g ≠ g2 := by omega
  have hgle : g ≤ g2 := by omega
  have HG := Lib.hid hg
  clear hg hg2
  obtain ⟨_, _, _⟩ := hX.frees
  obtain ⟨_, _, _⟩ := hX.cells
  obtain ⟨_, _, _⟩ := hY.frees
  obtain ⟨_, _, _⟩ := hY.cells
  go_wp2_with fail
  refine (hc _).mono ?_
  rintro e w' ⟨rfl, rfl⟩
  go_wp2_with fail
  refine (hs _).mono ?_
  rintro e w' ⟨rfl, rfl⟩
  go_wp2_with fail
  refine (hu _).mono ?_
  rintro e w' ⟨rfl, rfl⟩
  go_wp2_with fail
  have hZ := at3_store hY (.int .i64 s) (.int .i64 (came - sent)) (.bool true)
  have hbz := hb.trans ((store3_only w2 g2 (.int .i64 s) (.int .i64 (came - sent)) (.bool true)).below hgle)
  obtain ⟨d0, d1, d2⟩ := hZ.cells
  refine bodyPost_ret (v := .agg #[.int .i64 s, .int .i64 (came - sent), .bool true]) (by simp [results, Try.results7, go_sem, d0, d1, d2]) rfl ⟨rfl, by rw [HG.out]; exact hbz⟩
theorem jNext1_any (s t sent came : Int) (h0 : 0 ≤ s) (h1 : s ≤ 17592186044416) (t0 : -1099511627776 ≤ t) (t1 : t ≤ 1099511627776) (a0 : 0 ≤ sent) (a1 : sent ≤ 1099511627776) (b0 : 0 ≤ came) (b1 : came ≤ 1099511627776) (w : World) :
    Calls Try.prog 7 #[.agg #[.int .i64 s, .int .i64 t, .bool true], .int .i64 sent, .int .i64 came] w fun e w' => e = .returned (.agg #[.int .i64 (jst s (max (came - sent - t) (-(came - sent - t)))), .int .i64 (came - sent), .bool true]) ∧ Below w.heap.size w w' := by
  have hu := fun W => upTo_any 17592186044416 s W
  rw [upM_in _ s h0 h1] at hu
  have hs := fun W => tick_any sent W
  rw [upM_in _ sent a0 a1] at hs
  have hc := fun W => tick_any came W
  rw [upM_in _ came b0 b1] at hc
  have hz := Lib.hid (fun W => size_any (came - sent - t) (by omega) (by omega) W)
  have hm : min (max t (-1099511627776)) 1099511627776 = t := by omega
  have z0 : 0 ≤ max (came - sent - t) (-(came - sent - t)) := by omega
  have z1 : max (came - sent - t) (-(came - sent - t)) ≤ 4398046511104 := by omega
  have HE := Lib.hid (show ∀ d, jst s d = s + (d - (s + 8) / 16) from fun d => by unfold jst; omega)
  rw [HE.out]
  generalize max (came - sent - t) (-(came - sent - t)) = z at hz z0 z1 ⊢
  have hX : At3 25 ((w.alloc (.cells #[.int .i64 s, .int .i64 t, .bool true] 25)).alloc (.cells #[.int .i64 0, .int .i64 0, .bool false] 25)) w.heap.size (.int .i64 s) (.int .i64 t) (.bool true) := (at3_new 25 w _ (.int .i64 s) (.int .i64 t) (.bool true) rfl).alloc _
  have hY : At3 25 ((w.alloc (.cells #[.int .i64 s, .int .i64 t, .bool true] 25)).alloc (.cells #[.int .i64 0, .int .i64 0, .bool false] 25)) (w.heap.size + 1) (.int .i64 0) (.int .i64 0) (.bool false) := at3_new 25 _ _ _ _ _ (by simp)
  have hb : Below w.heap.size w ((w.alloc (.cells #[.int .i64 s, .int .i64 t, .bool true] 25)).alloc (.cells #[.int .i64 0, .int .i64 0, .bool false] 25)) := ((Below.refl _ _).alloc (Nat.le_refl _) _).alloc (by simp) _
  go_enter Try.func7, Try.ntmps7
  go_upto_region 1 with fail
  generalize ((w.alloc (.cells #[.int .i64 s, .int .i64 t, .bool true] 25)).alloc (.cells #[.int .i64 0, .int .i64 0, .bool false] 25)) = w2 at hX hY hb ⊢
  generalize hg2 : w.heap.size + 1 = g2 at hY ⊢
  generalize hg : w.heap.size = g at hX hb hg2 ⊢
  have hne : g ≠ g2 := by omega
  have hgle : g ≤ g2 := by omega
  have HG := Lib.hid hg
  clear hg hg2
  obtain ⟨_, _, _⟩ := hX.frees
  obtain ⟨_, _, _⟩ := hX.cells
  obtain ⟨_, _, _⟩ := hY.frees
  obtain ⟨_, _, _⟩ := hY.cells
  go_wp2_with fail
  refine (hc _).mono ?_
  rintro e w' ⟨rfl, rfl⟩
  go_wp2_with fail
  refine (hs _).mono ?_
  rintro e w' ⟨rfl, rfl⟩
  go_wp2_with fail
  refine (hu _).mono ?_
  rintro e w' ⟨rfl, rfl⟩
  go_wp2_with fail
  refine (hz.out _).mono ?_
  rintro e w' ⟨rfl, rfl⟩
  go_wp2_with fail
  have hZ := at3_store hY (.int .i64 (s + (z - (s + 8) / 16))) (.int .i64 (came - sent)) (.bool true)
  have hbz := hb.trans ((store3_only w2 g2 (.int .i64 (s + (z - (s + 8) / 16))) (.int .i64 (came - sent)) (.bool true)).below hgle)
  obtain ⟨d0, d1, d2⟩ := hZ.cells
  refine bodyPost_ret (v := .agg #[.int .i64 (s + (z - (s + 8) / 16)), .int .i64 (came - sent), .bool true]) (by simp [results, Try.results7, go_sem, d0, d1, d2]) rfl ⟨rfl, by rw [HG.out]; exact hbz⟩
end Go.Proofs.Ytolbnbjbehdnaaa
