/- pace: among, tick, counted; the document's Fit. -/
import Derived.Test.YtgmggilnhkdceaaLfB
import Derived.Test.YtgmggilnhkdceaaPaM
import Derived.Deep.RegionHeld3
import Derived.Deep.QuietTactic
import Derived.BigQuiet
import Derived.Deep.DeepCutAuto
import Derived.Deep.CutBlock
import Derived.RegionTactic
import Derived.BigRegion
import Derived.Deep.RegionWith
namespace Go.Proofs.Ytgmggilnhkdceaa
open Go.RowKit
set_option linter.unusedVariables false
theorem at4p_set0 {T : TypeId} {W : World} {g : Nat} {c0 c1 c2 c3 : Value} (h : At4 T W g c0 c1 c2 c3) (u : Value) : At4 T (W.setCell ⟨g, 0, none⟩ u) g u c1 c2 c3 := block_setCell h
theorem at4p_set1 {T : TypeId} {W : World} {g : Nat} {c0 c1 c2 c3 : Value} (h : At4 T W g c0 c1 c2 c3) (u : Value) : At4 T (W.setCell ⟨g, 1, none⟩ u) g c0 u c2 c3 := block_setCell h
theorem at4p_set2 {T : TypeId} {W : World} {g : Nat} {c0 c1 c2 c3 : Value} (h : At4 T W g c0 c1 c2 c3) (u : Value) : At4 T (W.setCell ⟨g, 2, none⟩ u) g c0 c1 u c3 := block_setCell h
theorem at4p_set3 {T : TypeId} {W : World} {g : Nat} {c0 c1 c2 c3 : Value} (h : At4 T W g c0 c1 c2 c3) (u : Value) : At4 T (W.setCell ⟨g, 3, none⟩ u) g c0 c1 c2 u := block_setCell h
def PP.val (p : PP) : Value := .agg #[.int .i64 p.r, .int .i64 p.b, .int .i64 p.k, .int .i64 p.l]
theorem PP.fit_am (r b k l : Int) : PP.fit ⟨r, b, k, l⟩ = ⟨am 1 r 65535, am 1 b 1048576, am 0 k (am 1 b 1048576), am 0 l 1099511627776⟩ := by
  simp only [PP.fit, am, PP.mk.injEq]
  refine ⟨?_, ?_, ?_, ?_⟩ <;> omega
theorem paAmong_q (a n b : Int) (w : World) : Calls Try.prog 61 #[.int .i64 a, .int .i64 n, .int .i64 b] w fun e w' => e = .returned (.int .i64 (am a n b)) ∧ w' = w := by
  go_enter Try.func61, Try.ntmps61
  go_wp2
  go_ret
  exact ⟨rfl, rfl⟩
theorem paTick_q (n : Int) (w : World) : Calls Try.prog 60 #[.int .i64 n] w fun e w' => e = .returned (.int .i64 (am 0 n 1099511627776)) ∧ w' = w := by
  go_enter Try.func60, Try.ntmps60
  go_wp2_with fail
  refine (paAmong_q _ _ _ _).mono ?_
  rintro e w' ⟨rfl, rfl⟩
  go_wp2
  go_ret
  exact ⟨rfl, rfl⟩
theorem cntS {T : TypeId} {W : World} {g : Nat} {c0 c1 c2 c3 : Value} (h : At4 T W g c0 c1 c2 c3) : W.cell? ⟨g, 0, none⟩ = some c0 ∧ W.cell? ⟨g, 2, none⟩ = some c2 ∧ W.cell? ⟨g, 3, none⟩ = some c3 := ⟨h.cells.1, h.cells.2.2.1, h.cells.2.2.2⟩
set_option maxHeartbeats 1600000 in
theorem paCnt_any (p : PP) (w : World) : Calls Try.prog 59 #[p.val] w fun e w' => e = .returned p.fit.val ∧ Below w.heap.size w w' := by
  obtain ⟨r, b, k, l⟩ := p
  rw [PP.fit_am]
  simp only [PP.val]
  have hX0 : At4 49 ((w.alloc (.cells #[.int .i64 r, .int .i64 b, .int .i64 k, .int .i64 l] 49)).alloc (.cells #[.int .i64 0, .int .i64 0, .int .i64 0, .int .i64 0] 49)) w.heap.size (.int .i64 r) (.int .i64 b) (.int .i64 k) (.int .i64 l) := (at4_new 49 _ _ (.int .i64 r) (.int .i64 b) (.int .i64 k) (.int .i64 l) rfl).alloc _
  have hX1 : At4 49 ((w.alloc (.cells #[.int .i64 r, .int .i64 b, .int .i64 k, .int .i64 l] 49)).alloc (.cells #[.int .i64 0, .int .i64 0, .int .i64 0, .int .i64 0] 49)) (w.heap.size + 1) (.int .i64 0) (.int .i64 0) (.int .i64 0) (.int .i64 0) := at4_new 49 _ _ (.int .i64 0) (.int .i64 0) (.int .i64 0) (.int .i64 0) (by simp)
  have hb : Below w.heap.size w ((w.alloc (.cells #[.int .i64 r, .int .i64 b, .int .i64 k, .int .i64 l] 49)).alloc (.cells #[.int .i64 0, .int .i64 0, .int .i64 0, .int .i64 0] 49)) := ((Below.refl _ _).alloc (Nat.le_refl _) _).alloc (by simp) _
  go_enter Try.func59, Try.ntmps59
  go_upto_region 1 with fail
  generalize ((w.alloc (.cells #[.int .i64 r, .int .i64 b, .int .i64 k, .int .i64 l] 49)).alloc (.cells #[.int .i64 0, .int .i64 0, .int .i64 0, .int .i64 0] 49)) = w2 at hX0 hX1 hb ⊢
  generalize hg1 : w.heap.size + 1 = g1 at hX1 ⊢
  generalize hg0 : w.heap.size = g0 at hX0 hb hg1 ⊢
  have hne01 : g0 ≠ g1 := by omega
  have hle1 : g0 ≤ g1 := by omega
  have hne10 : g1 ≠ g0 := by omega
  have HG := Lib.hid hg0
  clear hg0 hg1
  obtain ⟨_, _, _, _⟩ := hX0.frees
  obtain ⟨_, _, _, _⟩ := hX0.cells
  obtain ⟨_, _, _, _⟩ := hX1.frees
  obtain ⟨_, _, _, _⟩ := hX1.cells
  go_wp2_with fail
  refine (paAmong_q _ _ _ _).mono ?_
  rintro e w3 ⟨rfl, hk3⟩
  subst hk3
  go_upto_region 2 with fail
  go_region_held3 (fun W => W.cell? ⟨g0, 0, none⟩ = some (.int .i64 r) ∧ W.cell? ⟨g0, 2, none⟩ = some (.int .i64 k) ∧ W.cell? ⟨g0, 3, none⟩ = some (.int .i64 l)) (first | (go_keep; done) | with_reducible exact cntS hX0.drew | with_reducible exact cntS (At4.only hX0.drew hne01 (put4_only _ _ _ _ _ _))) (first | (go_at_call 61; refine (paAmong_q _ _ _ _).mono ?_; rintro e w' ⟨rfl, rfl⟩) | (go_at_call 60; refine (paTick_q _ _).mono ?_; rintro e w' ⟨rfl, rfl⟩))
  all_goals
    have hZ := at4_put hX1 (.int .i64 (am 1 r 65535)) (.int .i64 (am 1 b 1048576)) (.int .i64 (am 0 k (am 1 b 1048576))) (.int .i64 (am 0 l 1099511627776))
    have hbz := hb.trans ((put4_only w3 g1 (.int .i64 (am 1 r 65535)) (.int .i64 (am 1 b 1048576)) (.int .i64 (am 0 k (am 1 b 1048576))) (.int .i64 (am 0 l 1099511627776))).below hle1)
    obtain ⟨d0, d1, d2, d3⟩ := hZ.cells
    go_wp2_with fail
    refine bodyPost_ret (v := .agg #[.int .i64 (am 1 r 65535), .int .i64 (am 1 b 1048576), .int .i64 (am 0 k (am 1 b 1048576)), .int .i64 (am 0 l 1099511627776)]) (by simp [results, Try.results59, go_sem, d0, d1, d2, d3]) rfl ⟨rfl, by rw [HG.out]; exact hbz.drew⟩
set_option maxHeartbeats 1600000 in
theorem refFit_any (p : PP) (w : World) : Calls Try.prog 31 #[p.val] w fun e w' => e = .returned p.fit.val ∧ Below w.heap.size w w' := by
  obtain ⟨r, b, k, l⟩ := p
  simp only [PP.val, PP.fit]
  generalize hB : max 1 (min b 1048576) = B
  have hX0 : At4 47 ((w.alloc (.cells #[.int .i64 r, .int .i64 b, .int .i64 k, .int .i64 l] 47)).alloc (.cells #[.int .i64 0, .int .i64 0, .int .i64 0, .int .i64 0] 47)) w.heap.size (.int .i64 r) (.int .i64 b) (.int .i64 k) (.int .i64 l) := (at4_new 47 _ _ (.int .i64 r) (.int .i64 b) (.int .i64 k) (.int .i64 l) rfl).alloc _
  have hX1 : At4 47 ((w.alloc (.cells #[.int .i64 r, .int .i64 b, .int .i64 k, .int .i64 l] 47)).alloc (.cells #[.int .i64 0, .int .i64 0, .int .i64 0, .int .i64 0] 47)) (w.heap.size + 1) (.int .i64 0) (.int .i64 0) (.int .i64 0) (.int .i64 0) := at4_new 47 _ _ (.int .i64 0) (.int .i64 0) (.int .i64 0) (.int .i64 0) (by simp)
  have hb : Below w.heap.size w ((w.alloc (.cells #[.int .i64 r, .int .i64 b, .int .i64 k, .int .i64 l] 47)).alloc (.cells #[.int .i64 0, .int .i64 0, .int .i64 0, .int .i64 0] 47)) := ((Below.refl _ _).alloc (Nat.le_refl _) _).alloc (by simp) _
  go_enter Try.func31, Try.ntmps31
  go_upto_region 1 with fail
  generalize ((w.alloc (.cells #[.int .i64 r, .int .i64 b, .int .i64 k, .int .i64 l] 47)).alloc (.cells #[.int .i64 0, .int .i64 0, .int .i64 0, .int .i64 0] 47)) = w2 at hX0 hX1 hb ⊢
  generalize hg1 : w.heap.size + 1 = g1 at hX1 ⊢
  generalize hg0 : w.heap.size = g0 at hX0 hb hg1 ⊢
  have hne01 : g0 ≠ g1 := by omega
  have hle1 : g0 ≤ g1 := by omega
  have hne10 : g1 ≠ g0 := by omega
  have HG := Lib.hid hg0
  clear hg0 hg1
  obtain ⟨_, _, _, _⟩ := hX0.frees
  obtain ⟨_, _, _, _⟩ := hX0.cells
  obtain ⟨_, _, _, _⟩ := hX1.frees
  obtain ⟨_, _, _, _⟩ := hX1.cells
  go_upto_region 2 with fail
  have hZ := at4_put hX1 (.int .i64 (max 1 (min r 65535))) (.int .i64 B) (.int .i64 (max 0 (min k B))) (.int .i64 (max 0 (min l 1099511627776)))
  have hbz := hb.trans ((put4_only w2 g1 (.int .i64 (max 1 (min r 65535))) (.int .i64 B) (.int .i64 (max 0 (min k B))) (.int .i64 (max 0 (min l 1099511627776)))).below hle1)
  obtain ⟨d0, d1, d2, d3⟩ := hZ.cells
  go_wp2_with fail
  refine bodyPost_ret (v := .agg #[.int .i64 (max 1 (min r 65535)), .int .i64 B, .int .i64 (max 0 (min k B)), .int .i64 (max 0 (min l 1099511627776))]) (by simp [results, Try.results31, go_sem, d0, d1, d2, d3]) rfl ⟨rfl, by rw [HG.out]; exact hbz⟩
end Go.Proofs.Ytgmggilnhkdceaa
