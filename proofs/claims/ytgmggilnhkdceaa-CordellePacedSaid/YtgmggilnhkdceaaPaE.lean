/- pace: Take, When, Change, New; the document's Take. -/
import Derived.Test.YtgmggilnhkdceaaPaD
namespace Go.Proofs.Ytgmggilnhkdceaa
open Go.RowKit
set_option linter.unusedVariables false
set_option maxHeartbeats 1600000 in
theorem paTakeYes (p : PP) (now n : Int) (h : p.can now n) (w : World) : Calls Try.prog 27 #[p.val, .int .i64 now, .int .i64 n] w fun e w' => e = .returned (.tuple #[(p.take now n).val, .bool true]) ∧ Below w.heap.size w w' := by
  have HA := Lib.hid (fun W => paAt_any p now W)
  have hok := p.at_ok now
  rw [p.take_yes now n h]
  have hc : (n ≤ (p.at now).k) := h
  clear h
  generalize p.at now = q at HA hok hc ⊢
  obtain ⟨r, b, k, l⟩ := p
  obtain ⟨r2, b2, k2, l2⟩ := q
  simp only [PP.val] at HA hc ⊢
  have o0 := hok.k0
  have o1 := hok.k1
  have o2 := hok.b1
  simp only at o0 o1 o2
  clear hok
  obtain ⟨n1, hn1⟩ : ∃ z, max 0 n = z := ⟨_, rfl⟩
  have hn2 : max n 0 = n1 := by omega
  have hc1 : ¬(k2 < n1) := by omega
  rw [hn1]
  have hw : IntKind.i64.wrap (k2 - n1) = k2 - n1 := IntWalk.i64_in _ ⟨by omega, by omega⟩
  have hn3 : n1 ≤ k2 := by omega
  clear hc hn1 o0 o1 o2
  have hX0 : At4 49 ((w.alloc (.cells #[.int .i64 r, .int .i64 b, .int .i64 k, .int .i64 l] 49)).alloc (.cells #[.int .i64 0, .int .i64 0, .int .i64 0, .int .i64 0] 49)) w.heap.size (.int .i64 r) (.int .i64 b) (.int .i64 k) (.int .i64 l) := (at4_new 49 _ _ (.int .i64 r) (.int .i64 b) (.int .i64 k) (.int .i64 l) rfl).alloc _
  have hX1 : At4 49 ((w.alloc (.cells #[.int .i64 r, .int .i64 b, .int .i64 k, .int .i64 l] 49)).alloc (.cells #[.int .i64 0, .int .i64 0, .int .i64 0, .int .i64 0] 49)) (w.heap.size + 1) (.int .i64 0) (.int .i64 0) (.int .i64 0) (.int .i64 0) := at4_new 49 _ _ (.int .i64 0) (.int .i64 0) (.int .i64 0) (.int .i64 0) (by simp)
  have hb : Below w.heap.size w ((w.alloc (.cells #[.int .i64 r, .int .i64 b, .int .i64 k, .int .i64 l] 49)).alloc (.cells #[.int .i64 0, .int .i64 0, .int .i64 0, .int .i64 0] 49)) := ((Below.refl _ _).alloc (Nat.le_refl _) _).alloc (by simp) _
  go_enter Try.func27, Try.ntmps27
  go_upto_region 1 with fail
  generalize ((w.alloc (.cells #[.int .i64 r, .int .i64 b, .int .i64 k, .int .i64 l] 49)).alloc (.cells #[.int .i64 0, .int .i64 0, .int .i64 0, .int .i64 0] 49)) = w2 at hX0 hX1 hb ⊢
  generalize hg1 : w.heap.size + 1 = g1 at hX1 ⊢
  generalize hg0 : w.heap.size = g0 at hX0 hb hg1 ⊢
  have hne01 : g0 ≠ g1 := by omega
  have hle1 : g0 ≤ g1 := by omega
  have hne10 : g1 ≠ g0 := by omega
  have HG := Lib.hid hg0
  clear hg0 hg1
  obtain ⟨_, _, _, _⟩ := hX0.frees
  obtain ⟨_, _, _, _⟩ := hX0.cells
  obtain ⟨_, _, _, _⟩ := hX1.frees
  obtain ⟨_, _, _, _⟩ := hX1.cells
  go_wp2_with fail
  refine (HA.out _).mono ?_
  rintro e w3 ⟨rfl, hk3⟩
  have hX0_3 := hX0.later hk3
  have hX1_3 := hX1.later hk3
  have hb3 := hb.trans (hk3.mono (by have := hX0.lt; omega))
  obtain ⟨_, _, _, _⟩ := hX0_3.frees
  obtain ⟨_, _, _, _⟩ := hX0_3.cells
  obtain ⟨_, _, _, _⟩ := hX1_3.frees
  obtain ⟨_, _, _, _⟩ := hX1_3.cells
  go_upto_region 2 with fail
  have hX0_4 := at4_put hX0_3 (.int .i64 r2) (.int .i64 b2) (.int .i64 k2) (.int .i64 l2)
  have ho4 := put4_only w3 g0 (.int .i64 r2) (.int .i64 b2) (.int .i64 k2) (.int .i64 l2)
  have hX1_4 := hX1_3.only hne10 ho4
  have hb4 := hb3.trans (ho4.below (Nat.le_refl _))
  generalize ((((w3.setCell ⟨g0, 0, none⟩ (.int .i64 r2)).setCell ⟨g0, 1, none⟩ (.int .i64 b2)).setCell ⟨g0, 2, none⟩ (.int .i64 k2)).setCell ⟨g0, 3, none⟩ (.int .i64 l2)) = w4 at hX0_4 hX1_4 hb4 ⊢
  clear ho4
  obtain ⟨_, _, _, _⟩ := hX0_4.frees
  obtain ⟨_, _, _, _⟩ := hX0_4.cells
  obtain ⟨_, _, _, _⟩ := hX1_4.frees
  obtain ⟨_, _, _, _⟩ := hX1_4.cells
  go_upto_region 4 with fail
  go_upto_region 5 with fail
  have hX0_5 := (at4p_set2 hX0_4 (.int .i64 (k2 - n1)))
  have ho5 := ((Only.refl g0 w4).setCell 2 (.int .i64 (k2 - n1)))
  have hX1_5 := hX1_4.only hne10 ho5
  have hb5 := hb4.trans (ho5.below (Nat.le_refl _))
  generalize (w4.setCell ⟨g0, 2, none⟩ (.int .i64 (k2 - n1))) = w5 at hX0_5 hX1_5 hb5 ⊢
  clear ho5
  obtain ⟨_, _, _, _⟩ := hX0_5.frees
  obtain ⟨_, _, _, _⟩ := hX0_5.cells
  obtain ⟨_, _, _, _⟩ := hX1_5.frees
  obtain ⟨_, _, _, _⟩ := hX1_5.cells
  have hZ := at4_put hX1_5 (.int .i64 r2) (.int .i64 b2) (.int .i64 (k2 - n1)) (.int .i64 l2)
  have hbz := hb5.trans ((put4_only w5 g1 (.int .i64 r2) (.int .i64 b2) (.int .i64 (k2 - n1)) (.int .i64 l2)).below hle1)
  obtain ⟨d0, d1, d2, d3⟩ := hZ.cells
  go_wp2_with fail
  refine bodyPost_ret (v := .tuple #[.agg #[.int .i64 r2, .int .i64 b2, .int .i64 (k2 - n1), .int .i64 l2], .bool true]) (by simp [results, Try.results27, go_sem, d0, d1, d2, d3]) rfl ⟨rfl, by rw [HG.out]; exact hbz⟩
set_option maxHeartbeats 1600000 in
theorem refPaTakeYes (p : PP) (now n : Int) (h : p.can now n) (w : World) : Calls Try.prog 28 #[p.val, .int .i64 now, .int .i64 n] w fun e w' => e = .returned (.tuple #[(p.take now n).val, .bool true]) ∧ Below w.heap.size w w' := by
  have HA := Lib.hid (fun W => refPaAt_any p now W)
  have hok := p.at_ok now
  rw [p.take_yes now n h]
  have hc : (n ≤ (p.at now).k) := h
  clear h
  generalize p.at now = q at HA hok hc ⊢
  obtain ⟨r, b, k, l⟩ := p
  obtain ⟨r2, b2, k2, l2⟩ := q
  simp only [PP.val] at HA hc ⊢
  have o0 := hok.k0
  have o1 := hok.k1
  have o2 := hok.b1
  simp only at o0 o1 o2
  clear hok
  obtain ⟨n1, hn1⟩ : ∃ z, max 0 n = z := ⟨_, rfl⟩
  rw [hn1]
  have hw : IntKind.i64.wrap (k2 - n1) = k2 - n1 := IntWalk.i64_in _ ⟨by omega, by omega⟩
  clear o0 o1 o2
  have hX0 : At4 47 ((w.alloc (.cells #[.int .i64 r, .int .i64 b, .int .i64 k, .int .i64 l] 47)).alloc (.cells #[.int .i64 0, .int .i64 0, .int .i64 0, .int .i64 0] 47)) w.heap.size (.int .i64 r) (.int .i64 b) (.int .i64 k) (.int .i64 l) := (at4_new 47 _ _ (.int .i64 r) (.int .i64 b) (.int .i64 k) (.int .i64 l) rfl).alloc _
  have hX1 : At4 47 ((w.alloc (.cells #[.int .i64 r, .int .i64 b, .int .i64 k, .int .i64 l] 47)).alloc (.cells #[.int .i64 0, .int .i64 0, .int .i64 0, .int .i64 0] 47)) (w.heap.size + 1) (.int .i64 0) (.int .i64 0) (.int .i64 0) (.int .i64 0) := at4_new 47 _ _ (.int .i64 0) (.int .i64 0) (.int .i64 0) (.int .i64 0) (by simp)
  have hb : Below w.heap.size w ((w.alloc (.cells #[.int .i64 r, .int .i64 b, .int .i64 k, .int .i64 l] 47)).alloc (.cells #[.int .i64 0, .int .i64 0, .int .i64 0, .int .i64 0] 47)) := ((Below.refl _ _).alloc (Nat.le_refl _) _).alloc (by simp) _
  go_enter Try.func28, Try.ntmps28
  go_upto_region 1 with fail
  generalize ((w.alloc (.cells #[.int .i64 r, .int .i64 b, .int .i64 k, .int .i64 l] 47)).alloc (.cells #[.int .i64 0, .int .i64 0, .int .i64 0, .int .i64 0] 47)) = w2 at hX0 hX1 hb ⊢
  generalize hg1 : w.heap.size + 1 = g1 at hX1 ⊢
  generalize hg0 : w.heap.size = g0 at hX0 hb hg1 ⊢
  have hne01 : g0 ≠ g1 := by omega
  have hle1 : g0 ≤ g1 := by omega
  have hne10 : g1 ≠ g0 := by omega
  have HG := Lib.hid hg0
  clear hg0 hg1
  obtain ⟨_, _, _, _⟩ := hX0.frees
  obtain ⟨_, _, _, _⟩ := hX0.cells
  obtain ⟨_, _, _, _⟩ := hX1.frees
  obtain ⟨_, _, _, _⟩ := hX1.cells
  go_wp2_with fail
  refine (HA.out _).mono ?_
  rintro e w3 ⟨rfl, hk3⟩
  have hX0_3 := hX0.later hk3
  have hX1_3 := hX1.later hk3
  have hb3 := hb.trans (hk3.mono (by have := hX0.lt; omega))
  obtain ⟨_, _, _, _⟩ := hX0_3.frees
  obtain ⟨_, _, _, _⟩ := hX0_3.cells
  obtain ⟨_, _, _, _⟩ := hX1_3.frees
  obtain ⟨_, _, _, _⟩ := hX1_3.cells
  have hX0_4 := hX0_3.alloc (.cells #[.int .i64 r2, .int .i64 b2, .int .i64 k2, .int .i64 l2] 47)
  have hX1_4 := hX1_3.alloc (.cells #[.int .i64 r2, .int .i64 b2, .int .i64 k2, .int .i64 l2] 47)
  have hb4 := hb3.alloc (by have := hX0_3.lt; omega) (.cells #[.int .i64 r2, .int .i64 b2, .int .i64 k2, .int .i64 l2] 47)
  have hX2_4 := at4_new 47 w3 _ (.int .i64 r2) (.int .i64 b2) (.int .i64 k2) (.int .i64 l2) rfl
  have lt0_4 := hX0_3.lt
  have lt1_4 := hX1_3.lt
  go_upto_region 2 with fail
  generalize (w3.alloc (.cells #[.int .i64 r2, .int .i64 b2, .int .i64 k2, .int .i64 l2] 47)) = w4 at hX0_4 hX1_4 hX2_4 hb4 ⊢
  generalize w3.heap.size = g2 at hX2_4 lt0_4 lt1_4 ⊢
  have hne20 : g2 ≠ g0 := by omega
  have hne02 : g0 ≠ g2 := by omega
  have hne21 : g2 ≠ g1 := by omega
  have hne12 : g1 ≠ g2 := by omega
  have hle2 : g0 ≤ g2 := by omega
  clear lt0_4 lt1_4
  obtain ⟨_, _, _, _⟩ := hX0_4.frees
  obtain ⟨_, _, _, _⟩ := hX0_4.cells
  obtain ⟨_, _, _, _⟩ := hX1_4.frees
  obtain ⟨_, _, _, _⟩ := hX1_4.cells
  obtain ⟨_, _, _, _⟩ := hX2_4.frees
  obtain ⟨_, _, _, _⟩ := hX2_4.cells
  go_upto_region 4 with fail
  go_upto_region 5 with fail
  have hX2_5 := (at4p_set2 hX2_4 (.int .i64 (k2 - n1)))
  have ho5 := ((Only.refl g2 w4).setCell 2 (.int .i64 (k2 - n1)))
  have hX0_5 := hX0_4.only hne02 ho5
  have hX1_5 := hX1_4.only hne12 ho5
  have hb5 := hb4.trans (ho5.below hle2)
  generalize (w4.setCell ⟨g2, 2, none⟩ (.int .i64 (k2 - n1))) = w5 at hX0_5 hX1_5 hX2_5 hb5 ⊢
  clear ho5
  obtain ⟨_, _, _, _⟩ := hX0_5.frees
  obtain ⟨_, _, _, _⟩ := hX0_5.cells
  obtain ⟨_, _, _, _⟩ := hX1_5.frees
  obtain ⟨_, _, _, _⟩ := hX1_5.cells
  obtain ⟨_, _, _, _⟩ := hX2_5.frees
  obtain ⟨_, _, _, _⟩ := hX2_5.cells
  have hZ := at4_put hX1_5 (.int .i64 r2) (.int .i64 b2) (.int .i64 (k2 - n1)) (.int .i64 l2)
  have hbz := hb5.trans ((put4_only w5 g1 (.int .i64 r2) (.int .i64 b2) (.int .i64 (k2 - n1)) (.int .i64 l2)).below hle1)
  obtain ⟨d0, d1, d2, d3⟩ := hZ.cells
  go_wp2_with fail
  refine bodyPost_ret (v := .tuple #[.agg #[.int .i64 r2, .int .i64 b2, .int .i64 (k2 - n1), .int .i64 l2], .bool true]) (by simp [results, Try.results28, go_sem, d0, d1, d2, d3]) rfl ⟨rfl, by rw [HG.out]; exact hbz⟩
set_option maxHeartbeats 1600000 in
theorem paTakeNo (p : PP) (now n : Int) (h : ¬p.can now n) (w : World) : Calls Try.prog 27 #[p.val, .int .i64 now, .int .i64 n] w fun e w' => e = .returned (.tuple #[(p.take now n).val, .bool false]) ∧ Below w.heap.size w w' := by
  have HA := Lib.hid (fun W => paAt_any p now W)
  have hok := p.at_ok now
  rw [p.take_no now n h]
  have hc : ¬(n ≤ (p.at now).k) := h
  clear h
  generalize p.at now = q at HA hok hc ⊢
  obtain ⟨r, b, k, l⟩ := p
  obtain ⟨r2, b2, k2, l2⟩ := q
  simp only [PP.val] at HA hc ⊢
  have o0 := hok.k0
  have o1 := hok.k1
  have o2 := hok.b1
  simp only at o0 o1 o2
  clear hok
  obtain ⟨n1, hn1⟩ : ∃ z, max 0 n = z := ⟨_, rfl⟩
  have hn2 : max n 0 = n1 := by omega
  have hc1 : (k2 < n1) := by omega
  have hn3 := hc1
  clear hc hn1 o0 o1 o2
  have hX0 : At4 49 ((w.alloc (.cells #[.int .i64 r, .int .i64 b, .int .i64 k, .int .i64 l] 49)).alloc (.cells #[.int .i64 0, .int .i64 0, .int .i64 0, .int .i64 0] 49)) w.heap.size (.int .i64 r) (.int .i64 b) (.int .i64 k) (.int .i64 l) := (at4_new 49 _ _ (.int .i64 r) (.int .i64 b) (.int .i64 k) (.int .i64 l) rfl).alloc _
  have hX1 : At4 49 ((w.alloc (.cells #[.int .i64 r, .int .i64 b, .int .i64 k, .int .i64 l] 49)).alloc (.cells #[.int .i64 0, .int .i64 0, .int .i64 0, .int .i64 0] 49)) (w.heap.size + 1) (.int .i64 0) (.int .i64 0) (.int .i64 0) (.int .i64 0) := at4_new 49 _ _ (.int .i64 0) (.int .i64 0) (.int .i64 0) (.int .i64 0) (by simp)
  have hb : Below w.heap.size w ((w.alloc (.cells #[.int .i64 r, .int .i64 b, .int .i64 k, .int .i64 l] 49)).alloc (.cells #[.int .i64 0, .int .i64 0, .int .i64 0, .int .i64 0] 49)) := ((Below.refl _ _).alloc (Nat.le_refl _) _).alloc (by simp) _
  go_enter Try.func27, Try.ntmps27
  go_upto_region 1 with fail
  generalize ((w.alloc (.cells #[.int .i64 r, .int .i64 b, .int .i64 k, .int .i64 l] 49)).alloc (.cells #[.int .i64 0, .int .i64 0, .int .i64 0, .int .i64 0] 49)) = w2 at hX0 hX1 hb ⊢
  generalize hg1 : w.heap.size + 1 = g1 at hX1 ⊢
  generalize hg0 : w.heap.size = g0 at hX0 hb hg1 ⊢
  have hne01 : g0 ≠ g1 := by omega
  have hle1 : g0 ≤ g1 := by omega
  have hne10 : g1 ≠ g0 := by omega
  have HG := Lib.hid hg0
  clear hg0 hg1
  obtain ⟨_, _, _, _⟩ := hX0.frees
  obtain ⟨_, _, _, _⟩ := hX0.cells
  obtain ⟨_, _, _, _⟩ := hX1.frees
  obtain ⟨_, _, _, _⟩ := hX1.cells
  go_wp2_with fail
  refine (HA.out _).mono ?_
  rintro e w3 ⟨rfl, hk3⟩
  have hX0_3 := hX0.later hk3
  have hX1_3 := hX1.later hk3
  have hb3 := hb.trans (hk3.mono (by have := hX0.lt; omega))
  obtain ⟨_, _, _, _⟩ := hX0_3.frees
  obtain ⟨_, _, _, _⟩ := hX0_3.cells
  obtain ⟨_, _, _, _⟩ := hX1_3.frees
  obtain ⟨_, _, _, _⟩ := hX1_3.cells
  go_upto_region 2 with fail
  have hX0_4 := at4_put hX0_3 (.int .i64 r2) (.int .i64 b2) (.int .i64 k2) (.int .i64 l2)
  have ho4 := put4_only w3 g0 (.int .i64 r2) (.int .i64 b2) (.int .i64 k2) (.int .i64 l2)
  have hX1_4 := hX1_3.only hne10 ho4
  have hb4 := hb3.trans (ho4.below (Nat.le_refl _))
  generalize ((((w3.setCell ⟨g0, 0, none⟩ (.int .i64 r2)).setCell ⟨g0, 1, none⟩ (.int .i64 b2)).setCell ⟨g0, 2, none⟩ (.int .i64 k2)).setCell ⟨g0, 3, none⟩ (.int .i64 l2)) = w4 at hX0_4 hX1_4 hb4 ⊢
  clear ho4
  obtain ⟨_, _, _, _⟩ := hX0_4.frees
  obtain ⟨_, _, _, _⟩ := hX0_4.cells
  obtain ⟨_, _, _, _⟩ := hX1_4.frees
  obtain ⟨_, _, _, _⟩ := hX1_4.cells
  go_upto_region 3 with fail
  have hZ := at4_put hX1_4 (.int .i64 r2) (.int .i64 b2) (.int .i64 k2) (.int .i64 l2)
  have hbz := hb4.trans ((put4_only w4 g1 (.int .i64 r2) (.int .i64 b2) (.int .i64 k2) (.int .i64 l2)).below hle1)
  obtain ⟨d0, d1, d2, d3⟩ := hZ.cells
  go_wp2_with fail
  refine bodyPost_ret (v := .tuple #[.agg #[.int .i64 r2, .int .i64 b2, .int .i64 k2, .int .i64 l2], .bool false]) (by simp [results, Try.results27, go_sem, d0, d1, d2, d3]) rfl ⟨rfl, by rw [HG.out]; exact hbz⟩
set_option maxHeartbeats 1600000 in
theorem refPaTakeNo (p : PP) (now n : Int) (h : ¬p.can now n) (w : World) : Calls Try.prog 28 #[p.val, .int .i64 now, .int .i64 n] w fun e w' => e = .returned (.tuple #[(p.take now n).val, .bool false]) ∧ Below w.heap.size w w' := by
  have HA := Lib.hid (fun W => refPaAt_any p now W)
  have hok := p.at_ok now
  rw [p.take_no now n h]
  have hc : ¬(n ≤ (p.at now).k) := h
  clear h
  generalize p.at now = q at HA hok hc ⊢
  obtain ⟨r, b, k, l⟩ := p
  obtain ⟨r2, b2, k2, l2⟩ := q
  simp only [PP.val] at HA hc ⊢
  have o0 := hok.k0
  have o1 := hok.k1
  have o2 := hok.b1
  simp only at o0 o1 o2
  clear hok
  have hc1 : k2 < n := by omega
  clear hc o0 o1 o2
  have hX0 : At4 47 ((w.alloc (.cells #[.int .i64 r, .int .i64 b, .int .i64 k, .int .i64 l] 47)).alloc (.cells #[.int .i64 0, .int .i64 0, .int .i64 0, .int .i64 0] 47)) w.heap.size (.int .i64 r) (.int .i64 b) (.int .i64 k) (.int .i64 l) := (at4_new 47 _ _ (.int .i64 r) (.int .i64 b) (.int .i64 k) (.int .i64 l) rfl).alloc _
  have hX1 : At4 47 ((w.alloc (.cells #[.int .i64 r, .int .i64 b, .int .i64 k, .int .i64 l] 47)).alloc (.cells #[.int .i64 0, .int .i64 0, .int .i64 0, .int .i64 0] 47)) (w.heap.size + 1) (.int .i64 0) (.int .i64 0) (.int .i64 0) (.int .i64 0) := at4_new 47 _ _ (.int .i64 0) (.int .i64 0) (.int .i64 0) (.int .i64 0) (by simp)
  have hb : Below w.heap.size w ((w.alloc (.cells #[.int .i64 r, .int .i64 b, .int .i64 k, .int .i64 l] 47)).alloc (.cells #[.int .i64 0, .int .i64 0, .int .i64 0, .int .i64 0] 47)) := ((Below.refl _ _).alloc (Nat.le_refl _) _).alloc (by simp) _
  go_enter Try.func28, Try.ntmps28
  go_upto_region 1 with fail
  generalize ((w.alloc (.cells #[.int .i64 r, .int .i64 b, .int .i64 k, .int .i64 l] 47)).alloc (.cells #[.int .i64 0, .int .i64 0, .int .i64 0, .int .i64 0] 47)) = w2 at hX0 hX1 hb ⊢
  generalize hg1 : w.heap.size + 1 = g1 at hX1 ⊢
  generalize hg0 : w.heap.size = g0 at hX0 hb hg1 ⊢
  have hne01 : g0 ≠ g1 := by omega
  have hle1 : g0 ≤ g1 := by omega
  have hne10 : g1 ≠ g0 := by omega
  have HG := Lib.hid hg0
  clear hg0 hg1
  obtain ⟨_, _, _, _⟩ := hX0.frees
  obtain ⟨_, _, _, _⟩ := hX0.cells
  obtain ⟨_, _, _, _⟩ := hX1.frees
  obtain ⟨_, _, _, _⟩ := hX1.cells
  go_wp2_with fail
  refine (HA.out _).mono ?_
  rintro e w3 ⟨rfl, hk3⟩
  have hX0_3 := hX0.later hk3
  have hX1_3 := hX1.later hk3
  have hb3 := hb.trans (hk3.mono (by have := hX0.lt; omega))
  obtain ⟨_, _, _, _⟩ := hX0_3.frees
  obtain ⟨_, _, _, _⟩ := hX0_3.cells
  obtain ⟨_, _, _, _⟩ := hX1_3.frees
  obtain ⟨_, _, _, _⟩ := hX1_3.cells
  have hX0_4 := hX0_3.alloc (.cells #[.int .i64 r2, .int .i64 b2, .int .i64 k2, .int .i64 l2] 47)
  have hX1_4 := hX1_3.alloc (.cells #[.int .i64 r2, .int .i64 b2, .int .i64 k2, .int .i64 l2] 47)
  have hb4 := hb3.alloc (by have := hX0_3.lt; omega) (.cells #[.int .i64 r2, .int .i64 b2, .int .i64 k2, .int .i64 l2] 47)
  have hX2_4 := at4_new 47 w3 _ (.int .i64 r2) (.int .i64 b2) (.int .i64 k2) (.int .i64 l2) rfl
  have lt0_4 := hX0_3.lt
  have lt1_4 := hX1_3.lt
  go_upto_region 2 with fail
  generalize (w3.alloc (.cells #[.int .i64 r2, .int .i64 b2, .int .i64 k2, .int .i64 l2] 47)) = w4 at hX0_4 hX1_4 hX2_4 hb4 ⊢
  generalize w3.heap.size = g2 at hX2_4 lt0_4 lt1_4 ⊢
  have hne20 : g2 ≠ g0 := by omega
  have hne02 : g0 ≠ g2 := by omega
  have hne21 : g2 ≠ g1 := by omega
  have hne12 : g1 ≠ g2 := by omega
  have hle2 : g0 ≤ g2 := by omega
  clear lt0_4 lt1_4
  obtain ⟨_, _, _, _⟩ := hX0_4.frees
  obtain ⟨_, _, _, _⟩ := hX0_4.cells
  obtain ⟨_, _, _, _⟩ := hX1_4.frees
  obtain ⟨_, _, _, _⟩ := hX1_4.cells
  obtain ⟨_, _, _, _⟩ := hX2_4.frees
  obtain ⟨_, _, _, _⟩ := hX2_4.cells
  go_upto_region 3 with fail
  have hZ := at4_put hX1_4 (.int .i64 r2) (.int .i64 b2) (.int .i64 k2) (.int .i64 l2)
  have hbz := hb4.trans ((put4_only w4 g1 (.int .i64 r2) (.int .i64 b2) (.int .i64 k2) (.int .i64 l2)).below hle1)
  obtain ⟨d0, d1, d2, d3⟩ := hZ.cells
  go_wp2_with fail
  refine bodyPost_ret (v := .tuple #[.agg #[.int .i64 r2, .int .i64 b2, .int .i64 k2, .int .i64 l2], .bool false]) (by simp [results, Try.results28, go_sem, d0, d1, d2, d3]) rfl ⟨rfl, by rw [HG.out]; exact hbz⟩
theorem paTake_any (p : PP) (now n : Int) (w : World) : Calls Try.prog 27 #[p.val, .int .i64 now, .int .i64 n] w fun e w' => e = .returned (.tuple #[(p.take now n).val, .bool (decide (p.can now n))]) ∧ Below w.heap.size w w' := by
  by_cases h : p.can now n
  · rw [decide_eq_true h]; exact paTakeYes p now n h w
  · rw [decide_eq_false h]; exact paTakeNo p now n h w
theorem refPaTake_any (p : PP) (now n : Int) (w : World) : Calls Try.prog 28 #[p.val, .int .i64 now, .int .i64 n] w fun e w' => e = .returned (.tuple #[(p.take now n).val, .bool (decide (p.can now n))]) ∧ Below w.heap.size w w' := by
  by_cases h : p.can now n
  · rw [decide_eq_true h]; exact refPaTakeYes p now n h w
  · rw [decide_eq_false h]; exact refPaTakeNo p now n h w
set_option maxHeartbeats 1600000 in
theorem paChg_any (p : PP) (now n : Int) (w : World) : Calls Try.prog 29 #[p.val, .int .i64 now, .int .i64 n] w fun e w' => e = .returned (p.chg now n).val ∧ Below w.heap.size w w' := by
  have HA := Lib.hid (fun W => paAt_any p now W)
  have HF : Hid (∀ W, Calls Try.prog 59 #[.agg #[.int .i64 n, .int .i64 (p.at now).b, .int .i64 (p.at now).k, .int .i64 (p.at now).l]] W fun e w' => e = .returned (p.chg now n).val ∧ Below W.heap.size W w') := Lib.hid (fun W => by
    have e : PP.fit ⟨n, (p.at now).b, (p.at now).k, (p.at now).l⟩ = p.chg now n := by
      obtain ⟨a0, a1, a2, a3, a4, a5, a6, a7⟩ := p.at_ok now
      simp only [PP.fit, PP.chg, PP.mk.injEq]
      refine ⟨trivial, ?_, ?_, ?_⟩ <;> omega
    rw [← e]
    exact paCnt_any ⟨n, (p.at now).b, (p.at now).k, (p.at now).l⟩ W)
  generalize p.chg now n = c at HF ⊢
  generalize p.at now = q at HA HF
  obtain ⟨r, b, k, l⟩ := p
  obtain ⟨r2, b2, k2, l2⟩ := q
  obtain ⟨r3, b3, k3, l3⟩ := c
  simp only [PP.val] at HA HF ⊢
  have hX0 : At4 49 ((w.alloc (.cells #[.int .i64 r, .int .i64 b, .int .i64 k, .int .i64 l] 49)).alloc (.cells #[.int .i64 0, .int .i64 0, .int .i64 0, .int .i64 0] 49)) w.heap.size (.int .i64 r) (.int .i64 b) (.int .i64 k) (.int .i64 l) := (at4_new 49 _ _ (.int .i64 r) (.int .i64 b) (.int .i64 k) (.int .i64 l) rfl).alloc _
  have hX1 : At4 49 ((w.alloc (.cells #[.int .i64 r, .int .i64 b, .int .i64 k, .int .i64 l] 49)).alloc (.cells #[.int .i64 0, .int .i64 0, .int .i64 0, .int .i64 0] 49)) (w.heap.size + 1) (.int .i64 0) (.int .i64 0) (.int .i64 0) (.int .i64 0) := at4_new 49 _ _ (.int .i64 0) (.int .i64 0) (.int .i64 0) (.int .i64 0) (by simp)
  have hb : Below w.heap.size w ((w.alloc (.cells #[.int .i64 r, .int .i64 b, .int .i64 k, .int .i64 l] 49)).alloc (.cells #[.int .i64 0, .int .i64 0, .int .i64 0, .int .i64 0] 49)) := ((Below.refl _ _).alloc (Nat.le_refl _) _).alloc (by simp) _
  go_enter Try.func29, Try.ntmps29
  go_upto_region 1 with fail
  generalize ((w.alloc (.cells #[.int .i64 r, .int .i64 b, .int .i64 k, .int .i64 l] 49)).alloc (.cells #[.int .i64 0, .int .i64 0, .int .i64 0, .int .i64 0] 49)) = w2 at hX0 hX1 hb ⊢
  generalize hg1 : w.heap.size + 1 = g1 at hX1 ⊢
  generalize hg0 : w.heap.size = g0 at hX0 hb hg1 ⊢
  have hne01 : g0 ≠ g1 := by omega
  have hle1 : g0 ≤ g1 := by omega
  have hne10 : g1 ≠ g0 := by omega
  have HG := Lib.hid hg0
  clear hg0 hg1
  obtain ⟨_, _, _, _⟩ := hX0.frees
  obtain ⟨_, _, _, _⟩ := hX0.cells
  obtain ⟨_, _, _, _⟩ := hX1.frees
  obtain ⟨_, _, _, _⟩ := hX1.cells
  go_wp2_with fail
  refine (HA.out _).mono ?_
  rintro e w3 ⟨rfl, hk3⟩
  have hX0_3 := hX0.later hk3
  have hX1_3 := hX1.later hk3
  have hb3 := hb.trans (hk3.mono (by have := hX0.lt; omega))
  obtain ⟨_, _, _, _⟩ := hX0_3.frees
  obtain ⟨_, _, _, _⟩ := hX0_3.cells
  obtain ⟨_, _, _, _⟩ := hX1_3.frees
  obtain ⟨_, _, _, _⟩ := hX1_3.cells
  go_upto_region 2 with fail
  have hX0_4 := at4_put hX0_3 (.int .i64 r2) (.int .i64 b2) (.int .i64 k2) (.int .i64 l2)
  have ho4 := put4_only w3 g0 (.int .i64 r2) (.int .i64 b2) (.int .i64 k2) (.int .i64 l2)
  have hX1_4 := hX1_3.only hne10 ho4
  have hb4 := hb3.trans (ho4.below (Nat.le_refl _))
  generalize ((((w3.setCell ⟨g0, 0, none⟩ (.int .i64 r2)).setCell ⟨g0, 1, none⟩ (.int .i64 b2)).setCell ⟨g0, 2, none⟩ (.int .i64 k2)).setCell ⟨g0, 3, none⟩ (.int .i64 l2)) = w4 at hX0_4 hX1_4 hb4 ⊢
  clear ho4
  obtain ⟨_, _, _, _⟩ := hX0_4.frees
  obtain ⟨_, _, _, _⟩ := hX0_4.cells
  obtain ⟨_, _, _, _⟩ := hX1_4.frees
  obtain ⟨_, _, _, _⟩ := hX1_4.cells
  go_upto_region 3 with fail
  have hX0_5 := (at4p_set0 hX0_4 (.int .i64 n))
  have ho5 := ((Only.refl g0 w4).setCell 0 (.int .i64 n))
  have hX1_5 := hX1_4.only hne10 ho5
  have hb5 := hb4.trans (ho5.below (Nat.le_refl _))
  generalize (w4.setCell ⟨g0, 0, none⟩ (.int .i64 n)) = w5 at hX0_5 hX1_5 hb5 ⊢
  clear ho5
  obtain ⟨_, _, _, _⟩ := hX0_5.frees
  obtain ⟨_, _, _, _⟩ := hX0_5.cells
  obtain ⟨_, _, _, _⟩ := hX1_5.frees
  obtain ⟨_, _, _, _⟩ := hX1_5.cells
  go_wp2_with fail
  refine (HF.out _).mono ?_
  rintro e w6 ⟨rfl, hk6⟩
  have hX0_6 := hX0_5.later hk6
  have hX1_6 := hX1_5.later hk6
  have hb6 := hb5.trans (hk6.mono (by have := hX0_5.lt; omega))
  obtain ⟨_, _, _, _⟩ := hX0_6.frees
  obtain ⟨_, _, _, _⟩ := hX0_6.cells
  obtain ⟨_, _, _, _⟩ := hX1_6.frees
  obtain ⟨_, _, _, _⟩ := hX1_6.cells
  have hZ := at4_put hX1_6 (.int .i64 r3) (.int .i64 b3) (.int .i64 k3) (.int .i64 l3)
  have hbz := hb6.trans ((put4_only w6 g1 (.int .i64 r3) (.int .i64 b3) (.int .i64 k3) (.int .i64 l3)).below hle1)
  obtain ⟨d0, d1, d2, d3⟩ := hZ.cells
  go_wp2_with fail
  refine bodyPost_ret (v := .agg #[.int .i64 r3, .int .i64 b3, .int .i64 k3, .int .i64 l3]) (by simp [results, Try.results29, go_sem, d0, d1, d2, d3]) rfl ⟨rfl, by rw [HG.out]; exact hbz⟩
set_option maxHeartbeats 1600000 in
theorem paNew_any (r b l : Int) (w : World) : Calls Try.prog 30 #[.int .i64 r, .int .i64 b, .int .i64 l] w fun e w' => e = .returned (PP.fit ⟨r, b, 1048576, l⟩).val ∧ Below w.heap.size w w' := by
  obtain ⟨b1, hb1⟩ : ∃ z, am 1 b 1048576 = z := ⟨_, rfl⟩
  have hq : ∀ W : World, Calls Try.prog 61 #[.int .i64 1, .int .i64 b, .int .i64 1048576] W fun e w' => e = .returned (.int .i64 b1) ∧ w' = W := fun W => by rw [← hb1]; exact paAmong_q _ _ _ W
  have HQ := Lib.hid hq
  have HF : Hid (∀ W, Calls Try.prog 59 #[.agg #[.int .i64 r, .int .i64 b1, .int .i64 b1, .int .i64 l]] W fun e w' => e = .returned (PP.fit ⟨r, b, 1048576, l⟩).val ∧ Below W.heap.size W w') := Lib.hid (fun W => by
    have e : PP.fit ⟨r, b1, b1, l⟩ = PP.fit ⟨r, b, 1048576, l⟩ := by
      unfold am at hb1
      simp only [PP.fit, PP.mk.injEq]
      refine ⟨trivial, ?_, ?_, trivial⟩ <;> omega
    rw [← e]
    exact paCnt_any ⟨r, b1, b1, l⟩ W)
  clear hq hb1
  generalize PP.fit ⟨r, b, 1048576, l⟩ = c at HF ⊢
  obtain ⟨r3, b3, k3, l3⟩ := c
  simp only [PP.val] at HF ⊢
  have hX0 : At4 49 (w.alloc (.cells #[.int .i64 0, .int .i64 0, .int .i64 0, .int .i64 0] 49)) w.heap.size (.int .i64 0) (.int .i64 0) (.int .i64 0) (.int .i64 0) := at4_new 49 _ _ (.int .i64 0) (.int .i64 0) (.int .i64 0) (.int .i64 0) rfl
  have hb : Below w.heap.size w (w.alloc (.cells #[.int .i64 0, .int .i64 0, .int .i64 0, .int .i64 0] 49)) := (Below.refl _ _).alloc (Nat.le_refl _) _
  go_enter Try.func30, Try.ntmps30
  go_upto_region 1 with fail
  generalize (w.alloc (.cells #[.int .i64 0, .int .i64 0, .int .i64 0, .int .i64 0] 49)) = w2 at hX0 hb ⊢
  generalize hg0 : w.heap.size = g0 at hX0 hb ⊢
  have HG := Lib.hid hg0
  clear hg0
  obtain ⟨_, _, _, _⟩ := hX0.frees
  obtain ⟨_, _, _, _⟩ := hX0.cells
  go_wp2_with fail
  refine (HQ.out _).mono ?_
  rintro e w3 ⟨rfl, hk3⟩
  subst hk3
  go_wp2_with fail
  clear HQ
  refine (HF.out _).mono ?_
  rintro e w4 ⟨rfl, hk4⟩
  have hX0_4 := hX0.later hk4
  have hb4 := hb.trans (hk4.mono (by have := hX0.lt; omega))
  obtain ⟨_, _, _, _⟩ := hX0_4.frees
  obtain ⟨_, _, _, _⟩ := hX0_4.cells
  have hZ := at4_put hX0_4 (.int .i64 r3) (.int .i64 b3) (.int .i64 k3) (.int .i64 l3)
  have hbz := hb4.trans ((put4_only w4 g0 (.int .i64 r3) (.int .i64 b3) (.int .i64 k3) (.int .i64 l3)).below (Nat.le_refl _))
  obtain ⟨d0, d1, d2, d3⟩ := hZ.cells
  go_wp2_with fail
  refine bodyPost_ret (v := .agg #[.int .i64 r3, .int .i64 b3, .int .i64 k3, .int .i64 l3]) (by simp [results, Try.results30, go_sem, d0, d1, d2, d3]) rfl ⟨rfl, by rw [HG.out]; exact hbz⟩
end Go.Proofs.Ytgmggilnhkdceaa
