/- life: the document's Report. -/
import Derived.Test.YtggcfoegpadepaaDoorLfE
namespace Go.Proofs.YtggcfoegpadepaaDoor
open Go.RowKit
set_option linter.unusedVariables false
set_option maxHeartbeats 1600000 in
theorem refRep_low3 (l : LL) (c : LC) (f now n h1 k1 : Int) (c1 : LC) (nw : Int) (hl : l.cnt = ⟨n, h1, k1⟩) (hc : c.clip = c1) (hw : am 0 now 1099511627776 = nw) (hf : f ≤ c1.lo) (h3 : n = 3) (w : World) : Calls Tryd.prog 9 #[l.val, c.val, .int .i64 f, .int .i64 now] w fun e w' => e = .returned (.tuple #[.agg #[.int .i64 0, .int .i64 nw, .int .i64 0], .bool true]) ∧ Below w.heap.size w w' := by
  have HCl := Lib.hid (fun W => refLfClip_any c W)
  have HCn := Lib.hid (fun W => known_any l W)
  have ho := l.cnt_ok
  have hco := c.clip_ok
  rw [hl] at HCn ho
  rw [hc] at HCl hco
  have HN : Hid (∀ W : World, Calls Tryd.prog 29 #[.int .i64 now] W fun e w' => e = .returned (.int .i64 nw) ∧ w' = W) := Lib.hid (by rw [← hw]; exact fun W => refLfTick_q now W)
  have hn0 : 0 ≤ nw := by rw [← hw]; exact am_lo _ _ _ (by omega)
  have hn1 : nw ≤ 1099511627776 := by rw [← hw]; exact am_hi _ _ _
  clear hl hc hw
  obtain ⟨s, h, k⟩ := l
  obtain ⟨T, lo, hi, st⟩ := c
  obtain ⟨T1, lo1, hi1, st1⟩ := c1
  obtain ⟨o1, o2, o3, o4, o5⟩ := ho
  obtain ⟨q1, q2, q3, q4, q5, q6, q7⟩ := hco
  simp only [LL.val, LC.val] at *
  subst h3
  have hX0 : At3 25 (((w.alloc (.cells #[.int .i64 s, .int .i64 h, .int .i64 k] 25)).alloc (.cells #[.int .i64 T, .int .i64 lo, .int .i64 hi, .int .i64 st] 23)).alloc (.cells #[.int .i64 0, .int .i64 0, .int .i64 0] 25)) w.heap.size (.int .i64 s) (.int .i64 h) (.int .i64 k) := ((at3_new 25 _ _ (.int .i64 s) (.int .i64 h) (.int .i64 k) rfl).alloc _).alloc _
  have hX1 : At4 23 (((w.alloc (.cells #[.int .i64 s, .int .i64 h, .int .i64 k] 25)).alloc (.cells #[.int .i64 T, .int .i64 lo, .int .i64 hi, .int .i64 st] 23)).alloc (.cells #[.int .i64 0, .int .i64 0, .int .i64 0] 25)) (w.heap.size + 1) (.int .i64 T) (.int .i64 lo) (.int .i64 hi) (.int .i64 st) := (at4_new 23 _ _ (.int .i64 T) (.int .i64 lo) (.int .i64 hi) (.int .i64 st) (by simp)).alloc _
  have hX2 : At3 25 (((w.alloc (.cells #[.int .i64 s, .int .i64 h, .int .i64 k] 25)).alloc (.cells #[.int .i64 T, .int .i64 lo, .int .i64 hi, .int .i64 st] 23)).alloc (.cells #[.int .i64 0, .int .i64 0, .int .i64 0] 25)) (w.heap.size + 1 + 1) (.int .i64 0) (.int .i64 0) (.int .i64 0) := at3_new 25 _ _ (.int .i64 0) (.int .i64 0) (.int .i64 0) (by simp)
  have hb : Below w.heap.size w (((w.alloc (.cells #[.int .i64 s, .int .i64 h, .int .i64 k] 25)).alloc (.cells #[.int .i64 T, .int .i64 lo, .int .i64 hi, .int .i64 st] 23)).alloc (.cells #[.int .i64 0, .int .i64 0, .int .i64 0] 25)) := (((Below.refl _ _).alloc (Nat.le_refl _) _).alloc (by simp) _).alloc (by simp; omega) _
  go_enter Tryd.func9, Tryd.ntmps9
  go_upto_region 1 with fail
  generalize (((w.alloc (.cells #[.int .i64 s, .int .i64 h, .int .i64 k] 25)).alloc (.cells #[.int .i64 T, .int .i64 lo, .int .i64 hi, .int .i64 st] 23)).alloc (.cells #[.int .i64 0, .int .i64 0, .int .i64 0] 25)) = w2 at hX0 hX1 hX2 hb ⊢
  generalize hg2 : w.heap.size + 1 + 1 = g2 at hX2 ⊢
  generalize hg1 : w.heap.size + 1 = g1 at hX1 hg2 ⊢
  generalize hg0 : w.heap.size = g0 at hX0 hb hg1 ⊢
  have hne01 : g0 ≠ g1 := by omega
  have hne02 : g0 ≠ g2 := by omega
  have hle1 : g0 ≤ g1 := by omega
  have hne10 : g1 ≠ g0 := by omega
  have hne12 : g1 ≠ g2 := by omega
  have hle2 : g0 ≤ g2 := by omega
  have hne20 : g2 ≠ g0 := by omega
  have hne21 : g2 ≠ g1 := by omega
  have HG := Lib.hid hg0
  clear hg0 hg1 hg2
  obtain ⟨_, _, _⟩ := hX0.frees
  obtain ⟨_, _, _⟩ := hX0.cells
  obtain ⟨_, _, _, _⟩ := hX1.frees
  obtain ⟨_, _, _, _⟩ := hX1.cells
  obtain ⟨_, _, _⟩ := hX2.frees
  obtain ⟨_, _, _⟩ := hX2.cells
  go_wp2_with fail
  refine (HCl.out _).mono ?_
  rintro e w3 ⟨rfl, hk3⟩
  have hX0_3 := hX0.later hk3
  have hX1_3 := hX1.later hk3
  have hX2_3 := hX2.later hk3
  have hb3 := hb.trans (hk3.mono (by have := hX0.lt; omega))
  obtain ⟨_, _, _⟩ := hX0_3.frees
  obtain ⟨_, _, _⟩ := hX0_3.cells
  obtain ⟨_, _, _, _⟩ := hX1_3.frees
  obtain ⟨_, _, _, _⟩ := hX1_3.cells
  obtain ⟨_, _, _⟩ := hX2_3.frees
  obtain ⟨_, _, _⟩ := hX2_3.cells
  have hX0_4 := hX0_3.alloc (.cells #[.int .i64 T1, .int .i64 lo1, .int .i64 hi1, .int .i64 st1] 23)
  have hX1_4 := hX1_3.alloc (.cells #[.int .i64 T1, .int .i64 lo1, .int .i64 hi1, .int .i64 st1] 23)
  have hX2_4 := hX2_3.alloc (.cells #[.int .i64 T1, .int .i64 lo1, .int .i64 hi1, .int .i64 st1] 23)
  have hb4 := hb3.alloc (by have := hX0_3.lt; omega) (.cells #[.int .i64 T1, .int .i64 lo1, .int .i64 hi1, .int .i64 st1] 23)
  have hX3_4 := at4_new 23 w3 _ (.int .i64 T1) (.int .i64 lo1) (.int .i64 hi1) (.int .i64 st1) rfl
  have lt0_4 := hX0_3.lt
  have lt1_4 := hX1_3.lt
  have lt2_4 := hX2_3.lt
  go_upto_region 2 with fail
  generalize (w3.alloc (.cells #[.int .i64 T1, .int .i64 lo1, .int .i64 hi1, .int .i64 st1] 23)) = w4 at hX0_4 hX1_4 hX2_4 hX3_4 hb4 ⊢
  generalize w3.heap.size = g3 at hX3_4 lt0_4 lt1_4 lt2_4 ⊢
  have hne30 : g3 ≠ g0 := by omega
  have hne03 : g0 ≠ g3 := by omega
  have hne31 : g3 ≠ g1 := by omega
  have hne13 : g1 ≠ g3 := by omega
  have hne32 : g3 ≠ g2 := by omega
  have hne23 : g2 ≠ g3 := by omega
  have hle3 : g0 ≤ g3 := by omega
  clear lt0_4 lt1_4 lt2_4
  obtain ⟨_, _, _⟩ := hX0_4.frees
  obtain ⟨_, _, _⟩ := hX0_4.cells
  obtain ⟨_, _, _, _⟩ := hX1_4.frees
  obtain ⟨_, _, _, _⟩ := hX1_4.cells
  obtain ⟨_, _, _⟩ := hX2_4.frees
  obtain ⟨_, _, _⟩ := hX2_4.cells
  obtain ⟨_, _, _, _⟩ := hX3_4.frees
  obtain ⟨_, _, _, _⟩ := hX3_4.cells
  go_wp2_with fail
  refine (HCn.out _).mono ?_
  rintro e w5 ⟨rfl, hk5⟩
  have hX0_5 := hX0_4.later hk5
  have hX1_5 := hX1_4.later hk5
  have hX2_5 := hX2_4.later hk5
  have hX3_5 := hX3_4.later hk5
  have hb5 := hb4.trans (hk5.mono (by have := hX0_4.lt; omega))
  obtain ⟨_, _, _⟩ := hX0_5.frees
  obtain ⟨_, _, _⟩ := hX0_5.cells
  obtain ⟨_, _, _, _⟩ := hX1_5.frees
  obtain ⟨_, _, _, _⟩ := hX1_5.cells
  obtain ⟨_, _, _⟩ := hX2_5.frees
  obtain ⟨_, _, _⟩ := hX2_5.cells
  obtain ⟨_, _, _, _⟩ := hX3_5.frees
  obtain ⟨_, _, _, _⟩ := hX3_5.cells
  have hX0_6 := hX0_5.alloc (.cells #[.int .i64 3, .int .i64 h1, .int .i64 k1] 25)
  have hX1_6 := hX1_5.alloc (.cells #[.int .i64 3, .int .i64 h1, .int .i64 k1] 25)
  have hX2_6 := hX2_5.alloc (.cells #[.int .i64 3, .int .i64 h1, .int .i64 k1] 25)
  have hX3_6 := hX3_5.alloc (.cells #[.int .i64 3, .int .i64 h1, .int .i64 k1] 25)
  have hb6 := hb5.alloc (by have := hX0_5.lt; omega) (.cells #[.int .i64 3, .int .i64 h1, .int .i64 k1] 25)
  have hX4_6 := at3_new 25 w5 _ (.int .i64 3) (.int .i64 h1) (.int .i64 k1) rfl
  have lt0_6 := hX0_5.lt
  have lt1_6 := hX1_5.lt
  have lt2_6 := hX2_5.lt
  have lt3_6 := hX3_5.lt
  go_upto_region 3 with fail
  generalize (w5.alloc (.cells #[.int .i64 3, .int .i64 h1, .int .i64 k1] 25)) = w6 at hX0_6 hX1_6 hX2_6 hX3_6 hX4_6 hb6 ⊢
  generalize w5.heap.size = g4 at hX4_6 lt0_6 lt1_6 lt2_6 lt3_6 ⊢
  have hne40 : g4 ≠ g0 := by omega
  have hne04 : g0 ≠ g4 := by omega
  have hne41 : g4 ≠ g1 := by omega
  have hne14 : g1 ≠ g4 := by omega
  have hne42 : g4 ≠ g2 := by omega
  have hne24 : g2 ≠ g4 := by omega
  have hne43 : g4 ≠ g3 := by omega
  have hne34 : g3 ≠ g4 := by omega
  have hle4 : g0 ≤ g4 := by omega
  clear lt0_6 lt1_6 lt2_6 lt3_6
  obtain ⟨_, _, _⟩ := hX0_6.frees
  obtain ⟨_, _, _⟩ := hX0_6.cells
  obtain ⟨_, _, _, _⟩ := hX1_6.frees
  obtain ⟨_, _, _, _⟩ := hX1_6.cells
  obtain ⟨_, _, _⟩ := hX2_6.frees
  obtain ⟨_, _, _⟩ := hX2_6.cells
  obtain ⟨_, _, _, _⟩ := hX3_6.frees
  obtain ⟨_, _, _, _⟩ := hX3_6.cells
  obtain ⟨_, _, _⟩ := hX4_6.frees
  obtain ⟨_, _, _⟩ := hX4_6.cells
  go_upto_region 16 with fail
  have hX4_7 := (at3_set0 (at3_set2 hX4_6 (.int .i64 0)) (.int .i64 0))
  have ho7 := (((Only.refl g4 w6).setCell 2 (.int .i64 0)).setCell 0 (.int .i64 0))
  have hX0_7 := hX0_6.only hne04 ho7
  have hX1_7 := hX1_6.only hne14 ho7
  have hX2_7 := hX2_6.only hne24 ho7
  have hX3_7 := hX3_6.only hne34 ho7
  have hb7 := hb6.trans (ho7.below hle4)
  generalize ((w6.setCell ⟨g4, 2, none⟩ (.int .i64 0)).setCell ⟨g4, 0, none⟩ (.int .i64 0)) = w7 at hX0_7 hX1_7 hX2_7 hX3_7 hX4_7 hb7 ⊢
  clear ho7
  obtain ⟨_, _, _⟩ := hX0_7.frees
  obtain ⟨_, _, _⟩ := hX0_7.cells
  obtain ⟨_, _, _, _⟩ := hX1_7.frees
  obtain ⟨_, _, _, _⟩ := hX1_7.cells
  obtain ⟨_, _, _⟩ := hX2_7.frees
  obtain ⟨_, _, _⟩ := hX2_7.cells
  obtain ⟨_, _, _, _⟩ := hX3_7.frees
  obtain ⟨_, _, _, _⟩ := hX3_7.cells
  obtain ⟨_, _, _⟩ := hX4_7.frees
  obtain ⟨_, _, _⟩ := hX4_7.cells
  go_wp2_with fail
  refine (HN.out _).mono ?_
  rintro e w8 ⟨rfl, hk8⟩
  subst hk8
  go_upto_region 17 with fail
  have hX4_9 := (at3_set1 hX4_7 (.int .i64 nw))
  have ho9 := ((Only.refl g4 w8).setCell 1 (.int .i64 nw))
  have hX0_9 := hX0_7.only hne04 ho9
  have hX1_9 := hX1_7.only hne14 ho9
  have hX2_9 := hX2_7.only hne24 ho9
  have hX3_9 := hX3_7.only hne34 ho9
  have hb9 := hb7.trans (ho9.below hle4)
  generalize (w8.setCell ⟨g4, 1, none⟩ (.int .i64 nw)) = w9 at hX0_9 hX1_9 hX2_9 hX3_9 hX4_9 hb9 ⊢
  clear ho9
  obtain ⟨_, _, _⟩ := hX0_9.frees
  obtain ⟨_, _, _⟩ := hX0_9.cells
  obtain ⟨_, _, _, _⟩ := hX1_9.frees
  obtain ⟨_, _, _, _⟩ := hX1_9.cells
  obtain ⟨_, _, _⟩ := hX2_9.frees
  obtain ⟨_, _, _⟩ := hX2_9.cells
  obtain ⟨_, _, _, _⟩ := hX3_9.frees
  obtain ⟨_, _, _, _⟩ := hX3_9.cells
  obtain ⟨_, _, _⟩ := hX4_9.frees
  obtain ⟨_, _, _⟩ := hX4_9.cells
  go_region_held3 (fun W => W.cell? ⟨g4, 0, none⟩ = some (.int .i64 0) ∧ W.cell? ⟨g4, 1, none⟩ = some (.int .i64 nw) ∧ W.cell? ⟨g4, 2, none⟩ = some (.int .i64 0)) (first | (go_keep; done) | with_reducible exact hX4_9.drew.cells) (fail)
  all_goals
    have hZ := at3_store hX2_9 (.int .i64 0) (.int .i64 nw) (.int .i64 0)
    have hbz := hb9.trans ((store3_only w9 g2 (.int .i64 0) (.int .i64 nw) (.int .i64 0)).below hle2)
    obtain ⟨d0, d1, d2⟩ := hZ.cells
    go_wp2_with fail
    refine bodyPost_ret (v := .tuple #[.agg #[.int .i64 0, .int .i64 nw, .int .i64 0], .bool true]) (by simp [results, Tryd.results9, go_sem, d0, d1, d2]) rfl ⟨rfl, by rw [HG.out]; exact hbz.drew⟩
set_option maxHeartbeats 1600000 in
theorem refRep_low (l : LL) (c : LC) (f now n h1 k1 : Int) (c1 : LC) (nw : Int) (q : Bool) (hq : (1 != n) = q) (hl : l.cnt = ⟨n, h1, k1⟩) (hc : c.clip = c1) (hw : am 0 now 1099511627776 = nw) (hf : f ≤ c1.lo) (h3 : n ≠ 3) (w : World) : Calls Tryd.prog 9 #[l.val, c.val, .int .i64 f, .int .i64 now] w fun e w' => e = .returned (.tuple #[.agg #[.int .i64 1, .int .i64 nw, .int .i64 0], .bool q]) ∧ Below w.heap.size w w' := by
  have HCl := Lib.hid (fun W => refLfClip_any c W)
  have HCn := Lib.hid (fun W => known_any l W)
  have ho := l.cnt_ok
  have hco := c.clip_ok
  rw [hl] at HCn ho
  rw [hc] at HCl hco
  have HN : Hid (∀ W : World, Calls Tryd.prog 29 #[.int .i64 now] W fun e w' => e = .returned (.int .i64 nw) ∧ w' = W) := Lib.hid (by rw [← hw]; exact fun W => refLfTick_q now W)
  have hn0 : 0 ≤ nw := by rw [← hw]; exact am_lo _ _ _ (by omega)
  have hn1 : nw ≤ 1099511627776 := by rw [← hw]; exact am_hi _ _ _
  clear hl hc hw
  obtain ⟨s, h, k⟩ := l
  obtain ⟨T, lo, hi, st⟩ := c
  obtain ⟨T1, lo1, hi1, st1⟩ := c1
  obtain ⟨o1, o2, o3, o4, o5⟩ := ho
  obtain ⟨q1, q2, q3, q4, q5, q6, q7⟩ := hco
  simp only [LL.val, LC.val] at *
  have hb3 : (n == 3) = false := by simp [h3]
  have hX0 : At3 25 (((w.alloc (.cells #[.int .i64 s, .int .i64 h, .int .i64 k] 25)).alloc (.cells #[.int .i64 T, .int .i64 lo, .int .i64 hi, .int .i64 st] 23)).alloc (.cells #[.int .i64 0, .int .i64 0, .int .i64 0] 25)) w.heap.size (.int .i64 s) (.int .i64 h) (.int .i64 k) := ((at3_new 25 _ _ (.int .i64 s) (.int .i64 h) (.int .i64 k) rfl).alloc _).alloc _
  have hX1 : At4 23 (((w.alloc (.cells #[.int .i64 s, .int .i64 h, .int .i64 k] 25)).alloc (.cells #[.int .i64 T, .int .i64 lo, .int .i64 hi, .int .i64 st] 23)).alloc (.cells #[.int .i64 0, .int .i64 0, .int .i64 0] 25)) (w.heap.size + 1) (.int .i64 T) (.int .i64 lo) (.int .i64 hi) (.int .i64 st) := (at4_new 23 _ _ (.int .i64 T) (.int .i64 lo) (.int .i64 hi) (.int .i64 st) (by simp)).alloc _
  have hX2 : At3 25 (((w.alloc (.cells #[.int .i64 s, .int .i64 h, .int .i64 k] 25)).alloc (.cells #[.int .i64 T, .int .i64 lo, .int .i64 hi, .int .i64 st] 23)).alloc (.cells #[.int .i64 0, .int .i64 0, .int .i64 0] 25)) (w.heap.size + 1 + 1) (.int .i64 0) (.int .i64 0) (.int .i64 0) := at3_new 25 _ _ (.int .i64 0) (.int .i64 0) (.int .i64 0) (by simp)
  have hb : Below w.heap.size w (((w.alloc (.cells #[.int .i64 s, .int .i64 h, .int .i64 k] 25)).alloc (.cells #[.int .i64 T, .int .i64 lo, .int .i64 hi, .int .i64 st] 23)).alloc (.cells #[.int .i64 0, .int .i64 0, .int .i64 0] 25)) := (((Below.refl _ _).alloc (Nat.le_refl _) _).alloc (by simp) _).alloc (by simp; omega) _
  go_enter Tryd.func9, Tryd.ntmps9
  go_upto_region 1 with fail
  generalize (((w.alloc (.cells #[.int .i64 s, .int .i64 h, .int .i64 k] 25)).alloc (.cells #[.int .i64 T, .int .i64 lo, .int .i64 hi, .int .i64 st] 23)).alloc (.cells #[.int .i64 0, .int .i64 0, .int .i64 0] 25)) = w2 at hX0 hX1 hX2 hb ⊢
  generalize hg2 : w.heap.size + 1 + 1 = g2 at hX2 ⊢
  generalize hg1 : w.heap.size + 1 = g1 at hX1 hg2 ⊢
  generalize hg0 : w.heap.size = g0 at hX0 hb hg1 ⊢
  have hne01 : g0 ≠ g1 := by omega
  have hne02 : g0 ≠ g2 := by omega
  have hle1 : g0 ≤ g1 := by omega
  have hne10 : g1 ≠ g0 := by omega
  have hne12 : g1 ≠ g2 := by omega
  have hle2 : g0 ≤ g2 := by omega
  have hne20 : g2 ≠ g0 := by omega
  have hne21 : g2 ≠ g1 := by omega
  have HG := Lib.hid hg0
  clear hg0 hg1 hg2
  obtain ⟨_, _, _⟩ := hX0.frees
  obtain ⟨_, _, _⟩ := hX0.cells
  obtain ⟨_, _, _, _⟩ := hX1.frees
  obtain ⟨_, _, _, _⟩ := hX1.cells
  obtain ⟨_, _, _⟩ := hX2.frees
  obtain ⟨_, _, _⟩ := hX2.cells
  go_wp2_with fail
  refine (HCl.out _).mono ?_
  rintro e w3 ⟨rfl, hk3⟩
  have hX0_3 := hX0.later hk3
  have hX1_3 := hX1.later hk3
  have hX2_3 := hX2.later hk3
  have hb3 := hb.trans (hk3.mono (by have := hX0.lt; omega))
  obtain ⟨_, _, _⟩ := hX0_3.frees
  obtain ⟨_, _, _⟩ := hX0_3.cells
  obtain ⟨_, _, _, _⟩ := hX1_3.frees
  obtain ⟨_, _, _, _⟩ := hX1_3.cells
  obtain ⟨_, _, _⟩ := hX2_3.frees
  obtain ⟨_, _, _⟩ := hX2_3.cells
  have hX0_4 := hX0_3.alloc (.cells #[.int .i64 T1, .int .i64 lo1, .int .i64 hi1, .int .i64 st1] 23)
  have hX1_4 := hX1_3.alloc (.cells #[.int .i64 T1, .int .i64 lo1, .int .i64 hi1, .int .i64 st1] 23)
  have hX2_4 := hX2_3.alloc (.cells #[.int .i64 T1, .int .i64 lo1, .int .i64 hi1, .int .i64 st1] 23)
  have hb4 := hb3.alloc (by have := hX0_3.lt; omega) (.cells #[.int .i64 T1, .int .i64 lo1, .int .i64 hi1, .int .i64 st1] 23)
  have hX3_4 := at4_new 23 w3 _ (.int .i64 T1) (.int .i64 lo1) (.int .i64 hi1) (.int .i64 st1) rfl
  have lt0_4 := hX0_3.lt
  have lt1_4 := hX1_3.lt
  have lt2_4 := hX2_3.lt
  go_upto_region 2 with fail
  generalize (w3.alloc (.cells #[.int .i64 T1, .int .i64 lo1, .int .i64 hi1, .int .i64 st1] 23)) = w4 at hX0_4 hX1_4 hX2_4 hX3_4 hb4 ⊢
  generalize w3.heap.size = g3 at hX3_4 lt0_4 lt1_4 lt2_4 ⊢
  have hne30 : g3 ≠ g0 := by omega
  have hne03 : g0 ≠ g3 := by omega
  have hne31 : g3 ≠ g1 := by omega
  have hne13 : g1 ≠ g3 := by omega
  have hne32 : g3 ≠ g2 := by omega
  have hne23 : g2 ≠ g3 := by omega
  have hle3 : g0 ≤ g3 := by omega
  clear lt0_4 lt1_4 lt2_4
  obtain ⟨_, _, _⟩ := hX0_4.frees
  obtain ⟨_, _, _⟩ := hX0_4.cells
  obtain ⟨_, _, _, _⟩ := hX1_4.frees
  obtain ⟨_, _, _, _⟩ := hX1_4.cells
  obtain ⟨_, _, _⟩ := hX2_4.frees
  obtain ⟨_, _, _⟩ := hX2_4.cells
  obtain ⟨_, _, _, _⟩ := hX3_4.frees
  obtain ⟨_, _, _, _⟩ := hX3_4.cells
  go_wp2_with fail
  refine (HCn.out _).mono ?_
  rintro e w5 ⟨rfl, hk5⟩
  have hX0_5 := hX0_4.later hk5
  have hX1_5 := hX1_4.later hk5
  have hX2_5 := hX2_4.later hk5
  have hX3_5 := hX3_4.later hk5
  have hb5 := hb4.trans (hk5.mono (by have := hX0_4.lt; omega))
  obtain ⟨_, _, _⟩ := hX0_5.frees
  obtain ⟨_, _, _⟩ := hX0_5.cells
  obtain ⟨_, _, _, _⟩ := hX1_5.frees
  obtain ⟨_, _, _, _⟩ := hX1_5.cells
  obtain ⟨_, _, _⟩ := hX2_5.frees
  obtain ⟨_, _, _⟩ := hX2_5.cells
  obtain ⟨_, _, _, _⟩ := hX3_5.frees
  obtain ⟨_, _, _, _⟩ := hX3_5.cells
  have hX0_6 := hX0_5.alloc (.cells #[.int .i64 n, .int .i64 h1, .int .i64 k1] 25)
  have hX1_6 := hX1_5.alloc (.cells #[.int .i64 n, .int .i64 h1, .int .i64 k1] 25)
  have hX2_6 := hX2_5.alloc (.cells #[.int .i64 n, .int .i64 h1, .int .i64 k1] 25)
  have hX3_6 := hX3_5.alloc (.cells #[.int .i64 n, .int .i64 h1, .int .i64 k1] 25)
  have hb6 := hb5.alloc (by have := hX0_5.lt; omega) (.cells #[.int .i64 n, .int .i64 h1, .int .i64 k1] 25)
  have hX4_6 := at3_new 25 w5 _ (.int .i64 n) (.int .i64 h1) (.int .i64 k1) rfl
  have lt0_6 := hX0_5.lt
  have lt1_6 := hX1_5.lt
  have lt2_6 := hX2_5.lt
  have lt3_6 := hX3_5.lt
  go_upto_region 3 with fail
  generalize (w5.alloc (.cells #[.int .i64 n, .int .i64 h1, .int .i64 k1] 25)) = w6 at hX0_6 hX1_6 hX2_6 hX3_6 hX4_6 hb6 ⊢
  generalize w5.heap.size = g4 at hX4_6 lt0_6 lt1_6 lt2_6 lt3_6 ⊢
  have hne40 : g4 ≠ g0 := by omega
  have hne04 : g0 ≠ g4 := by omega
  have hne41 : g4 ≠ g1 := by omega
  have hne14 : g1 ≠ g4 := by omega
  have hne42 : g4 ≠ g2 := by omega
  have hne24 : g2 ≠ g4 := by omega
  have hne43 : g4 ≠ g3 := by omega
  have hne34 : g3 ≠ g4 := by omega
  have hle4 : g0 ≤ g4 := by omega
  clear lt0_6 lt1_6 lt2_6 lt3_6
  obtain ⟨_, _, _⟩ := hX0_6.frees
  obtain ⟨_, _, _⟩ := hX0_6.cells
  obtain ⟨_, _, _, _⟩ := hX1_6.frees
  obtain ⟨_, _, _, _⟩ := hX1_6.cells
  obtain ⟨_, _, _⟩ := hX2_6.frees
  obtain ⟨_, _, _⟩ := hX2_6.cells
  obtain ⟨_, _, _, _⟩ := hX3_6.frees
  obtain ⟨_, _, _, _⟩ := hX3_6.cells
  obtain ⟨_, _, _⟩ := hX4_6.frees
  obtain ⟨_, _, _⟩ := hX4_6.cells
  go_upto_region 16 with fail
  have hX4_7 := (at3_set0 (at3_set2 hX4_6 (.int .i64 0)) (.int .i64 1))
  have ho7 := (((Only.refl g4 w6).setCell 2 (.int .i64 0)).setCell 0 (.int .i64 1))
  have hX0_7 := hX0_6.only hne04 ho7
  have hX1_7 := hX1_6.only hne14 ho7
  have hX2_7 := hX2_6.only hne24 ho7
  have hX3_7 := hX3_6.only hne34 ho7
  have hb7 := hb6.trans (ho7.below hle4)
  generalize ((w6.setCell ⟨g4, 2, none⟩ (.int .i64 0)).setCell ⟨g4, 0, none⟩ (.int .i64 1)) = w7 at hX0_7 hX1_7 hX2_7 hX3_7 hX4_7 hb7 ⊢
  clear ho7
  obtain ⟨_, _, _⟩ := hX0_7.frees
  obtain ⟨_, _, _⟩ := hX0_7.cells
  obtain ⟨_, _, _, _⟩ := hX1_7.frees
  obtain ⟨_, _, _, _⟩ := hX1_7.cells
  obtain ⟨_, _, _⟩ := hX2_7.frees
  obtain ⟨_, _, _⟩ := hX2_7.cells
  obtain ⟨_, _, _, _⟩ := hX3_7.frees
  obtain ⟨_, _, _, _⟩ := hX3_7.cells
  obtain ⟨_, _, _⟩ := hX4_7.frees
  obtain ⟨_, _, _⟩ := hX4_7.cells
  go_wp2_with fail
  refine (HN.out _).mono ?_
  rintro e w8 ⟨rfl, hk8⟩
  subst hk8
  go_upto_region 17 with fail
  have hX4_9 := (at3_set1 hX4_7 (.int .i64 nw))
  have ho9 := ((Only.refl g4 w8).setCell 1 (.int .i64 nw))
  have hX0_9 := hX0_7.only hne04 ho9
  have hX1_9 := hX1_7.only hne14 ho9
  have hX2_9 := hX2_7.only hne24 ho9
  have hX3_9 := hX3_7.only hne34 ho9
  have hb9 := hb7.trans (ho9.below hle4)
  generalize (w8.setCell ⟨g4, 1, none⟩ (.int .i64 nw)) = w9 at hX0_9 hX1_9 hX2_9 hX3_9 hX4_9 hb9 ⊢
  clear ho9
  obtain ⟨_, _, _⟩ := hX0_9.frees
  obtain ⟨_, _, _⟩ := hX0_9.cells
  obtain ⟨_, _, _, _⟩ := hX1_9.frees
  obtain ⟨_, _, _, _⟩ := hX1_9.cells
  obtain ⟨_, _, _⟩ := hX2_9.frees
  obtain ⟨_, _, _⟩ := hX2_9.cells
  obtain ⟨_, _, _, _⟩ := hX3_9.frees
  obtain ⟨_, _, _, _⟩ := hX3_9.cells
  obtain ⟨_, _, _⟩ := hX4_9.frees
  obtain ⟨_, _, _⟩ := hX4_9.cells
  go_region_held3 (fun W => W.cell? ⟨g4, 0, none⟩ = some (.int .i64 1) ∧ W.cell? ⟨g4, 1, none⟩ = some (.int .i64 nw) ∧ W.cell? ⟨g4, 2, none⟩ = some (.int .i64 0)) (first | (go_keep; done) | with_reducible exact hX4_9.drew.cells) (fail)
  all_goals
    have hZ := at3_store hX2_9 (.int .i64 1) (.int .i64 nw) (.int .i64 0)
    have hbz := hb9.trans ((store3_only w9 g2 (.int .i64 1) (.int .i64 nw) (.int .i64 0)).below hle2)
    obtain ⟨d0, d1, d2⟩ := hZ.cells
    go_wp2_with fail
    refine bodyPost_ret (v := .tuple #[.agg #[.int .i64 1, .int .i64 nw, .int .i64 0], .bool q]) (by simp [results, Tryd.results9, go_sem, d0, d1, d2]) rfl ⟨rfl, by rw [HG.out]; exact hbz.drew⟩
set_option maxHeartbeats 1600000 in
theorem refRep_end3 (l : LL) (c : LC) (f now n h1 k1 : Int) (c1 : LC) (nw : Int) (hl : l.cnt = ⟨n, h1, k1⟩) (hc : c.clip = c1) (hw : am 0 now 1099511627776 = nw) (hf : c1.lo < f) (hg : c1.hi < f) (h3 : n = 3) (w : World) : Calls Tryd.prog 9 #[l.val, c.val, .int .i64 f, .int .i64 now] w fun e w' => e = .returned (.tuple #[.agg #[.int .i64 3, .int .i64 nw, .int .i64 0], .bool false]) ∧ Below w.heap.size w w' := by
  have HCl := Lib.hid (fun W => refLfClip_any c W)
  have HCn := Lib.hid (fun W => known_any l W)
  have ho := l.cnt_ok
  have hco := c.clip_ok
  rw [hl] at HCn ho
  rw [hc] at HCl hco
  have HN : Hid (∀ W : World, Calls Tryd.prog 29 #[.int .i64 now] W fun e w' => e = .returned (.int .i64 nw) ∧ w' = W) := Lib.hid (by rw [← hw]; exact fun W => refLfTick_q now W)
  have hn0 : 0 ≤ nw := by rw [← hw]; exact am_lo _ _ _ (by omega)
  have hn1 : nw ≤ 1099511627776 := by rw [← hw]; exact am_hi _ _ _
  clear hl hc hw
  obtain ⟨s, h, k⟩ := l
  obtain ⟨T, lo, hi, st⟩ := c
  obtain ⟨T1, lo1, hi1, st1⟩ := c1
  obtain ⟨o1, o2, o3, o4, o5⟩ := ho
  obtain ⟨q1, q2, q3, q4, q5, q6, q7⟩ := hco
  simp only [LL.val, LC.val] at *
  subst h3
  have hX0 : At3 25 (((w.alloc (.cells #[.int .i64 s, .int .i64 h, .int .i64 k] 25)).alloc (.cells #[.int .i64 T, .int .i64 lo, .int .i64 hi, .int .i64 st] 23)).alloc (.cells #[.int .i64 0, .int .i64 0, .int .i64 0] 25)) w.heap.size (.int .i64 s) (.int .i64 h) (.int .i64 k) := ((at3_new 25 _ _ (.int .i64 s) (.int .i64 h) (.int .i64 k) rfl).alloc _).alloc _
  have hX1 : At4 23 (((w.alloc (.cells #[.int .i64 s, .int .i64 h, .int .i64 k] 25)).alloc (.cells #[.int .i64 T, .int .i64 lo, .int .i64 hi, .int .i64 st] 23)).alloc (.cells #[.int .i64 0, .int .i64 0, .int .i64 0] 25)) (w.heap.size + 1) (.int .i64 T) (.int .i64 lo) (.int .i64 hi) (.int .i64 st) := (at4_new 23 _ _ (.int .i64 T) (.int .i64 lo) (.int .i64 hi) (.int .i64 st) (by simp)).alloc _
  have hX2 : At3 25 (((w.alloc (.cells #[.int .i64 s, .int .i64 h, .int .i64 k] 25)).alloc (.cells #[.int .i64 T, .int .i64 lo, .int .i64 hi, .int .i64 st] 23)).alloc (.cells #[.int .i64 0, .int .i64 0, .int .i64 0] 25)) (w.heap.size + 1 + 1) (.int .i64 0) (.int .i64 0) (.int .i64 0) := at3_new 25 _ _ (.int .i64 0) (.int .i64 0) (.int .i64 0) (by simp)
  have hb : Below w.heap.size w (((w.alloc (.cells #[.int .i64 s, .int .i64 h, .int .i64 k] 25)).alloc (.cells #[.int .i64 T, .int .i64 lo, .int .i64 hi, .int .i64 st] 23)).alloc (.cells #[.int .i64 0, .int .i64 0, .int .i64 0] 25)) := (((Below.refl _ _).alloc (Nat.le_refl _) _).alloc (by simp) _).alloc (by simp; omega) _
  go_enter Tryd.func9, Tryd.ntmps9
  go_upto_region 1 with fail
  generalize (((w.alloc (.cells #[.int .i64 s, .int .i64 h, .int .i64 k] 25)).alloc (.cells #[.int .i64 T, .int .i64 lo, .int .i64 hi, .int .i64 st] 23)).alloc (.cells #[.int .i64 0, .int .i64 0, .int .i64 0] 25)) = w2 at hX0 hX1 hX2 hb ⊢
  generalize hg2 : w.heap.size + 1 + 1 = g2 at hX2 ⊢
  generalize hg1 : w.heap.size + 1 = g1 at hX1 hg2 ⊢
  generalize hg0 : w.heap.size = g0 at hX0 hb hg1 ⊢
  have hne01 : g0 ≠ g1 := by omega
  have hne02 : g0 ≠ g2 := by omega
  have hle1 : g0 ≤ g1 := by omega
  have hne10 : g1 ≠ g0 := by omega
  have hne12 : g1 ≠ g2 := by omega
  have hle2 : g0 ≤ g2 := by omega
  have hne20 : g2 ≠ g0 := by omega
  have hne21 : g2 ≠ g1 := by omega
  have HG := Lib.hid hg0
  clear hg0 hg1 hg2
  obtain ⟨_, _, _⟩ := hX0.frees
  obtain ⟨_, _, _⟩ := hX0.cells
  obtain ⟨_, _, _, _⟩ := hX1.frees
  obtain ⟨_, _, _, _⟩ := hX1.cells
  obtain ⟨_, _, _⟩ := hX2.frees
  obtain ⟨_, _, _⟩ := hX2.cells
  go_wp2_with fail
  refine (HCl.out _).mono ?_
  rintro e w3 ⟨rfl, hk3⟩
  have hX0_3 := hX0.later hk3
  have hX1_3 := hX1.later hk3
  have hX2_3 := hX2.later hk3
  have hb3 := hb.trans (hk3.mono (by have := hX0.lt; omega))
  obtain ⟨_, _, _⟩ := hX0_3.frees
  obtain ⟨_, _, _⟩ := hX0_3.cells
  obtain ⟨_, _, _, _⟩ := hX1_3.frees
  obtain ⟨_, _, _, _⟩ := hX1_3.cells
  obtain ⟨_, _, _⟩ := hX2_3.frees
  obtain ⟨_, _, _⟩ := hX2_3.cells
  have hX0_4 := hX0_3.alloc (.cells #[.int .i64 T1, .int .i64 lo1, .int .i64 hi1, .int .i64 st1] 23)
  have hX1_4 := hX1_3.alloc (.cells #[.int .i64 T1, .int .i64 lo1, .int .i64 hi1, .int .i64 st1] 23)
  have hX2_4 := hX2_3.alloc (.cells #[.int .i64 T1, .int .i64 lo1, .int .i64 hi1, .int .i64 st1] 23)
  have hb4 := hb3.alloc (by have := hX0_3.lt; omega) (.cells #[.int .i64 T1, .int .i64 lo1, .int .i64 hi1, .int .i64 st1] 23)
  have hX3_4 := at4_new 23 w3 _ (.int .i64 T1) (.int .i64 lo1) (.int .i64 hi1) (.int .i64 st1) rfl
  have lt0_4 := hX0_3.lt
  have lt1_4 := hX1_3.lt
  have lt2_4 := hX2_3.lt
  go_upto_region 2 with fail
  generalize (w3.alloc (.cells #[.int .i64 T1, .int .i64 lo1, .int .i64 hi1, .int .i64 st1] 23)) = w4 at hX0_4 hX1_4 hX2_4 hX3_4 hb4 ⊢
  generalize w3.heap.size = g3 at hX3_4 lt0_4 lt1_4 lt2_4 ⊢
  have hne30 : g3 ≠ g0 := by omega
  have hne03 : g0 ≠ g3 := by omega
  have hne31 : g3 ≠ g1 := by omega
  have hne13 : g1 ≠ g3 := by omega
  have hne32 : g3 ≠ g2 := by omega
  have hne23 : g2 ≠ g3 := by omega
  have hle3 : g0 ≤ g3 := by omega
  clear lt0_4 lt1_4 lt2_4
  obtain ⟨_, _, _⟩ := hX0_4.frees
  obtain ⟨_, _, _⟩ := hX0_4.cells
  obtain ⟨_, _, _, _⟩ := hX1_4.frees
  obtain ⟨_, _, _, _⟩ := hX1_4.cells
  obtain ⟨_, _, _⟩ := hX2_4.frees
  obtain ⟨_, _, _⟩ := hX2_4.cells
  obtain ⟨_, _, _, _⟩ := hX3_4.frees
  obtain ⟨_, _, _, _⟩ := hX3_4.cells
  go_wp2_with fail
  refine (HCn.out _).mono ?_
  rintro e w5 ⟨rfl, hk5⟩
  have hX0_5 := hX0_4.later hk5
  have hX1_5 := hX1_4.later hk5
  have hX2_5 := hX2_4.later hk5
  have hX3_5 := hX3_4.later hk5
  have hb5 := hb4.trans (hk5.mono (by have := hX0_4.lt; omega))
  obtain ⟨_, _, _⟩ := hX0_5.frees
  obtain ⟨_, _, _⟩ := hX0_5.cells
  obtain ⟨_, _, _, _⟩ := hX1_5.frees
  obtain ⟨_, _, _, _⟩ := hX1_5.cells
  obtain ⟨_, _, _⟩ := hX2_5.frees
  obtain ⟨_, _, _⟩ := hX2_5.cells
  obtain ⟨_, _, _, _⟩ := hX3_5.frees
  obtain ⟨_, _, _, _⟩ := hX3_5.cells
  have hX0_6 := hX0_5.alloc (.cells #[.int .i64 3, .int .i64 h1, .int .i64 k1] 25)
  have hX1_6 := hX1_5.alloc (.cells #[.int .i64 3, .int .i64 h1, .int .i64 k1] 25)
  have hX2_6 := hX2_5.alloc (.cells #[.int .i64 3, .int .i64 h1, .int .i64 k1] 25)
  have hX3_6 := hX3_5.alloc (.cells #[.int .i64 3, .int .i64 h1, .int .i64 k1] 25)
  have hb6 := hb5.alloc (by have := hX0_5.lt; omega) (.cells #[.int .i64 3, .int .i64 h1, .int .i64 k1] 25)
  have hX4_6 := at3_new 25 w5 _ (.int .i64 3) (.int .i64 h1) (.int .i64 k1) rfl
  have lt0_6 := hX0_5.lt
  have lt1_6 := hX1_5.lt
  have lt2_6 := hX2_5.lt
  have lt3_6 := hX3_5.lt
  go_upto_region 3 with fail
  generalize (w5.alloc (.cells #[.int .i64 3, .int .i64 h1, .int .i64 k1] 25)) = w6 at hX0_6 hX1_6 hX2_6 hX3_6 hX4_6 hb6 ⊢
  generalize w5.heap.size = g4 at hX4_6 lt0_6 lt1_6 lt2_6 lt3_6 ⊢
  have hne40 : g4 ≠ g0 := by omega
  have hne04 : g0 ≠ g4 := by omega
  have hne41 : g4 ≠ g1 := by omega
  have hne14 : g1 ≠ g4 := by omega
  have hne42 : g4 ≠ g2 := by omega
  have hne24 : g2 ≠ g4 := by omega
  have hne43 : g4 ≠ g3 := by omega
  have hne34 : g3 ≠ g4 := by omega
  have hle4 : g0 ≤ g4 := by omega
  clear lt0_6 lt1_6 lt2_6 lt3_6
  obtain ⟨_, _, _⟩ := hX0_6.frees
  obtain ⟨_, _, _⟩ := hX0_6.cells
  obtain ⟨_, _, _, _⟩ := hX1_6.frees
  obtain ⟨_, _, _, _⟩ := hX1_6.cells
  obtain ⟨_, _, _⟩ := hX2_6.frees
  obtain ⟨_, _, _⟩ := hX2_6.cells
  obtain ⟨_, _, _, _⟩ := hX3_6.frees
  obtain ⟨_, _, _, _⟩ := hX3_6.cells
  obtain ⟨_, _, _⟩ := hX4_6.frees
  obtain ⟨_, _, _⟩ := hX4_6.cells
  go_upto_region 16 with fail
  have hX4_7 := (at3_set2 (at3_set0 hX4_6 (.int .i64 3)) (.int .i64 0))
  have ho7 := (((Only.refl g4 w6).setCell 0 (.int .i64 3)).setCell 2 (.int .i64 0))
  have hX0_7 := hX0_6.only hne04 ho7
  have hX1_7 := hX1_6.only hne14 ho7
  have hX2_7 := hX2_6.only hne24 ho7
  have hX3_7 := hX3_6.only hne34 ho7
  have hb7 := hb6.trans (ho7.below hle4)
  generalize ((w6.setCell ⟨g4, 0, none⟩ (.int .i64 3)).setCell ⟨g4, 2, none⟩ (.int .i64 0)) = w7 at hX0_7 hX1_7 hX2_7 hX3_7 hX4_7 hb7 ⊢
  clear ho7
  obtain ⟨_, _, _⟩ := hX0_7.frees
  obtain ⟨_, _, _⟩ := hX0_7.cells
  obtain ⟨_, _, _, _⟩ := hX1_7.frees
  obtain ⟨_, _, _, _⟩ := hX1_7.cells
  obtain ⟨_, _, _⟩ := hX2_7.frees
  obtain ⟨_, _, _⟩ := hX2_7.cells
  obtain ⟨_, _, _, _⟩ := hX3_7.frees
  obtain ⟨_, _, _, _⟩ := hX3_7.cells
  obtain ⟨_, _, _⟩ := hX4_7.frees
  obtain ⟨_, _, _⟩ := hX4_7.cells
  go_wp2_with fail
  refine (HN.out _).mono ?_
  rintro e w8 ⟨rfl, hk8⟩
  subst hk8
  go_upto_region 17 with fail
  have hX4_9 := (at3_set1 hX4_7 (.int .i64 nw))
  have ho9 := ((Only.refl g4 w8).setCell 1 (.int .i64 nw))
  have hX0_9 := hX0_7.only hne04 ho9
  have hX1_9 := hX1_7.only hne14 ho9
  have hX2_9 := hX2_7.only hne24 ho9
  have hX3_9 := hX3_7.only hne34 ho9
  have hb9 := hb7.trans (ho9.below hle4)
  generalize (w8.setCell ⟨g4, 1, none⟩ (.int .i64 nw)) = w9 at hX0_9 hX1_9 hX2_9 hX3_9 hX4_9 hb9 ⊢
  clear ho9
  obtain ⟨_, _, _⟩ := hX0_9.frees
  obtain ⟨_, _, _⟩ := hX0_9.cells
  obtain ⟨_, _, _, _⟩ := hX1_9.frees
  obtain ⟨_, _, _, _⟩ := hX1_9.cells
  obtain ⟨_, _, _⟩ := hX2_9.frees
  obtain ⟨_, _, _⟩ := hX2_9.cells
  obtain ⟨_, _, _, _⟩ := hX3_9.frees
  obtain ⟨_, _, _, _⟩ := hX3_9.cells
  obtain ⟨_, _, _⟩ := hX4_9.frees
  obtain ⟨_, _, _⟩ := hX4_9.cells
  go_region_held3 (fun W => W.cell? ⟨g4, 0, none⟩ = some (.int .i64 3) ∧ W.cell? ⟨g4, 1, none⟩ = some (.int .i64 nw) ∧ W.cell? ⟨g4, 2, none⟩ = some (.int .i64 0)) (first | (go_keep; done) | with_reducible exact hX4_9.drew.cells) (fail)
  all_goals
    have hZ := at3_store hX2_9 (.int .i64 3) (.int .i64 nw) (.int .i64 0)
    have hbz := hb9.trans ((store3_only w9 g2 (.int .i64 3) (.int .i64 nw) (.int .i64 0)).below hle2)
    obtain ⟨d0, d1, d2⟩ := hZ.cells
    go_wp2_with fail
    refine bodyPost_ret (v := .tuple #[.agg #[.int .i64 3, .int .i64 nw, .int .i64 0], .bool false]) (by simp [results, Tryd.results9, go_sem, d0, d1, d2]) rfl ⟨rfl, by rw [HG.out]; exact hbz.drew⟩
set_option maxHeartbeats 1600000 in
theorem refRep_end (l : LL) (c : LC) (f now n h1 k1 : Int) (c1 : LC) (nw : Int) (q : Bool) (hq : (3 != n) = q) (hl : l.cnt = ⟨n, h1, k1⟩) (hc : c.clip = c1) (hw : am 0 now 1099511627776 = nw) (hf : c1.lo < f) (hg : c1.hi < f) (h3 : n ≠ 3) (hk : c1.st - 1 ≤ k1) (w : World) : Calls Tryd.prog 9 #[l.val, c.val, .int .i64 f, .int .i64 now] w fun e w' => e = .returned (.tuple #[.agg #[.int .i64 3, .int .i64 nw, .int .i64 0], .bool q]) ∧ Below w.heap.size w w' := by
  have HCl := Lib.hid (fun W => refLfClip_any c W)
  have HCn := Lib.hid (fun W => known_any l W)
  have ho := l.cnt_ok
  have hco := c.clip_ok
  rw [hl] at HCn ho
  rw [hc] at HCl hco
  have HN : Hid (∀ W : World, Calls Tryd.prog 29 #[.int .i64 now] W fun e w' => e = .returned (.int .i64 nw) ∧ w' = W) := Lib.hid (by rw [← hw]; exact fun W => refLfTick_q now W)
  have hn0 : 0 ≤ nw := by rw [← hw]; exact am_lo _ _ _ (by omega)
  have hn1 : nw ≤ 1099511627776 := by rw [← hw]; exact am_hi _ _ _
  clear hl hc hw
  obtain ⟨s, h, k⟩ := l
  obtain ⟨T, lo, hi, st⟩ := c
  obtain ⟨T1, lo1, hi1, st1⟩ := c1
  obtain ⟨o1, o2, o3, o4, o5⟩ := ho
  obtain ⟨q1, q2, q3, q4, q5, q6, q7⟩ := hco
  simp only [LL.val, LC.val] at *
  have hb3 : (n == 3) = false := by simp [h3]
  have hwr : IntKind.i64.wrap (st1 - 1) = st1 - 1 := IntWalk.i64_in _ ⟨by omega, by omega⟩
  have hX0 : At3 25 (((w.alloc (.cells #[.int .i64 s, .int .i64 h, .int .i64 k] 25)).alloc (.cells #[.int .i64 T, .int .i64 lo, .int .i64 hi, .int .i64 st] 23)).alloc (.cells #[.int .i64 0, .int .i64 0, .int .i64 0] 25)) w.heap.size (.int .i64 s) (.int .i64 h) (.int .i64 k) := ((at3_new 25 _ _ (.int .i64 s) (.int .i64 h) (.int .i64 k) rfl).alloc _).alloc _
  have hX1 : At4 23 (((w.alloc (.cells #[.int .i64 s, .int .i64 h, .int .i64 k] 25)).alloc (.cells #[.int .i64 T, .int .i64 lo, .int .i64 hi, .int .i64 st] 23)).alloc (.cells #[.int .i64 0, .int .i64 0, .int .i64 0] 25)) (w.heap.size + 1) (.int .i64 T) (.int .i64 lo) (.int .i64 hi) (.int .i64 st) := (at4_new 23 _ _ (.int .i64 T) (.int .i64 lo) (.int .i64 hi) (.int .i64 st) (by simp)).alloc _
  have hX2 : At3 25 (((w.alloc (.cells #[.int .i64 s, .int .i64 h, .int .i64 k] 25)).alloc (.cells #[.int .i64 T, .int .i64 lo, .int .i64 hi, .int .i64 st] 23)).alloc (.cells #[.int .i64 0, .int .i64 0, .int .i64 0] 25)) (w.heap.size + 1 + 1) (.int .i64 0) (.int .i64 0) (.int .i64 0) := at3_new 25 _ _ (.int .i64 0) (.int .i64 0) (.int .i64 0) (by simp)
  have hb : Below w.heap.size w (((w.alloc (.cells #[.int .i64 s, .int .i64 h, .int .i64 k] 25)).alloc (.cells #[.int .i64 T, .int .i64 lo, .int .i64 hi, .int .i64 st] 23)).alloc (.cells #[.int .i64 0, .int .i64 0, .int .i64 0] 25)) := (((Below.refl _ _).alloc (Nat.le_refl _) _).alloc (by simp) _).alloc (by simp; omega) _
  go_enter Tryd.func9, Tryd.ntmps9
  go_upto_region 1 with fail
  generalize (((w.alloc (.cells #[.int .i64 s, .int .i64 h, .int .i64 k] 25)).alloc (.cells #[.int .i64 T, .int .i64 lo, .int .i64 hi, .int .i64 st] 23)).alloc (.cells #[.int .i64 0, .int .i64 0, .int .i64 0] 25)) = w2 at hX0 hX1 hX2 hb ⊢
  generalize hg2 : w.heap.size + 1 + 1 = g2 at hX2 ⊢
  generalize hg1 : w.heap.size + 1 = g1 at hX1 hg2 ⊢
  generalize hg0 : w.heap.size = g0 at hX0 hb hg1 ⊢
  have hne01 : g0 ≠ g1 := by omega
  have hne02 : g0 ≠ g2 := by omega
  have hle1 : g0 ≤ g1 := by omega
  have hne10 : g1 ≠ g0 := by omega
  have hne12 : g1 ≠ g2 := by omega
  have hle2 : g0 ≤ g2 := by omega
  have hne20 : g2 ≠ g0 := by omega
  have hne21 : g2 ≠ g1 := by omega
  have HG := Lib.hid hg0
  clear hg0 hg1 hg2
  obtain ⟨_, _, _⟩ := hX0.frees
  obtain ⟨_, _, _⟩ := hX0.cells
  obtain ⟨_, _, _, _⟩ := hX1.frees
  obtain ⟨_, _, _, _⟩ := hX1.cells
  obtain ⟨_, _, _⟩ := hX2.frees
  obtain ⟨_, _, _⟩ := hX2.cells
  go_wp2_with fail
  refine (HCl.out _).mono ?_
  rintro e w3 ⟨rfl, hk3⟩
  have hX0_3 := hX0.later hk3
  have hX1_3 := hX1.later hk3
  have hX2_3 := hX2.later hk3
  have hb3 := hb.trans (hk3.mono (by have := hX0.lt; omega))
  obtain ⟨_, _, _⟩ := hX0_3.frees
  obtain ⟨_, _, _⟩ := hX0_3.cells
  obtain ⟨_, _, _, _⟩ := hX1_3.frees
  obtain ⟨_, _, _, _⟩ := hX1_3.cells
  obtain ⟨_, _, _⟩ := hX2_3.frees
  obtain ⟨_, _, _⟩ := hX2_3.cells
  have hX0_4 := hX0_3.alloc (.cells #[.int .i64 T1, .int .i64 lo1, .int .i64 hi1, .int .i64 st1] 23)
  have hX1_4 := hX1_3.alloc (.cells #[.int .i64 T1, .int .i64 lo1, .int .i64 hi1, .int .i64 st1] 23)
  have hX2_4 := hX2_3.alloc (.cells #[.int .i64 T1, .int .i64 lo1, .int .i64 hi1, .int .i64 st1] 23)
  have hb4 := hb3.alloc (by have := hX0_3.lt; omega) (.cells #[.int .i64 T1, .int .i64 lo1, .int .i64 hi1, .int .i64 st1] 23)
  have hX3_4 := at4_new 23 w3 _ (.int .i64 T1) (.int .i64 lo1) (.int .i64 hi1) (.int .i64 st1) rfl
  have lt0_4 := hX0_3.lt
  have lt1_4 := hX1_3.lt
  have lt2_4 := hX2_3.lt
  go_upto_region 2 with fail
  generalize (w3.alloc (.cells #[.int .i64 T1, .int .i64 lo1, .int .i64 hi1, .int .i64 st1] 23)) = w4 at hX0_4 hX1_4 hX2_4 hX3_4 hb4 ⊢
  generalize w3.heap.size = g3 at hX3_4 lt0_4 lt1_4 lt2_4 ⊢
  have hne30 : g3 ≠ g0 := by omega
  have hne03 : g0 ≠ g3 := by omega
  have hne31 : g3 ≠ g1 := by omega
  have hne13 : g1 ≠ g3 := by omega
  have hne32 : g3 ≠ g2 := by omega
  have hne23 : g2 ≠ g3 := by omega
  have hle3 : g0 ≤ g3 := by omega
  clear lt0_4 lt1_4 lt2_4
  obtain ⟨_, _, _⟩ := hX0_4.frees
  obtain ⟨_, _, _⟩ := hX0_4.cells
  obtain ⟨_, _, _, _⟩ := hX1_4.frees
  obtain ⟨_, _, _, _⟩ := hX1_4.cells
  obtain ⟨_, _, _⟩ := hX2_4.frees
  obtain ⟨_, _, _⟩ := hX2_4.cells
  obtain ⟨_, _, _, _⟩ := hX3_4.frees
  obtain ⟨_, _, _, _⟩ := hX3_4.cells
  go_wp2_with fail
  refine (HCn.out _).mono ?_
  rintro e w5 ⟨rfl, hk5⟩
  have hX0_5 := hX0_4.later hk5
  have hX1_5 := hX1_4.later hk5
  have hX2_5 := hX2_4.later hk5
  have hX3_5 := hX3_4.later hk5
  have hb5 := hb4.trans (hk5.mono (by have := hX0_4.lt; omega))
  obtain ⟨_, _, _⟩ := hX0_5.frees
  obtain ⟨_, _, _⟩ := hX0_5.cells
  obtain ⟨_, _, _, _⟩ := hX1_5.frees
  obtain ⟨_, _, _, _⟩ := hX1_5.cells
  obtain ⟨_, _, _⟩ := hX2_5.frees
  obtain ⟨_, _, _⟩ := hX2_5.cells
  obtain ⟨_, _, _, _⟩ := hX3_5.frees
  obtain ⟨_, _, _, _⟩ := hX3_5.cells
  have hX0_6 := hX0_5.alloc (.cells #[.int .i64 n, .int .i64 h1, .int .i64 k1] 25)
  have hX1_6 := hX1_5.alloc (.cells #[.int .i64 n, .int .i64 h1, .int .i64 k1] 25)
  have hX2_6 := hX2_5.alloc (.cells #[.int .i64 n, .int .i64 h1, .int .i64 k1] 25)
  have hX3_6 := hX3_5.alloc (.cells #[.int .i64 n, .int .i64 h1, .int .i64 k1] 25)
  have hb6 := hb5.alloc (by have := hX0_5.lt; omega) (.cells #[.int .i64 n, .int .i64 h1, .int .i64 k1] 25)
  have hX4_6 := at3_new 25 w5 _ (.int .i64 n) (.int .i64 h1) (.int .i64 k1) rfl
  have lt0_6 := hX0_5.lt
  have lt1_6 := hX1_5.lt
  have lt2_6 := hX2_5.lt
  have lt3_6 := hX3_5.lt
  go_upto_region 3 with fail
  generalize (w5.alloc (.cells #[.int .i64 n, .int .i64 h1, .int .i64 k1] 25)) = w6 at hX0_6 hX1_6 hX2_6 hX3_6 hX4_6 hb6 ⊢
  generalize w5.heap.size = g4 at hX4_6 lt0_6 lt1_6 lt2_6 lt3_6 ⊢
  have hne40 : g4 ≠ g0 := by omega
  have hne04 : g0 ≠ g4 := by omega
  have hne41 : g4 ≠ g1 := by omega
  have hne14 : g1 ≠ g4 := by omega
  have hne42 : g4 ≠ g2 := by omega
  have hne24 : g2 ≠ g4 := by omega
  have hne43 : g4 ≠ g3 := by omega
  have hne34 : g3 ≠ g4 := by omega
  have hle4 : g0 ≤ g4 := by omega
  clear lt0_6 lt1_6 lt2_6 lt3_6
  obtain ⟨_, _, _⟩ := hX0_6.frees
  obtain ⟨_, _, _⟩ := hX0_6.cells
  obtain ⟨_, _, _, _⟩ := hX1_6.frees
  obtain ⟨_, _, _, _⟩ := hX1_6.cells
  obtain ⟨_, _, _⟩ := hX2_6.frees
  obtain ⟨_, _, _⟩ := hX2_6.cells
  obtain ⟨_, _, _, _⟩ := hX3_6.frees
  obtain ⟨_, _, _, _⟩ := hX3_6.cells
  obtain ⟨_, _, _⟩ := hX4_6.frees
  obtain ⟨_, _, _⟩ := hX4_6.cells
  go_upto_region 16 with fail
  have hX4_7 := (at3_set2 (at3_set0 hX4_6 (.int .i64 3)) (.int .i64 0))
  have ho7 := (((Only.refl g4 w6).setCell 0 (.int .i64 3)).setCell 2 (.int .i64 0))
  have hX0_7 := hX0_6.only hne04 ho7
  have hX1_7 := hX1_6.only hne14 ho7
  have hX2_7 := hX2_6.only hne24 ho7
  have hX3_7 := hX3_6.only hne34 ho7
  have hb7 := hb6.trans (ho7.below hle4)
  generalize ((w6.setCell ⟨g4, 0, none⟩ (.int .i64 3)).setCell ⟨g4, 2, none⟩ (.int .i64 0)) = w7 at hX0_7 hX1_7 hX2_7 hX3_7 hX4_7 hb7 ⊢
  clear ho7
  obtain ⟨_, _, _⟩ := hX0_7.frees
  obtain ⟨_, _, _⟩ := hX0_7.cells
  obtain ⟨_, _, _, _⟩ := hX1_7.frees
  obtain ⟨_, _, _, _⟩ := hX1_7.cells
  obtain ⟨_, _, _⟩ := hX2_7.frees
  obtain ⟨_, _, _⟩ := hX2_7.cells
  obtain ⟨_, _, _, _⟩ := hX3_7.frees
  obtain ⟨_, _, _, _⟩ := hX3_7.cells
  obtain ⟨_, _, _⟩ := hX4_7.frees
  obtain ⟨_, _, _⟩ := hX4_7.cells
  go_wp2_with fail
  refine (HN.out _).mono ?_
  rintro e w8 ⟨rfl, hk8⟩
  subst hk8
  go_upto_region 17 with fail
  have hX4_9 := (at3_set1 hX4_7 (.int .i64 nw))
  have ho9 := ((Only.refl g4 w8).setCell 1 (.int .i64 nw))
  have hX0_9 := hX0_7.only hne04 ho9
  have hX1_9 := hX1_7.only hne14 ho9
  have hX2_9 := hX2_7.only hne24 ho9
  have hX3_9 := hX3_7.only hne34 ho9
  have hb9 := hb7.trans (ho9.below hle4)
  generalize (w8.setCell ⟨g4, 1, none⟩ (.int .i64 nw)) = w9 at hX0_9 hX1_9 hX2_9 hX3_9 hX4_9 hb9 ⊢
  clear ho9
  obtain ⟨_, _, _⟩ := hX0_9.frees
  obtain ⟨_, _, _⟩ := hX0_9.cells
  obtain ⟨_, _, _, _⟩ := hX1_9.frees
  obtain ⟨_, _, _, _⟩ := hX1_9.cells
  obtain ⟨_, _, _⟩ := hX2_9.frees
  obtain ⟨_, _, _⟩ := hX2_9.cells
  obtain ⟨_, _, _, _⟩ := hX3_9.frees
  obtain ⟨_, _, _, _⟩ := hX3_9.cells
  obtain ⟨_, _, _⟩ := hX4_9.frees
  obtain ⟨_, _, _⟩ := hX4_9.cells
  go_region_held3 (fun W => W.cell? ⟨g4, 0, none⟩ = some (.int .i64 3) ∧ W.cell? ⟨g4, 1, none⟩ = some (.int .i64 nw) ∧ W.cell? ⟨g4, 2, none⟩ = some (.int .i64 0)) (first | (go_keep; done) | with_reducible exact hX4_9.drew.cells) (fail)
  all_goals
    have hZ := at3_store hX2_9 (.int .i64 3) (.int .i64 nw) (.int .i64 0)
    have hbz := hb9.trans ((store3_only w9 g2 (.int .i64 3) (.int .i64 nw) (.int .i64 0)).below hle2)
    obtain ⟨d0, d1, d2⟩ := hZ.cells
    go_wp2_with fail
    refine bodyPost_ret (v := .tuple #[.agg #[.int .i64 3, .int .i64 nw, .int .i64 0], .bool q]) (by simp [results, Tryd.results9, go_sem, d0, d1, d2]) rfl ⟨rfl, by rw [HG.out]; exact hbz.drew⟩
set_option maxHeartbeats 1600000 in
theorem refRep_one (l : LL) (c : LC) (f now n h1 k1 : Int) (c1 : LC) (nw : Int) (hl : l.cnt = ⟨n, h1, k1⟩) (hc : c.clip = c1) (hw : am 0 now 1099511627776 = nw) (hf : c1.lo < f) (hg : c1.hi < f) (h3 : n = 1) (hk : k1 < c1.st - 1) (w : World) : Calls Tryd.prog 9 #[l.val, c.val, .int .i64 f, .int .i64 now] w fun e w' => e = .returned (.tuple #[.agg #[.int .i64 2, .int .i64 nw, .int .i64 (k1 + 1)], .bool true]) ∧ Below w.heap.size w w' := by
  have HCl := Lib.hid (fun W => refLfClip_any c W)
  have HCn := Lib.hid (fun W => known_any l W)
  have ho := l.cnt_ok
  have hco := c.clip_ok
  rw [hl] at HCn ho
  rw [hc] at HCl hco
  have HN : Hid (∀ W : World, Calls Tryd.prog 29 #[.int .i64 now] W fun e w' => e = .returned (.int .i64 nw) ∧ w' = W) := Lib.hid (by rw [← hw]; exact fun W => refLfTick_q now W)
  have hn0 : 0 ≤ nw := by rw [← hw]; exact am_lo _ _ _ (by omega)
  have hn1 : nw ≤ 1099511627776 := by rw [← hw]; exact am_hi _ _ _
  clear hl hc hw
  obtain ⟨s, h, k⟩ := l
  obtain ⟨T, lo, hi, st⟩ := c
  obtain ⟨T1, lo1, hi1, st1⟩ := c1
  obtain ⟨o1, o2, o3, o4, o5⟩ := ho
  obtain ⟨q1, q2, q3, q4, q5, q6, q7⟩ := hco
  simp only [LL.val, LC.val] at *
  subst h3
  have hwr : IntKind.i64.wrap (st1 - 1) = st1 - 1 := IntWalk.i64_in _ ⟨by omega, by omega⟩
  have hwk : IntKind.i64.wrap (k1 + 1) = k1 + 1 := IntWalk.i64_in _ ⟨by omega, by omega⟩
  have hX0 : At3 25 (((w.alloc (.cells #[.int .i64 s, .int .i64 h, .int .i64 k] 25)).alloc (.cells #[.int .i64 T, .int .i64 lo, .int .i64 hi, .int .i64 st] 23)).alloc (.cells #[.int .i64 0, .int .i64 0, .int .i64 0] 25)) w.heap.size (.int .i64 s) (.int .i64 h) (.int .i64 k) := ((at3_new 25 _ _ (.int .i64 s) (.int .i64 h) (.int .i64 k) rfl).alloc _).alloc _
  have hX1 : At4 23 (((w.alloc (.cells #[.int .i64 s, .int .i64 h, .int .i64 k] 25)).alloc (.cells #[.int .i64 T, .int .i64 lo, .int .i64 hi, .int .i64 st] 23)).alloc (.cells #[.int .i64 0, .int .i64 0, .int .i64 0] 25)) (w.heap.size + 1) (.int .i64 T) (.int .i64 lo) (.int .i64 hi) (.int .i64 st) := (at4_new 23 _ _ (.int .i64 T) (.int .i64 lo) (.int .i64 hi) (.int .i64 st) (by simp)).alloc _
  have hX2 : At3 25 (((w.alloc (.cells #[.int .i64 s, .int .i64 h, .int .i64 k] 25)).alloc (.cells #[.int .i64 T, .int .i64 lo, .int .i64 hi, .int .i64 st] 23)).alloc (.cells #[.int .i64 0, .int .i64 0, .int .i64 0] 25)) (w.heap.size + 1 + 1) (.int .i64 0) (.int .i64 0) (.int .i64 0) := at3_new 25 _ _ (.int .i64 0) (.int .i64 0) (.int .i64 0) (by simp)
  have hb : Below w.heap.size w (((w.alloc (.cells #[.int .i64 s, .int .i64 h, .int .i64 k] 25)).alloc (.cells #[.int .i64 T, .int .i64 lo, .int .i64 hi, .int .i64 st] 23)).alloc (.cells #[.int .i64 0, .int .i64 0, .int .i64 0] 25)) := (((Below.refl _ _).alloc (Nat.le_refl _) _).alloc (by simp) _).alloc (by simp; omega) _
  go_enter Tryd.func9, Tryd.ntmps9
  go_upto_region 1 with fail
  generalize (((w.alloc (.cells #[.int .i64 s, .int .i64 h, .int .i64 k] 25)).alloc (.cells #[.int .i64 T, .int .i64 lo, .int .i64 hi, .int .i64 st] 23)).alloc (.cells #[.int .i64 0, .int .i64 0, .int .i64 0] 25)) = w2 at hX0 hX1 hX2 hb ⊢
  generalize hg2 : w.heap.size + 1 + 1 = g2 at hX2 ⊢
  generalize hg1 : w.heap.size + 1 = g1 at hX1 hg2 ⊢
  generalize hg0 : w.heap.size = g0 at hX0 hb hg1 ⊢
  have hne01 : g0 ≠ g1 := by omega
  have hne02 : g0 ≠ g2 := by omega
  have hle1 : g0 ≤ g1 := by omega
  have hne10 : g1 ≠ g0 := by omega
  have hne12 : g1 ≠ g2 := by omega
  have hle2 : g0 ≤ g2 := by omega
  have hne20 : g2 ≠ g0 := by omega
  have hne21 : g2 ≠ g1 := by omega
  have HG := Lib.hid hg0
  clear hg0 hg1 hg2
  obtain ⟨_, _, _⟩ := hX0.frees
  obtain ⟨_, _, _⟩ := hX0.cells
  obtain ⟨_, _, _, _⟩ := hX1.frees
  obtain ⟨_, _, _, _⟩ := hX1.cells
  obtain ⟨_, _, _⟩ := hX2.frees
  obtain ⟨_, _, _⟩ := hX2.cells
  go_wp2_with fail
  refine (HCl.out _).mono ?_
  rintro e w3 ⟨rfl, hk3⟩
  have hX0_3 := hX0.later hk3
  have hX1_3 := hX1.later hk3
  have hX2_3 := hX2.later hk3
  have hb3 := hb.trans (hk3.mono (by have := hX0.lt; omega))
  obtain ⟨_, _, _⟩ := hX0_3.frees
  obtain ⟨_, _, _⟩ := hX0_3.cells
  obtain ⟨_, _, _, _⟩ := hX1_3.frees
  obtain ⟨_, _, _, _⟩ := hX1_3.cells
  obtain ⟨_, _, _⟩ := hX2_3.frees
  obtain ⟨_, _, _⟩ := hX2_3.cells
  have hX0_4 := hX0_3.alloc (.cells #[.int .i64 T1, .int .i64 lo1, .int .i64 hi1, .int .i64 st1] 23)
  have hX1_4 := hX1_3.alloc (.cells #[.int .i64 T1, .int .i64 lo1, .int .i64 hi1, .int .i64 st1] 23)
  have hX2_4 := hX2_3.alloc (.cells #[.int .i64 T1, .int .i64 lo1, .int .i64 hi1, .int .i64 st1] 23)
  have hb4 := hb3.alloc (by have := hX0_3.lt; omega) (.cells #[.int .i64 T1, .int .i64 lo1, .int .i64 hi1, .int .i64 st1] 23)
  have hX3_4 := at4_new 23 w3 _ (.int .i64 T1) (.int .i64 lo1) (.int .i64 hi1) (.int .i64 st1) rfl
  have lt0_4 := hX0_3.lt
  have lt1_4 := hX1_3.lt
  have lt2_4 := hX2_3.lt
  go_upto_region 2 with fail
  generalize (w3.alloc (.cells #[.int .i64 T1, .int .i64 lo1, .int .i64 hi1, .int .i64 st1] 23)) = w4 at hX0_4 hX1_4 hX2_4 hX3_4 hb4 ⊢
  generalize w3.heap.size = g3 at hX3_4 lt0_4 lt1_4 lt2_4 ⊢
  have hne30 : g3 ≠ g0 := by omega
  have hne03 : g0 ≠ g3 := by omega
  have hne31 : g3 ≠ g1 := by omega
  have hne13 : g1 ≠ g3 := by omega
  have hne32 : g3 ≠ g2 := by omega
  have hne23 : g2 ≠ g3 := by omega
  have hle3 : g0 ≤ g3 := by omega
  clear lt0_4 lt1_4 lt2_4
  obtain ⟨_, _, _⟩ := hX0_4.frees
  obtain ⟨_, _, _⟩ := hX0_4.cells
  obtain ⟨_, _, _, _⟩ := hX1_4.frees
  obtain ⟨_, _, _, _⟩ := hX1_4.cells
  obtain ⟨_, _, _⟩ := hX2_4.frees
  obtain ⟨_, _, _⟩ := hX2_4.cells
  obtain ⟨_, _, _, _⟩ := hX3_4.frees
  obtain ⟨_, _, _, _⟩ := hX3_4.cells
  go_wp2_with fail
  refine (HCn.out _).mono ?_
  rintro e w5 ⟨rfl, hk5⟩
  have hX0_5 := hX0_4.later hk5
  have hX1_5 := hX1_4.later hk5
  have hX2_5 := hX2_4.later hk5
  have hX3_5 := hX3_4.later hk5
  have hb5 := hb4.trans (hk5.mono (by have := hX0_4.lt; omega))
  obtain ⟨_, _, _⟩ := hX0_5.frees
  obtain ⟨_, _, _⟩ := hX0_5.cells
  obtain ⟨_, _, _, _⟩ := hX1_5.frees
  obtain ⟨_, _, _, _⟩ := hX1_5.cells
  obtain ⟨_, _, _⟩ := hX2_5.frees
  obtain ⟨_, _, _⟩ := hX2_5.cells
  obtain ⟨_, _, _, _⟩ := hX3_5.frees
  obtain ⟨_, _, _, _⟩ := hX3_5.cells
  have hX0_6 := hX0_5.alloc (.cells #[.int .i64 1, .int .i64 h1, .int .i64 k1] 25)
  have hX1_6 := hX1_5.alloc (.cells #[.int .i64 1, .int .i64 h1, .int .i64 k1] 25)
  have hX2_6 := hX2_5.alloc (.cells #[.int .i64 1, .int .i64 h1, .int .i64 k1] 25)
  have hX3_6 := hX3_5.alloc (.cells #[.int .i64 1, .int .i64 h1, .int .i64 k1] 25)
  have hb6 := hb5.alloc (by have := hX0_5.lt; omega) (.cells #[.int .i64 1, .int .i64 h1, .int .i64 k1] 25)
  have hX4_6 := at3_new 25 w5 _ (.int .i64 1) (.int .i64 h1) (.int .i64 k1) rfl
  have lt0_6 := hX0_5.lt
  have lt1_6 := hX1_5.lt
  have lt2_6 := hX2_5.lt
  have lt3_6 := hX3_5.lt
  go_upto_region 3 with fail
  generalize (w5.alloc (.cells #[.int .i64 1, .int .i64 h1, .int .i64 k1] 25)) = w6 at hX0_6 hX1_6 hX2_6 hX3_6 hX4_6 hb6 ⊢
  generalize w5.heap.size = g4 at hX4_6 lt0_6 lt1_6 lt2_6 lt3_6 ⊢
  have hne40 : g4 ≠ g0 := by omega
  have hne04 : g0 ≠ g4 := by omega
  have hne41 : g4 ≠ g1 := by omega
  have hne14 : g1 ≠ g4 := by omega
  have hne42 : g4 ≠ g2 := by omega
  have hne24 : g2 ≠ g4 := by omega
  have hne43 : g4 ≠ g3 := by omega
  have hne34 : g3 ≠ g4 := by omega
  have hle4 : g0 ≤ g4 := by omega
  clear lt0_6 lt1_6 lt2_6 lt3_6
  obtain ⟨_, _, _⟩ := hX0_6.frees
  obtain ⟨_, _, _⟩ := hX0_6.cells
  obtain ⟨_, _, _, _⟩ := hX1_6.frees
  obtain ⟨_, _, _, _⟩ := hX1_6.cells
  obtain ⟨_, _, _⟩ := hX2_6.frees
  obtain ⟨_, _, _⟩ := hX2_6.cells
  obtain ⟨_, _, _, _⟩ := hX3_6.frees
  obtain ⟨_, _, _, _⟩ := hX3_6.cells
  obtain ⟨_, _, _⟩ := hX4_6.frees
  obtain ⟨_, _, _⟩ := hX4_6.cells
  go_upto_region 16 with fail
  have hX4_7 := (at3_set0 (at3_set2 hX4_6 (.int .i64 (k1 + 1))) (.int .i64 2))
  have ho7 := (((Only.refl g4 w6).setCell 2 (.int .i64 (k1 + 1))).setCell 0 (.int .i64 2))
  have hX0_7 := hX0_6.only hne04 ho7
  have hX1_7 := hX1_6.only hne14 ho7
  have hX2_7 := hX2_6.only hne24 ho7
  have hX3_7 := hX3_6.only hne34 ho7
  have hb7 := hb6.trans (ho7.below hle4)
  generalize ((w6.setCell ⟨g4, 2, none⟩ (.int .i64 (k1 + 1))).setCell ⟨g4, 0, none⟩ (.int .i64 2)) = w7 at hX0_7 hX1_7 hX2_7 hX3_7 hX4_7 hb7 ⊢
  clear ho7
  obtain ⟨_, _, _⟩ := hX0_7.frees
  obtain ⟨_, _, _⟩ := hX0_7.cells
  obtain ⟨_, _, _, _⟩ := hX1_7.frees
  obtain ⟨_, _, _, _⟩ := hX1_7.cells
  obtain ⟨_, _, _⟩ := hX2_7.frees
  obtain ⟨_, _, _⟩ := hX2_7.cells
  obtain ⟨_, _, _, _⟩ := hX3_7.frees
  obtain ⟨_, _, _, _⟩ := hX3_7.cells
  obtain ⟨_, _, _⟩ := hX4_7.frees
  obtain ⟨_, _, _⟩ := hX4_7.cells
  go_wp2_with fail
  refine (HN.out _).mono ?_
  rintro e w8 ⟨rfl, hk8⟩
  subst hk8
  go_upto_region 17 with fail
  have hX4_9 := (at3_set1 hX4_7 (.int .i64 nw))
  have ho9 := ((Only.refl g4 w8).setCell 1 (.int .i64 nw))
  have hX0_9 := hX0_7.only hne04 ho9
  have hX1_9 := hX1_7.only hne14 ho9
  have hX2_9 := hX2_7.only hne24 ho9
  have hX3_9 := hX3_7.only hne34 ho9
  have hb9 := hb7.trans (ho9.below hle4)
  generalize (w8.setCell ⟨g4, 1, none⟩ (.int .i64 nw)) = w9 at hX0_9 hX1_9 hX2_9 hX3_9 hX4_9 hb9 ⊢
  clear ho9
  obtain ⟨_, _, _⟩ := hX0_9.frees
  obtain ⟨_, _, _⟩ := hX0_9.cells
  obtain ⟨_, _, _, _⟩ := hX1_9.frees
  obtain ⟨_, _, _, _⟩ := hX1_9.cells
  obtain ⟨_, _, _⟩ := hX2_9.frees
  obtain ⟨_, _, _⟩ := hX2_9.cells
  obtain ⟨_, _, _, _⟩ := hX3_9.frees
  obtain ⟨_, _, _, _⟩ := hX3_9.cells
  obtain ⟨_, _, _⟩ := hX4_9.frees
  obtain ⟨_, _, _⟩ := hX4_9.cells
  go_region_held3 (fun W => W.cell? ⟨g4, 0, none⟩ = some (.int .i64 2) ∧ W.cell? ⟨g4, 1, none⟩ = some (.int .i64 nw) ∧ W.cell? ⟨g4, 2, none⟩ = some (.int .i64 (k1 + 1))) (first | (go_keep; done) | with_reducible exact hX4_9.drew.cells) (fail)
  all_goals
    have hZ := at3_store hX2_9 (.int .i64 2) (.int .i64 nw) (.int .i64 (k1 + 1))
    have hbz := hb9.trans ((store3_only w9 g2 (.int .i64 2) (.int .i64 nw) (.int .i64 (k1 + 1))).below hle2)
    obtain ⟨d0, d1, d2⟩ := hZ.cells
    go_wp2_with fail
    refine bodyPost_ret (v := .tuple #[.agg #[.int .i64 2, .int .i64 nw, .int .i64 (k1 + 1)], .bool true]) (by simp [results, Tryd.results9, go_sem, d0, d1, d2]) rfl ⟨rfl, by rw [HG.out]; exact hbz.drew⟩
set_option maxHeartbeats 1600000 in
theorem refRep_more (l : LL) (c : LC) (f now n h1 k1 : Int) (c1 : LC) (nw : Int) (hl : l.cnt = ⟨n, h1, k1⟩) (hc : c.clip = c1) (hw : am 0 now 1099511627776 = nw) (hf : c1.lo < f) (hg : c1.hi < f) (h3 : n ≠ 3) (h2 : n ≠ 1) (hk : k1 < c1.st - 1) (w : World) : Calls Tryd.prog 9 #[l.val, c.val, .int .i64 f, .int .i64 now] w fun e w' => e = .returned (.tuple #[.agg #[.int .i64 n, .int .i64 nw, .int .i64 (k1 + 1)], .bool false]) ∧ Below w.heap.size w w' := by
  have HCl := Lib.hid (fun W => refLfClip_any c W)
  have HCn := Lib.hid (fun W => known_any l W)
  have ho := l.cnt_ok
  have hco := c.clip_ok
  rw [hl] at HCn ho
  rw [hc] at HCl hco
  have HN : Hid (∀ W : World, Calls Tryd.prog 29 #[.int .i64 now] W fun e w' => e = .returned (.int .i64 nw) ∧ w' = W) := Lib.hid (by rw [← hw]; exact fun W => refLfTick_q now W)
  have hn0 : 0 ≤ nw := by rw [← hw]; exact am_lo _ _ _ (by omega)
  have hn1 : nw ≤ 1099511627776 := by rw [← hw]; exact am_hi _ _ _
  clear hl hc hw
  obtain ⟨s, h, k⟩ := l
  obtain ⟨T, lo, hi, st⟩ := c
  obtain ⟨T1, lo1, hi1, st1⟩ := c1
  obtain ⟨o1, o2, o3, o4, o5⟩ := ho
  obtain ⟨q1, q2, q3, q4, q5, q6, q7⟩ := hco
  simp only [LL.val, LC.val] at *
  have hb3 : (n == 3) = false := by simp [h3]
  have hb2 : (n == 1) = false := by simp [h2]
  have hwr : IntKind.i64.wrap (st1 - 1) = st1 - 1 := IntWalk.i64_in _ ⟨by omega, by omega⟩
  have hwk : IntKind.i64.wrap (k1 + 1) = k1 + 1 := IntWalk.i64_in _ ⟨by omega, by omega⟩
  have hX0 : At3 25 (((w.alloc (.cells #[.int .i64 s, .int .i64 h, .int .i64 k] 25)).alloc (.cells #[.int .i64 T, .int .i64 lo, .int .i64 hi, .int .i64 st] 23)).alloc (.cells #[.int .i64 0, .int .i64 0, .int .i64 0] 25)) w.heap.size (.int .i64 s) (.int .i64 h) (.int .i64 k) := ((at3_new 25 _ _ (.int .i64 s) (.int .i64 h) (.int .i64 k) rfl).alloc _).alloc _
  have hX1 : At4 23 (((w.alloc (.cells #[.int .i64 s, .int .i64 h, .int .i64 k] 25)).alloc (.cells #[.int .i64 T, .int .i64 lo, .int .i64 hi, .int .i64 st] 23)).alloc (.cells #[.int .i64 0, .int .i64 0, .int .i64 0] 25)) (w.heap.size + 1) (.int .i64 T) (.int .i64 lo) (.int .i64 hi) (.int .i64 st) := (at4_new 23 _ _ (.int .i64 T) (.int .i64 lo) (.int .i64 hi) (.int .i64 st) (by simp)).alloc _
  have hX2 : At3 25 (((w.alloc (.cells #[.int .i64 s, .int .i64 h, .int .i64 k] 25)).alloc (.cells #[.int .i64 T, .int .i64 lo, .int .i64 hi, .int .i64 st] 23)).alloc (.cells #[.int .i64 0, .int .i64 0, .int .i64 0] 25)) (w.heap.size + 1 + 1) (.int .i64 0) (.int .i64 0) (.int .i64 0) := at3_new 25 _ _ (.int .i64 0) (.int .i64 0) (.int .i64 0) (by simp)
  have hb : Below w.heap.size w (((w.alloc (.cells #[.int .i64 s, .int .i64 h, .int .i64 k] 25)).alloc (.cells #[.int .i64 T, .int .i64 lo, .int .i64 hi, .int .i64 st] 23)).alloc (.cells #[.int .i64 0, .int .i64 0, .int .i64 0] 25)) := (((Below.refl _ _).alloc (Nat.le_refl _) _).alloc (by simp) _).alloc (by simp; omega) _
  go_enter Tryd.func9, Tryd.ntmps9
  go_upto_region 1 with fail
  generalize (((w.alloc (.cells #[.int .i64 s, .int .i64 h, .int .i64 k] 25)).alloc (.cells #[.int .i64 T, .int .i64 lo, .int .i64 hi, .int .i64 st] 23)).alloc (.cells #[.int .i64 0, .int .i64 0, .int .i64 0] 25)) = w2 at hX0 hX1 hX2 hb ⊢
  generalize hg2 : w.heap.size + 1 + 1 = g2 at hX2 ⊢
  generalize hg1 : w.heap.size + 1 = g1 at hX1 hg2 ⊢
  generalize hg0 : w.heap.size = g0 at hX0 hb hg1 ⊢
  have hne01 : g0 ≠ g1 := by omega
  have hne02 : g0 ≠ g2 := by omega
  have hle1 : g0 ≤ g1 := by omega
  have hne10 : g1 ≠ g0 := by omega
  have hne12 : g1 ≠ g2 := by omega
  have hle2 : g0 ≤ g2 := by omega
  have hne20 : g2 ≠ g0 := by omega
  have hne21 : g2 ≠ g1 := by omega
  have HG := Lib.hid hg0
  clear hg0 hg1 hg2
  obtain ⟨_, _, _⟩ := hX0.frees
  obtain ⟨_, _, _⟩ := hX0.cells
  obtain ⟨_, _, _, _⟩ := hX1.frees
  obtain ⟨_, _, _, _⟩ := hX1.cells
  obtain ⟨_, _, _⟩ := hX2.frees
  obtain ⟨_, _, _⟩ := hX2.cells
  go_wp2_with fail
  refine (HCl.out _).mono ?_
  rintro e w3 ⟨rfl, hk3⟩
  have hX0_3 := hX0.later hk3
  have hX1_3 := hX1.later hk3
  have hX2_3 := hX2.later hk3
  have hb3 := hb.trans (hk3.mono (by have := hX0.lt; omega))
  obtain ⟨_, _, _⟩ := hX0_3.frees
  obtain ⟨_, _, _⟩ := hX0_3.cells
  obtain ⟨_, _, _, _⟩ := hX1_3.frees
  obtain ⟨_, _, _, _⟩ := hX1_3.cells
  obtain ⟨_, _, _⟩ := hX2_3.frees
  obtain ⟨_, _, _⟩ := hX2_3.cells
  have hX0_4 := hX0_3.alloc (.cells #[.int .i64 T1, .int .i64 lo1, .int .i64 hi1, .int .i64 st1] 23)
  have hX1_4 := hX1_3.alloc (.cells #[.int .i64 T1, .int .i64 lo1, .int .i64 hi1, .int .i64 st1] 23)
  have hX2_4 := hX2_3.alloc (.cells #[.int .i64 T1, .int .i64 lo1, .int .i64 hi1, .int .i64 st1] 23)
  have hb4 := hb3.alloc (by have := hX0_3.lt; omega) (.cells #[.int .i64 T1, .int .i64 lo1, .int .i64 hi1, .int .i64 st1] 23)
  have hX3_4 := at4_new 23 w3 _ (.int .i64 T1) (.int .i64 lo1) (.int .i64 hi1) (.int .i64 st1) rfl
  have lt0_4 := hX0_3.lt
  have lt1_4 := hX1_3.lt
  have lt2_4 := hX2_3.lt
  go_upto_region 2 with fail
  generalize (w3.alloc (.cells #[.int .i64 T1, .int .i64 lo1, .int .i64 hi1, .int .i64 st1] 23)) = w4 at hX0_4 hX1_4 hX2_4 hX3_4 hb4 ⊢
  generalize w3.heap.size = g3 at hX3_4 lt0_4 lt1_4 lt2_4 ⊢
  have hne30 : g3 ≠ g0 := by omega
  have hne03 : g0 ≠ g3 := by omega
  have hne31 : g3 ≠ g1 := by omega
  have hne13 : g1 ≠ g3 := by omega
  have hne32 : g3 ≠ g2 := by omega
  have hne23 : g2 ≠ g3 := by omega
  have hle3 : g0 ≤ g3 := by omega
  clear lt0_4 lt1_4 lt2_4
  obtain ⟨_, _, _⟩ := hX0_4.frees
  obtain ⟨_, _, _⟩ := hX0_4.cells
  obtain ⟨_, _, _, _⟩ := hX1_4.frees
  obtain ⟨_, _, _, _⟩ := hX1_4.cells
  obtain ⟨_, _, _⟩ := hX2_4.frees
  obtain ⟨_, _, _⟩ := hX2_4.cells
  obtain ⟨_, _, _, _⟩ := hX3_4.frees
  obtain ⟨_, _, _, _⟩ := hX3_4.cells
  go_wp2_with fail
  refine (HCn.out _).mono ?_
  rintro e w5 ⟨rfl, hk5⟩
  have hX0_5 := hX0_4.later hk5
  have hX1_5 := hX1_4.later hk5
  have hX2_5 := hX2_4.later hk5
  have hX3_5 := hX3_4.later hk5
  have hb5 := hb4.trans (hk5.mono (by have := hX0_4.lt; omega))
  obtain ⟨_, _, _⟩ := hX0_5.frees
  obtain ⟨_, _, _⟩ := hX0_5.cells
  obtain ⟨_, _, _, _⟩ := hX1_5.frees
  obtain ⟨_, _, _, _⟩ := hX1_5.cells
  obtain ⟨_, _, _⟩ := hX2_5.frees
  obtain ⟨_, _, _⟩ := hX2_5.cells
  obtain ⟨_, _, _, _⟩ := hX3_5.frees
  obtain ⟨_, _, _, _⟩ := hX3_5.cells
  have hX0_6 := hX0_5.alloc (.cells #[.int .i64 n, .int .i64 h1, .int .i64 k1] 25)
  have hX1_6 := hX1_5.alloc (.cells #[.int .i64 n, .int .i64 h1, .int .i64 k1] 25)
  have hX2_6 := hX2_5.alloc (.cells #[.int .i64 n, .int .i64 h1, .int .i64 k1] 25)
  have hX3_6 := hX3_5.alloc (.cells #[.int .i64 n, .int .i64 h1, .int .i64 k1] 25)
  have hb6 := hb5.alloc (by have := hX0_5.lt; omega) (.cells #[.int .i64 n, .int .i64 h1, .int .i64 k1] 25)
  have hX4_6 := at3_new 25 w5 _ (.int .i64 n) (.int .i64 h1) (.int .i64 k1) rfl
  have lt0_6 := hX0_5.lt
  have lt1_6 := hX1_5.lt
  have lt2_6 := hX2_5.lt
  have lt3_6 := hX3_5.lt
  go_upto_region 3 with fail
  generalize (w5.alloc (.cells #[.int .i64 n, .int .i64 h1, .int .i64 k1] 25)) = w6 at hX0_6 hX1_6 hX2_6 hX3_6 hX4_6 hb6 ⊢
  generalize w5.heap.size = g4 at hX4_6 lt0_6 lt1_6 lt2_6 lt3_6 ⊢
  have hne40 : g4 ≠ g0 := by omega
  have hne04 : g0 ≠ g4 := by omega
  have hne41 : g4 ≠ g1 := by omega
  have hne14 : g1 ≠ g4 := by omega
  have hne42 : g4 ≠ g2 := by omega
  have hne24 : g2 ≠ g4 := by omega
  have hne43 : g4 ≠ g3 := by omega
  have hne34 : g3 ≠ g4 := by omega
  have hle4 : g0 ≤ g4 := by omega
  clear lt0_6 lt1_6 lt2_6 lt3_6
  obtain ⟨_, _, _⟩ := hX0_6.frees
  obtain ⟨_, _, _⟩ := hX0_6.cells
  obtain ⟨_, _, _, _⟩ := hX1_6.frees
  obtain ⟨_, _, _, _⟩ := hX1_6.cells
  obtain ⟨_, _, _⟩ := hX2_6.frees
  obtain ⟨_, _, _⟩ := hX2_6.cells
  obtain ⟨_, _, _, _⟩ := hX3_6.frees
  obtain ⟨_, _, _, _⟩ := hX3_6.cells
  obtain ⟨_, _, _⟩ := hX4_6.frees
  obtain ⟨_, _, _⟩ := hX4_6.cells
  go_upto_region 16 with fail
  have hX4_7 := (at3_set2 hX4_6 (.int .i64 (k1 + 1)))
  have ho7 := ((Only.refl g4 w6).setCell 2 (.int .i64 (k1 + 1)))
  have hX0_7 := hX0_6.only hne04 ho7
  have hX1_7 := hX1_6.only hne14 ho7
  have hX2_7 := hX2_6.only hne24 ho7
  have hX3_7 := hX3_6.only hne34 ho7
  have hb7 := hb6.trans (ho7.below hle4)
  generalize (w6.setCell ⟨g4, 2, none⟩ (.int .i64 (k1 + 1))) = w7 at hX0_7 hX1_7 hX2_7 hX3_7 hX4_7 hb7 ⊢
  clear ho7
  obtain ⟨_, _, _⟩ := hX0_7.frees
  obtain ⟨_, _, _⟩ := hX0_7.cells
  obtain ⟨_, _, _, _⟩ := hX1_7.frees
  obtain ⟨_, _, _, _⟩ := hX1_7.cells
  obtain ⟨_, _, _⟩ := hX2_7.frees
  obtain ⟨_, _, _⟩ := hX2_7.cells
  obtain ⟨_, _, _, _⟩ := hX3_7.frees
  obtain ⟨_, _, _, _⟩ := hX3_7.cells
  obtain ⟨_, _, _⟩ := hX4_7.frees
  obtain ⟨_, _, _⟩ := hX4_7.cells
  go_wp2_with fail
  refine (HN.out _).mono ?_
  rintro e w8 ⟨rfl, hk8⟩
  subst hk8
  go_upto_region 17 with fail
  have hX4_9 := (at3_set1 hX4_7 (.int .i64 nw))
  have ho9 := ((Only.refl g4 w8).setCell 1 (.int .i64 nw))
  have hX0_9 := hX0_7.only hne04 ho9
  have hX1_9 := hX1_7.only hne14 ho9
  have hX2_9 := hX2_7.only hne24 ho9
  have hX3_9 := hX3_7.only hne34 ho9
  have hb9 := hb7.trans (ho9.below hle4)
  generalize (w8.setCell ⟨g4, 1, none⟩ (.int .i64 nw)) = w9 at hX0_9 hX1_9 hX2_9 hX3_9 hX4_9 hb9 ⊢
  clear ho9
  obtain ⟨_, _, _⟩ := hX0_9.frees
  obtain ⟨_, _, _⟩ := hX0_9.cells
  obtain ⟨_, _, _, _⟩ := hX1_9.frees
  obtain ⟨_, _, _, _⟩ := hX1_9.cells
  obtain ⟨_, _, _⟩ := hX2_9.frees
  obtain ⟨_, _, _⟩ := hX2_9.cells
  obtain ⟨_, _, _, _⟩ := hX3_9.frees
  obtain ⟨_, _, _, _⟩ := hX3_9.cells
  obtain ⟨_, _, _⟩ := hX4_9.frees
  obtain ⟨_, _, _⟩ := hX4_9.cells
  go_region_held3 (fun W => W.cell? ⟨g4, 0, none⟩ = some (.int .i64 n) ∧ W.cell? ⟨g4, 1, none⟩ = some (.int .i64 nw) ∧ W.cell? ⟨g4, 2, none⟩ = some (.int .i64 (k1 + 1))) (first | (go_keep; done) | with_reducible exact hX4_9.drew.cells) (fail)
  all_goals
    have hZ := at3_store hX2_9 (.int .i64 n) (.int .i64 nw) (.int .i64 (k1 + 1))
    have hbz := hb9.trans ((store3_only w9 g2 (.int .i64 n) (.int .i64 nw) (.int .i64 (k1 + 1))).below hle2)
    obtain ⟨d0, d1, d2⟩ := hZ.cells
    go_wp2_with fail
    refine bodyPost_ret (v := .tuple #[.agg #[.int .i64 n, .int .i64 nw, .int .i64 (k1 + 1)], .bool false]) (by simp [results, Tryd.results9, go_sem, d0, d1, d2]) rfl ⟨rfl, by rw [HG.out]; exact hbz.drew⟩
set_option maxHeartbeats 1600000 in
theorem refRep_mid (l : LL) (c : LC) (f now n h1 k1 : Int) (c1 : LC) (nw : Int) (hl : l.cnt = ⟨n, h1, k1⟩) (hc : c.clip = c1) (hw : am 0 now 1099511627776 = nw) (hf : c1.lo < f) (hg : f ≤ c1.hi) (w : World) : Calls Tryd.prog 9 #[l.val, c.val, .int .i64 f, .int .i64 now] w fun e w' => e = .returned (.tuple #[.agg #[.int .i64 n, .int .i64 nw, .int .i64 k1], .bool false]) ∧ Below w.heap.size w w' := by
  have HCl := Lib.hid (fun W => refLfClip_any c W)
  have HCn := Lib.hid (fun W => known_any l W)
  have ho := l.cnt_ok
  have hco := c.clip_ok
  rw [hl] at HCn ho
  rw [hc] at HCl hco
  have HN : Hid (∀ W : World, Calls Tryd.prog 29 #[.int .i64 now] W fun e w' => e = .returned (.int .i64 nw) ∧ w' = W) := Lib.hid (by rw [← hw]; exact fun W => refLfTick_q now W)
  have hn0 : 0 ≤ nw := by rw [← hw]; exact am_lo _ _ _ (by omega)
  have hn1 : nw ≤ 1099511627776 := by rw [← hw]; exact am_hi _ _ _
  clear hl hc hw
  obtain ⟨s, h, k⟩ := l
  obtain ⟨T, lo, hi, st⟩ := c
  obtain ⟨T1, lo1, hi1, st1⟩ := c1
  obtain ⟨o1, o2, o3, o4, o5⟩ := ho
  obtain ⟨q1, q2, q3, q4, q5, q6, q7⟩ := hco
  simp only [LL.val, LC.val] at *
  have hX0 : At3 25 (((w.alloc (.cells #[.int .i64 s, .int .i64 h, .int .i64 k] 25)).alloc (.cells #[.int .i64 T, .int .i64 lo, .int .i64 hi, .int .i64 st] 23)).alloc (.cells #[.int .i64 0, .int .i64 0, .int .i64 0] 25)) w.heap.size (.int .i64 s) (.int .i64 h) (.int .i64 k) := ((at3_new 25 _ _ (.int .i64 s) (.int .i64 h) (.int .i64 k) rfl).alloc _).alloc _
  have hX1 : At4 23 (((w.alloc (.cells #[.int .i64 s, .int .i64 h, .int .i64 k] 25)).alloc (.cells #[.int .i64 T, .int .i64 lo, .int .i64 hi, .int .i64 st] 23)).alloc (.cells #[.int .i64 0, .int .i64 0, .int .i64 0] 25)) (w.heap.size + 1) (.int .i64 T) (.int .i64 lo) (.int .i64 hi) (.int .i64 st) := (at4_new 23 _ _ (.int .i64 T) (.int .i64 lo) (.int .i64 hi) (.int .i64 st) (by simp)).alloc _
  have hX2 : At3 25 (((w.alloc (.cells #[.int .i64 s, .int .i64 h, .int .i64 k] 25)).alloc (.cells #[.int .i64 T, .int .i64 lo, .int .i64 hi, .int .i64 st] 23)).alloc (.cells #[.int .i64 0, .int .i64 0, .int .i64 0] 25)) (w.heap.size + 1 + 1) (.int .i64 0) (.int .i64 0) (.int .i64 0) := at3_new 25 _ _ (.int .i64 0) (.int .i64 0) (.int .i64 0) (by simp)
  have hb : Below w.heap.size w (((w.alloc (.cells #[.int .i64 s, .int .i64 h, .int .i64 k] 25)).alloc (.cells #[.int .i64 T, .int .i64 lo, .int .i64 hi, .int .i64 st] 23)).alloc (.cells #[.int .i64 0, .int .i64 0, .int .i64 0] 25)) := (((Below.refl _ _).alloc (Nat.le_refl _) _).alloc (by simp) _).alloc (by simp; omega) _
  go_enter Tryd.func9, Tryd.ntmps9
  go_upto_region 1 with fail
  generalize (((w.alloc (.cells #[.int .i64 s, .int .i64 h, .int .i64 k] 25)).alloc (.cells #[.int .i64 T, .int .i64 lo, .int .i64 hi, .int .i64 st] 23)).alloc (.cells #[.int .i64 0, .int .i64 0, .int .i64 0] 25)) = w2 at hX0 hX1 hX2 hb ⊢
  generalize hg2 : w.heap.size + 1 + 1 = g2 at hX2 ⊢
  generalize hg1 : w.heap.size + 1 = g1 at hX1 hg2 ⊢
  generalize hg0 : w.heap.size = g0 at hX0 hb hg1 ⊢
  have hne01 : g0 ≠ g1 := by omega
  have hne02 : g0 ≠ g2 := by omega
  have hle1 : g0 ≤ g1 := by omega
  have hne10 : g1 ≠ g0 := by omega
  have hne12 : g1 ≠ g2 := by omega
  have hle2 : g0 ≤ g2 := by omega
  have hne20 : g2 ≠ g0 := by omega
  have hne21 : g2 ≠ g1 := by omega
  have HG := Lib.hid hg0
  clear hg0 hg1 hg2
  obtain ⟨_, _, _⟩ := hX0.frees
  obtain ⟨_, _, _⟩ := hX0.cells
  obtain ⟨_, _, _, _⟩ := hX1.frees
  obtain ⟨_, _, _, _⟩ := hX1.cells
  obtain ⟨_, _, _⟩ := hX2.frees
  obtain ⟨_, _, _⟩ := hX2.cells
  go_wp2_with fail
  refine (HCl.out _).mono ?_
  rintro e w3 ⟨rfl, hk3⟩
  have hX0_3 := hX0.later hk3
  have hX1_3 := hX1.later hk3
  have hX2_3 := hX2.later hk3
  have hb3 := hb.trans (hk3.mono (by have := hX0.lt; omega))
  obtain ⟨_, _, _⟩ := hX0_3.frees
  obtain ⟨_, _, _⟩ := hX0_3.cells
  obtain ⟨_, _, _, _⟩ := hX1_3.frees
  obtain ⟨_, _, _, _⟩ := hX1_3.cells
  obtain ⟨_, _, _⟩ := hX2_3.frees
  obtain ⟨_, _, _⟩ := hX2_3.cells
  have hX0_4 := hX0_3.alloc (.cells #[.int .i64 T1, .int .i64 lo1, .int .i64 hi1, .int .i64 st1] 23)
  have hX1_4 := hX1_3.alloc (.cells #[.int .i64 T1, .int .i64 lo1, .int .i64 hi1, .int .i64 st1] 23)
  have hX2_4 := hX2_3.alloc (.cells #[.int .i64 T1, .int .i64 lo1, .int .i64 hi1, .int .i64 st1] 23)
  have hb4 := hb3.alloc (by have := hX0_3.lt; omega) (.cells #[.int .i64 T1, .int .i64 lo1, .int .i64 hi1, .int .i64 st1] 23)
  have hX3_4 := at4_new 23 w3 _ (.int .i64 T1) (.int .i64 lo1) (.int .i64 hi1) (.int .i64 st1) rfl
  have lt0_4 := hX0_3.lt
  have lt1_4 := hX1_3.lt
  have lt2_4 := hX2_3.lt
  go_upto_region 2 with fail
  generalize (w3.alloc (.cells #[.int .i64 T1, .int .i64 lo1, .int .i64 hi1, .int .i64 st1] 23)) = w4 at hX0_4 hX1_4 hX2_4 hX3_4 hb4 ⊢
  generalize w3.heap.size = g3 at hX3_4 lt0_4 lt1_4 lt2_4 ⊢
  have hne30 : g3 ≠ g0 := by omega
  have hne03 : g0 ≠ g3 := by omega
  have hne31 : g3 ≠ g1 := by omega
  have hne13 : g1 ≠ g3 := by omega
  have hne32 : g3 ≠ g2 := by omega
  have hne23 : g2 ≠ g3 := by omega
  have hle3 : g0 ≤ g3 := by omega
  clear lt0_4 lt1_4 lt2_4
  obtain ⟨_, _, _⟩ := hX0_4.frees
  obtain ⟨_, _, _⟩ := hX0_4.cells
  obtain ⟨_, _, _, _⟩ := hX1_4.frees
  obtain ⟨_, _, _, _⟩ := hX1_4.cells
  obtain ⟨_, _, _⟩ := hX2_4.frees
  obtain ⟨_, _, _⟩ := hX2_4.cells
  obtain ⟨_, _, _, _⟩ := hX3_4.frees
  obtain ⟨_, _, _, _⟩ := hX3_4.cells
  go_wp2_with fail
  refine (HCn.out _).mono ?_
  rintro e w5 ⟨rfl, hk5⟩
  have hX0_5 := hX0_4.later hk5
  have hX1_5 := hX1_4.later hk5
  have hX2_5 := hX2_4.later hk5
  have hX3_5 := hX3_4.later hk5
  have hb5 := hb4.trans (hk5.mono (by have := hX0_4.lt; omega))
  obtain ⟨_, _, _⟩ := hX0_5.frees
  obtain ⟨_, _, _⟩ := hX0_5.cells
  obtain ⟨_, _, _, _⟩ := hX1_5.frees
  obtain ⟨_, _, _, _⟩ := hX1_5.cells
  obtain ⟨_, _, _⟩ := hX2_5.frees
  obtain ⟨_, _, _⟩ := hX2_5.cells
  obtain ⟨_, _, _, _⟩ := hX3_5.frees
  obtain ⟨_, _, _, _⟩ := hX3_5.cells
  have hX0_6 := hX0_5.alloc (.cells #[.int .i64 n, .int .i64 h1, .int .i64 k1] 25)
  have hX1_6 := hX1_5.alloc (.cells #[.int .i64 n, .int .i64 h1, .int .i64 k1] 25)
  have hX2_6 := hX2_5.alloc (.cells #[.int .i64 n, .int .i64 h1, .int .i64 k1] 25)
  have hX3_6 := hX3_5.alloc (.cells #[.int .i64 n, .int .i64 h1, .int .i64 k1] 25)
  have hb6 := hb5.alloc (by have := hX0_5.lt; omega) (.cells #[.int .i64 n, .int .i64 h1, .int .i64 k1] 25)
  have hX4_6 := at3_new 25 w5 _ (.int .i64 n) (.int .i64 h1) (.int .i64 k1) rfl
  have lt0_6 := hX0_5.lt
  have lt1_6 := hX1_5.lt
  have lt2_6 := hX2_5.lt
  have lt3_6 := hX3_5.lt
  go_upto_region 3 with fail
  generalize (w5.alloc (.cells #[.int .i64 n, .int .i64 h1, .int .i64 k1] 25)) = w6 at hX0_6 hX1_6 hX2_6 hX3_6 hX4_6 hb6 ⊢
  generalize w5.heap.size = g4 at hX4_6 lt0_6 lt1_6 lt2_6 lt3_6 ⊢
  have hne40 : g4 ≠ g0 := by omega
  have hne04 : g0 ≠ g4 := by omega
  have hne41 : g4 ≠ g1 := by omega
  have hne14 : g1 ≠ g4 := by omega
  have hne42 : g4 ≠ g2 := by omega
  have hne24 : g2 ≠ g4 := by omega
  have hne43 : g4 ≠ g3 := by omega
  have hne34 : g3 ≠ g4 := by omega
  have hle4 : g0 ≤ g4 := by omega
  clear lt0_6 lt1_6 lt2_6 lt3_6
  obtain ⟨_, _, _⟩ := hX0_6.frees
  obtain ⟨_, _, _⟩ := hX0_6.cells
  obtain ⟨_, _, _, _⟩ := hX1_6.frees
  obtain ⟨_, _, _, _⟩ := hX1_6.cells
  obtain ⟨_, _, _⟩ := hX2_6.frees
  obtain ⟨_, _, _⟩ := hX2_6.cells
  obtain ⟨_, _, _, _⟩ := hX3_6.frees
  obtain ⟨_, _, _, _⟩ := hX3_6.cells
  obtain ⟨_, _, _⟩ := hX4_6.frees
  obtain ⟨_, _, _⟩ := hX4_6.cells
  go_upto_region 16 with fail
  go_wp2_with fail
  refine (HN.out _).mono ?_
  rintro e w7 ⟨rfl, hk7⟩
  subst hk7
  go_upto_region 17 with fail
  have hX4_8 := (at3_set1 hX4_6 (.int .i64 nw))
  have ho8 := ((Only.refl g4 w7).setCell 1 (.int .i64 nw))
  have hX0_8 := hX0_6.only hne04 ho8
  have hX1_8 := hX1_6.only hne14 ho8
  have hX2_8 := hX2_6.only hne24 ho8
  have hX3_8 := hX3_6.only hne34 ho8
  have hb8 := hb6.trans (ho8.below hle4)
  generalize (w7.setCell ⟨g4, 1, none⟩ (.int .i64 nw)) = w8 at hX0_8 hX1_8 hX2_8 hX3_8 hX4_8 hb8 ⊢
  clear ho8
  obtain ⟨_, _, _⟩ := hX0_8.frees
  obtain ⟨_, _, _⟩ := hX0_8.cells
  obtain ⟨_, _, _, _⟩ := hX1_8.frees
  obtain ⟨_, _, _, _⟩ := hX1_8.cells
  obtain ⟨_, _, _⟩ := hX2_8.frees
  obtain ⟨_, _, _⟩ := hX2_8.cells
  obtain ⟨_, _, _, _⟩ := hX3_8.frees
  obtain ⟨_, _, _, _⟩ := hX3_8.cells
  obtain ⟨_, _, _⟩ := hX4_8.frees
  obtain ⟨_, _, _⟩ := hX4_8.cells
  go_region_held3 (fun W => W.cell? ⟨g4, 0, none⟩ = some (.int .i64 n) ∧ W.cell? ⟨g4, 1, none⟩ = some (.int .i64 nw) ∧ W.cell? ⟨g4, 2, none⟩ = some (.int .i64 k1)) (first | (go_keep; done) | with_reducible exact hX4_8.drew.cells) (fail)
  all_goals
    have hZ := at3_store hX2_8 (.int .i64 n) (.int .i64 nw) (.int .i64 k1)
    have hbz := hb8.trans ((store3_only w8 g2 (.int .i64 n) (.int .i64 nw) (.int .i64 k1)).below hle2)
    obtain ⟨d0, d1, d2⟩ := hZ.cells
    go_wp2_with fail
    refine bodyPost_ret (v := .tuple #[.agg #[.int .i64 n, .int .i64 nw, .int .i64 k1], .bool false]) (by simp [results, Tryd.results9, go_sem, d0, d1, d2]) rfl ⟨rfl, by rw [HG.out]; exact hbz.drew⟩
theorem refRep_t (l : LL) (c : LC) (f now n h1 k1 : Int) (c1 : LC) (nw ns ks : Int) (q : Bool) (hl : l.cnt = ⟨n, h1, k1⟩) (hc : c.clip = c1) (hw : am 0 now 1099511627776 = nw) (HR : Hid (LL.rep ⟨n, h1, k1⟩ c1 f nw = ⟨ns, nw, ks⟩)) (HQ : Hid ((ns != n) = q)) (w : World) : Calls Tryd.prog 9 #[l.val, c.val, .int .i64 f, .int .i64 now] w fun e w' => e = .returned (.tuple #[.agg #[.int .i64 ns, .int .i64 nw, .int .i64 ks], .bool q]) ∧ Below w.heap.size w w' := by
  have e := HR.out
  have hq := HQ.out
  rw [LL.rep] at e
  simp only at e
  by_cases hf : f ≤ c1.lo
  · rw [if_pos hf] at e
    simp only [LL.mk.injEq, bLow] at e
    obtain ⟨e1, -, e2⟩ := e
    subst e2
    by_cases h3 : n = 3
    · rw [if_pos h3] at e1; subst e1; subst h3
      rw [← hq]; exact refRep_low3 l c f now 3 h1 k1 c1 nw hl hc hw hf rfl w
    · rw [if_neg h3] at e1; subst e1
      exact refRep_low l c f now n h1 k1 c1 nw q hq hl hc hw hf h3 w
  rw [if_neg hf] at e
  by_cases hg : c1.hi < f
  · rw [if_pos hg] at e
    by_cases h3 : n = 3
    · rw [if_pos (Or.inl h3)] at e
      simp only [LL.mk.injEq] at e
      obtain ⟨e1, -, e2⟩ := e
      subst e1; subst e2; subst h3
      rw [← hq]; exact refRep_end3 l c f now 3 h1 k1 c1 nw hl hc hw (by omega) hg rfl w
    by_cases hk : c1.st - 1 ≤ k1
    · rw [if_pos (Or.inr hk)] at e
      simp only [LL.mk.injEq] at e
      obtain ⟨e1, -, e2⟩ := e
      subst e1; subst e2
      exact refRep_end l c f now n h1 k1 c1 nw q hq hl hc hw (by omega) hg h3 hk w
    rw [if_neg (by omega)] at e
    simp only [LL.mk.injEq, bHigh] at e
    obtain ⟨e1, -, e2⟩ := e
    subst e2
    by_cases h1' : n = 1
    · rw [if_pos h1'] at e1; subst e1; subst h1'
      rw [← hq]; exact refRep_one l c f now 1 h1 k1 c1 nw hl hc hw (by omega) hg rfl (by omega) w
    · rw [if_neg h1'] at e1; subst e1
      rw [← hq, show (n != n) = false by simp]; exact refRep_more l c f now n h1 k1 c1 nw hl hc hw (by omega) hg h3 h1' (by omega) w
  · rw [if_neg hg] at e
    simp only [LL.mk.injEq] at e
    obtain ⟨e1, -, e2⟩ := e
    subst e1; subst e2
    rw [← hq, show (n != n) = false by simp]; exact refRep_mid l c f now n h1 k1 c1 nw hl hc hw (by omega) (by omega) w
end Go.Proofs.YtggcfoegpadepaaDoor
