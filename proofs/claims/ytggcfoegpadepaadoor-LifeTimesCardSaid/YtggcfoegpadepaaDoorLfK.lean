/- life: the document's Tick. -/
import Derived.Test.YtggcfoegpadepaaDoorLfE
namespace Go.Proofs.YtggcfoegpadepaaDoor
open Go.RowKit
set_option linter.unusedVariables false
set_option maxHeartbeats 3200000 in
theorem refTick0_t (l : LL) (c : LC) (now n h1 k1 : Int) (c1 : LC) (nw : Int) (hl : l.cnt = ⟨n, h1, k1⟩) (hc : c.clip = c1) (hw : am 0 now 1099511627776 = nw) (hs : n = 3) (w : World) : Calls Tryd.prog 11 #[l.val, c.val, .int .i64 now] w fun e w' => e = .returned (.tuple #[.agg #[.int .i64 n, .int .i64 h1, .int .i64 k1], .bool false]) ∧ Below w.heap.size w w' := by
  have HCl := Lib.hid (fun W => refLfClip_any c W)
  have HCn := Lib.hid (fun W => known_any l W)
  have ho := l.cnt_ok
  have hco := c.clip_ok
  rw [hl] at HCn ho
  rw [hc] at HCl hco
  have HN : Hid (∀ W : World, Calls Tryd.prog 29 #[.int .i64 now] W fun e w' => e = .returned (.int .i64 nw) ∧ w' = W) := Lib.hid (by rw [← hw]; exact fun W => refLfTick_q now W)
  have hn0 : 0 ≤ nw := by rw [← hw]; exact am_lo _ _ _ (by omega)
  have hn1 : nw ≤ 1099511627776 := by rw [← hw]; exact am_hi _ _ _
  clear hl hc hw
  obtain ⟨s, h, k⟩ := l
  obtain ⟨T, lo, hi, st⟩ := c
  obtain ⟨T1, lo1, hi1, st1⟩ := c1
  obtain ⟨o1, o2, o3, o4, o5⟩ := ho
  obtain ⟨q1, q2, q3, q4, q5, q6, q7⟩ := hco
  simp only [LL.val, LC.val] at *
  have hwr : IntKind.i64.wrap (nw - h1) = nw - h1 := IntWalk.i64_in _ ⟨by omega, by omega⟩
  have hfd : ∀ W : World, (Instr.field 23 (.agg #[.int .i64 T1, .int .i64 lo1, .int .i64 hi1, .int .i64 st1]) 0).run Tryd.prog W = .ok (.int .i64 T1) W := fun _ => by kernel_rfl
  subst hs
  have hX0 : At3 25 (((w.alloc (.cells #[.int .i64 s, .int .i64 h, .int .i64 k] 25)).alloc (.cells #[.int .i64 T, .int .i64 lo, .int .i64 hi, .int .i64 st] 23)).alloc (.cells #[.int .i64 0, .int .i64 0, .int .i64 0] 25)) w.heap.size (.int .i64 s) (.int .i64 h) (.int .i64 k) := ((at3_new 25 _ _ (.int .i64 s) (.int .i64 h) (.int .i64 k) rfl).alloc _).alloc _
  have hX1 : At4 23 (((w.alloc (.cells #[.int .i64 s, .int .i64 h, .int .i64 k] 25)).alloc (.cells #[.int .i64 T, .int .i64 lo, .int .i64 hi, .int .i64 st] 23)).alloc (.cells #[.int .i64 0, .int .i64 0, .int .i64 0] 25)) (w.heap.size + 1) (.int .i64 T) (.int .i64 lo) (.int .i64 hi) (.int .i64 st) := (at4_new 23 _ _ (.int .i64 T) (.int .i64 lo) (.int .i64 hi) (.int .i64 st) (by simp)).alloc _
  have hX2 : At3 25 (((w.alloc (.cells #[.int .i64 s, .int .i64 h, .int .i64 k] 25)).alloc (.cells #[.int .i64 T, .int .i64 lo, .int .i64 hi, .int .i64 st] 23)).alloc (.cells #[.int .i64 0, .int .i64 0, .int .i64 0] 25)) (w.heap.size + 1 + 1) (.int .i64 0) (.int .i64 0) (.int .i64 0) := at3_new 25 _ _ (.int .i64 0) (.int .i64 0) (.int .i64 0) (by simp)
  have hb : Below w.heap.size w (((w.alloc (.cells #[.int .i64 s, .int .i64 h, .int .i64 k] 25)).alloc (.cells #[.int .i64 T, .int .i64 lo, .int .i64 hi, .int .i64 st] 23)).alloc (.cells #[.int .i64 0, .int .i64 0, .int .i64 0] 25)) := (((Below.refl _ _).alloc (Nat.le_refl _) _).alloc (by simp) _).alloc (by simp; omega) _
  go_enter Tryd.func11, Tryd.ntmps11
  go_upto_region 1 with fail
  generalize (((w.alloc (.cells #[.int .i64 s, .int .i64 h, .int .i64 k] 25)).alloc (.cells #[.int .i64 T, .int .i64 lo, .int .i64 hi, .int .i64 st] 23)).alloc (.cells #[.int .i64 0, .int .i64 0, .int .i64 0] 25)) = w2 at hX0 hX1 hX2 hb ⊢
  generalize hg2 : w.heap.size + 1 + 1 = g2 at hX2 ⊢
  generalize hg1 : w.heap.size + 1 = g1 at hX1 hg2 ⊢
  generalize hg0 : w.heap.size = g0 at hX0 hb hg1 ⊢
  have hne01 : g0 ≠ g1 := by omega
  have hne02 : g0 ≠ g2 := by omega
  have hle1 : g0 ≤ g1 := by omega
  have hne10 : g1 ≠ g0 := by omega
  have hne12 : g1 ≠ g2 := by omega
  have hle2 : g0 ≤ g2 := by omega
  have hne20 : g2 ≠ g0 := by omega
  have hne21 : g2 ≠ g1 := by omega
  have HG := Lib.hid hg0
  clear hg0 hg1 hg2
  obtain ⟨_, _, _⟩ := hX0.frees
  obtain ⟨_, _, _⟩ := hX0.cells
  obtain ⟨_, _, _, _⟩ := hX1.frees
  obtain ⟨_, _, _, _⟩ := hX1.cells
  obtain ⟨_, _, _⟩ := hX2.frees
  obtain ⟨_, _, _⟩ := hX2.cells
  go_wp2_with fail
  refine (HCn.out _).mono ?_
  rintro e w3 ⟨rfl, hk3⟩
  have hX0_3 := hX0.later hk3
  have hX1_3 := hX1.later hk3
  have hX2_3 := hX2.later hk3
  have hb3 := hb.trans (hk3.mono (by have := hX0.lt; omega))
  obtain ⟨_, _, _⟩ := hX0_3.frees
  obtain ⟨_, _, _⟩ := hX0_3.cells
  obtain ⟨_, _, _, _⟩ := hX1_3.frees
  obtain ⟨_, _, _, _⟩ := hX1_3.cells
  obtain ⟨_, _, _⟩ := hX2_3.frees
  obtain ⟨_, _, _⟩ := hX2_3.cells
  have hX0_4 := hX0_3.alloc (.cells #[.int .i64 3, .int .i64 h1, .int .i64 k1] 25)
  have hX1_4 := hX1_3.alloc (.cells #[.int .i64 3, .int .i64 h1, .int .i64 k1] 25)
  have hX2_4 := hX2_3.alloc (.cells #[.int .i64 3, .int .i64 h1, .int .i64 k1] 25)
  have hb4 := hb3.alloc (by have := hX0_3.lt; omega) (.cells #[.int .i64 3, .int .i64 h1, .int .i64 k1] 25)
  have hX3_4 := at3_new 25 w3 _ (.int .i64 3) (.int .i64 h1) (.int .i64 k1) rfl
  have lt0_4 := hX0_3.lt
  have lt1_4 := hX1_3.lt
  have lt2_4 := hX2_3.lt
  go_upto_region 2 with fail
  generalize (w3.alloc (.cells #[.int .i64 3, .int .i64 h1, .int .i64 k1] 25)) = w4 at hX0_4 hX1_4 hX2_4 hX3_4 hb4 ⊢
  generalize w3.heap.size = g3 at hX3_4 lt0_4 lt1_4 lt2_4 ⊢
  have hne30 : g3 ≠ g0 := by omega
  have hne03 : g0 ≠ g3 := by omega
  have hne31 : g3 ≠ g1 := by omega
  have hne13 : g1 ≠ g3 := by omega
  have hne32 : g3 ≠ g2 := by omega
  have hne23 : g2 ≠ g3 := by omega
  have hle3 : g0 ≤ g3 := by omega
  clear lt0_4 lt1_4 lt2_4
  obtain ⟨_, _, _⟩ := hX0_4.frees
  obtain ⟨_, _, _⟩ := hX0_4.cells
  obtain ⟨_, _, _, _⟩ := hX1_4.frees
  obtain ⟨_, _, _, _⟩ := hX1_4.cells
  obtain ⟨_, _, _⟩ := hX2_4.frees
  obtain ⟨_, _, _⟩ := hX2_4.cells
  obtain ⟨_, _, _⟩ := hX3_4.frees
  obtain ⟨_, _, _⟩ := hX3_4.cells
  have hXd0 := hX3_4.drew
  have hXd1 := hX1_4.drew
  obtain ⟨_, _, _⟩ := hXd0.cells
  obtain ⟨_, _, _, _⟩ := hXd1.cells
  go_cut [24] (fun z wx => z = .bool false ∧ At3 25 wx g3 (.int .i64 3) (.int .i64 h1) (.int .i64 k1) ∧ At3 25 wx g2 (.int .i64 0) (.int .i64 0) (.int .i64 0) ∧ Below g0 w wx)
  case first =>
    first | go_region_law (fail) | fail "region"
    all_goals
      go_wp2_with fail
      go_meet
      exact ⟨rfl, hX3_4.drew, hX2_4.drew, hb4.drew⟩
  case rest =>
  obtain ⟨rfl, hX3_9, hX2_9, hb9⟩ := hcut
  clear hX0_4 hX1_4 hX2_4 hX3_4 hb4 hXd0 hXd1 HCl HN
  rename World => w9
  obtain ⟨_, _, _⟩ := hX3_9.cells
  obtain ⟨_, _, _⟩ := hX2_9.frees
  obtain ⟨_, _, _⟩ := hX2_9.cells
  have hZ := at3_store hX2_9 (.int .i64 3) (.int .i64 h1) (.int .i64 k1)
  have hbz := hb9.trans ((store3_only w9 g2 (.int .i64 3) (.int .i64 h1) (.int .i64 k1)).below hle2)
  obtain ⟨d0, d1, d2⟩ := hZ.cells
  go_wp2_with fail
  refine bodyPost_ret (v := .tuple #[.agg #[.int .i64 3, .int .i64 h1, .int .i64 k1], .bool false]) (by simp [results, Tryd.results11, go_sem, d0, d1, d2]) rfl ⟨rfl, by rw [HG.out]; exact hbz⟩
set_option maxHeartbeats 3200000 in
theorem refTick1_t (l : LL) (c : LC) (now n h1 k1 : Int) (c1 : LC) (nw : Int) (hl : l.cnt = ⟨n, h1, k1⟩) (hc : c.clip = c1) (hw : am 0 now 1099511627776 = nw) (hs : n ≠ 3) (ht : nw - h1 ≤ c1.t) (w : World) : Calls Tryd.prog 11 #[l.val, c.val, .int .i64 now] w fun e w' => e = .returned (.tuple #[.agg #[.int .i64 n, .int .i64 h1, .int .i64 k1], .bool false]) ∧ Below w.heap.size w w' := by
  have HCl := Lib.hid (fun W => refLfClip_any c W)
  have HCn := Lib.hid (fun W => known_any l W)
  have ho := l.cnt_ok
  have hco := c.clip_ok
  rw [hl] at HCn ho
  rw [hc] at HCl hco
  have HN : Hid (∀ W : World, Calls Tryd.prog 29 #[.int .i64 now] W fun e w' => e = .returned (.int .i64 nw) ∧ w' = W) := Lib.hid (by rw [← hw]; exact fun W => refLfTick_q now W)
  have hn0 : 0 ≤ nw := by rw [← hw]; exact am_lo _ _ _ (by omega)
  have hn1 : nw ≤ 1099511627776 := by rw [← hw]; exact am_hi _ _ _
  clear hl hc hw
  obtain ⟨s, h, k⟩ := l
  obtain ⟨T, lo, hi, st⟩ := c
  obtain ⟨T1, lo1, hi1, st1⟩ := c1
  obtain ⟨o1, o2, o3, o4, o5⟩ := ho
  obtain ⟨q1, q2, q3, q4, q5, q6, q7⟩ := hco
  simp only [LL.val, LC.val] at *
  have hwr : IntKind.i64.wrap (nw - h1) = nw - h1 := IntWalk.i64_in _ ⟨by omega, by omega⟩
  have hfd : ∀ W : World, (Instr.field 23 (.agg #[.int .i64 T1, .int .i64 lo1, .int .i64 hi1, .int .i64 st1]) 0).run Tryd.prog W = .ok (.int .i64 T1) W := fun _ => by kernel_rfl
  have hb3 : (n != 3) = true := by simp [hs]
  have hX0 : At3 25 (((w.alloc (.cells #[.int .i64 s, .int .i64 h, .int .i64 k] 25)).alloc (.cells #[.int .i64 T, .int .i64 lo, .int .i64 hi, .int .i64 st] 23)).alloc (.cells #[.int .i64 0, .int .i64 0, .int .i64 0] 25)) w.heap.size (.int .i64 s) (.int .i64 h) (.int .i64 k) := ((at3_new 25 _ _ (.int .i64 s) (.int .i64 h) (.int .i64 k) rfl).alloc _).alloc _
  have hX1 : At4 23 (((w.alloc (.cells #[.int .i64 s, .int .i64 h, .int .i64 k] 25)).alloc (.cells #[.int .i64 T, .int .i64 lo, .int .i64 hi, .int .i64 st] 23)).alloc (.cells #[.int .i64 0, .int .i64 0, .int .i64 0] 25)) (w.heap.size + 1) (.int .i64 T) (.int .i64 lo) (.int .i64 hi) (.int .i64 st) := (at4_new 23 _ _ (.int .i64 T) (.int .i64 lo) (.int .i64 hi) (.int .i64 st) (by simp)).alloc _
  have hX2 : At3 25 (((w.alloc (.cells #[.int .i64 s, .int .i64 h, .int .i64 k] 25)).alloc (.cells #[.int .i64 T, .int .i64 lo, .int .i64 hi, .int .i64 st] 23)).alloc (.cells #[.int .i64 0, .int .i64 0, .int .i64 0] 25)) (w.heap.size + 1 + 1) (.int .i64 0) (.int .i64 0) (.int .i64 0) := at3_new 25 _ _ (.int .i64 0) (.int .i64 0) (.int .i64 0) (by simp)
  have hb : Below w.heap.size w (((w.alloc (.cells #[.int .i64 s, .int .i64 h, .int .i64 k] 25)).alloc (.cells #[.int .i64 T, .int .i64 lo, .int .i64 hi, .int .i64 st] 23)).alloc (.cells #[.int .i64 0, .int .i64 0, .int .i64 0] 25)) := (((Below.refl _ _).alloc (Nat.le_refl _) _).alloc (by simp) _).alloc (by simp; omega) _
  go_enter Tryd.func11, Tryd.ntmps11
  go_upto_region 1 with fail
  generalize (((w.alloc (.cells #[.int .i64 s, .int .i64 h, .int .i64 k] 25)).alloc (.cells #[.int .i64 T, .int .i64 lo, .int .i64 hi, .int .i64 st] 23)).alloc (.cells #[.int .i64 0, .int .i64 0, .int .i64 0] 25)) = w2 at hX0 hX1 hX2 hb ⊢
  generalize hg2 : w.heap.size + 1 + 1 = g2 at hX2 ⊢
  generalize hg1 : w.heap.size + 1 = g1 at hX1 hg2 ⊢
  generalize hg0 : w.heap.size = g0 at hX0 hb hg1 ⊢
  have hne01 : g0 ≠ g1 := by omega
  have hne02 : g0 ≠ g2 := by omega
  have hle1 : g0 ≤ g1 := by omega
  have hne10 : g1 ≠ g0 := by omega
  have hne12 : g1 ≠ g2 := by omega
  have hle2 : g0 ≤ g2 := by omega
  have hne20 : g2 ≠ g0 := by omega
  have hne21 : g2 ≠ g1 := by omega
  have HG := Lib.hid hg0
  clear hg0 hg1 hg2
  obtain ⟨_, _, _⟩ := hX0.frees
  obtain ⟨_, _, _⟩ := hX0.cells
  obtain ⟨_, _, _, _⟩ := hX1.frees
  obtain ⟨_, _, _, _⟩ := hX1.cells
  obtain ⟨_, _, _⟩ := hX2.frees
  obtain ⟨_, _, _⟩ := hX2.cells
  go_wp2_with fail
  refine (HCn.out _).mono ?_
  rintro e w3 ⟨rfl, hk3⟩
  have hX0_3 := hX0.later hk3
  have hX1_3 := hX1.later hk3
  have hX2_3 := hX2.later hk3
  have hb3 := hb.trans (hk3.mono (by have := hX0.lt; omega))
  obtain ⟨_, _, _⟩ := hX0_3.frees
  obtain ⟨_, _, _⟩ := hX0_3.cells
  obtain ⟨_, _, _, _⟩ := hX1_3.frees
  obtain ⟨_, _, _, _⟩ := hX1_3.cells
  obtain ⟨_, _, _⟩ := hX2_3.frees
  obtain ⟨_, _, _⟩ := hX2_3.cells
  have hX0_4 := hX0_3.alloc (.cells #[.int .i64 n, .int .i64 h1, .int .i64 k1] 25)
  have hX1_4 := hX1_3.alloc (.cells #[.int .i64 n, .int .i64 h1, .int .i64 k1] 25)
  have hX2_4 := hX2_3.alloc (.cells #[.int .i64 n, .int .i64 h1, .int .i64 k1] 25)
  have hb4 := hb3.alloc (by have := hX0_3.lt; omega) (.cells #[.int .i64 n, .int .i64 h1, .int .i64 k1] 25)
  have hX3_4 := at3_new 25 w3 _ (.int .i64 n) (.int .i64 h1) (.int .i64 k1) rfl
  have lt0_4 := hX0_3.lt
  have lt1_4 := hX1_3.lt
  have lt2_4 := hX2_3.lt
  go_upto_region 2 with fail
  generalize (w3.alloc (.cells #[.int .i64 n, .int .i64 h1, .int .i64 k1] 25)) = w4 at hX0_4 hX1_4 hX2_4 hX3_4 hb4 ⊢
  generalize w3.heap.size = g3 at hX3_4 lt0_4 lt1_4 lt2_4 ⊢
  have hne30 : g3 ≠ g0 := by omega
  have hne03 : g0 ≠ g3 := by omega
  have hne31 : g3 ≠ g1 := by omega
  have hne13 : g1 ≠ g3 := by omega
  have hne32 : g3 ≠ g2 := by omega
  have hne23 : g2 ≠ g3 := by omega
  have hle3 : g0 ≤ g3 := by omega
  clear lt0_4 lt1_4 lt2_4
  obtain ⟨_, _, _⟩ := hX0_4.frees
  obtain ⟨_, _, _⟩ := hX0_4.cells
  obtain ⟨_, _, _, _⟩ := hX1_4.frees
  obtain ⟨_, _, _, _⟩ := hX1_4.cells
  obtain ⟨_, _, _⟩ := hX2_4.frees
  obtain ⟨_, _, _⟩ := hX2_4.cells
  obtain ⟨_, _, _⟩ := hX3_4.frees
  obtain ⟨_, _, _⟩ := hX3_4.cells
  have hXd0 := hX3_4.drew
  have hXd1 := hX1_4.drew
  obtain ⟨_, _, _⟩ := hXd0.cells
  obtain ⟨_, _, _, _⟩ := hXd1.cells
  go_cut [24] (fun z wx => z = .bool false ∧ At3 25 wx g3 (.int .i64 n) (.int .i64 h1) (.int .i64 k1) ∧ At3 25 wx g2 (.int .i64 0) (.int .i64 0) (.int .i64 0) ∧ Below g0 w wx)
  case first =>
    go_region_law (first | (go_simp; go_at_call 16; refine (HCl.out _).mono ?_; rintro e w7 ⟨rfl, hk7⟩; have hX3_7 := hXd0.later hk7; have hX2_7 := hX2_4.drew.later hk7; have hb7 : Below g0 w w7 := hb4.drew.trans (hk7.mono (by have := hX0_4.lt; show g0 ≤ w4.heap.size; omega)); obtain ⟨_, _, _⟩ := hX3_7.cells) | (go_simp; go_at_call 29; refine (HN.out _).mono ?_; rintro e w8 ⟨rfl, hq⟩; subst hq))
    all_goals
      go_wp2_with fail
      go_meet
      first
      | exact ⟨rfl, hX3_7, hX2_7, hb7⟩
      | exact ⟨by simp; omega, hX3_7, hX2_7, hb7⟩
  case rest =>
  obtain ⟨rfl, hX3_9, hX2_9, hb9⟩ := hcut
  clear hX0_4 hX1_4 hX2_4 hX3_4 hb4 hXd0 hXd1 HCl HN
  rename World => w9
  obtain ⟨_, _, _⟩ := hX3_9.cells
  obtain ⟨_, _, _⟩ := hX2_9.frees
  obtain ⟨_, _, _⟩ := hX2_9.cells
  have hZ := at3_store hX2_9 (.int .i64 n) (.int .i64 h1) (.int .i64 k1)
  have hbz := hb9.trans ((store3_only w9 g2 (.int .i64 n) (.int .i64 h1) (.int .i64 k1)).below hle2)
  obtain ⟨d0, d1, d2⟩ := hZ.cells
  go_wp2_with fail
  refine bodyPost_ret (v := .tuple #[.agg #[.int .i64 n, .int .i64 h1, .int .i64 k1], .bool false]) (by simp [results, Tryd.results11, go_sem, d0, d1, d2]) rfl ⟨rfl, by rw [HG.out]; exact hbz⟩
set_option maxHeartbeats 3200000 in
theorem refTick2_t (l : LL) (c : LC) (now n h1 k1 : Int) (c1 : LC) (nw : Int) (hl : l.cnt = ⟨n, h1, k1⟩) (hc : c.clip = c1) (hw : am 0 now 1099511627776 = nw) (hs : n ≠ 3) (ht : c1.t < nw - h1) (w : World) : Calls Tryd.prog 11 #[l.val, c.val, .int .i64 now] w fun e w' => e = .returned (.tuple #[.agg #[.int .i64 3, .int .i64 h1, .int .i64 0], .bool true]) ∧ Below w.heap.size w w' := by
  have HCl := Lib.hid (fun W => refLfClip_any c W)
  have HCn := Lib.hid (fun W => known_any l W)
  have ho := l.cnt_ok
  have hco := c.clip_ok
  rw [hl] at HCn ho
  rw [hc] at HCl hco
  have HN : Hid (∀ W : World, Calls Tryd.prog 29 #[.int .i64 now] W fun e w' => e = .returned (.int .i64 nw) ∧ w' = W) := Lib.hid (by rw [← hw]; exact fun W => refLfTick_q now W)
  have hn0 : 0 ≤ nw := by rw [← hw]; exact am_lo _ _ _ (by omega)
  have hn1 : nw ≤ 1099511627776 := by rw [← hw]; exact am_hi _ _ _
  clear hl hc hw
  obtain ⟨s, h, k⟩ := l
  obtain ⟨T, lo, hi, st⟩ := c
  obtain ⟨T1, lo1, hi1, st1⟩ := c1
  obtain ⟨o1, o2, o3, o4, o5⟩ := ho
  obtain ⟨q1, q2, q3, q4, q5, q6, q7⟩ := hco
  simp only [LL.val, LC.val] at *
  have hwr : IntKind.i64.wrap (nw - h1) = nw - h1 := IntWalk.i64_in _ ⟨by omega, by omega⟩
  have hfd : ∀ W : World, (Instr.field 23 (.agg #[.int .i64 T1, .int .i64 lo1, .int .i64 hi1, .int .i64 st1]) 0).run Tryd.prog W = .ok (.int .i64 T1) W := fun _ => by kernel_rfl
  have hb3 : (n != 3) = true := by simp [hs]
  have hX0 : At3 25 (((w.alloc (.cells #[.int .i64 s, .int .i64 h, .int .i64 k] 25)).alloc (.cells #[.int .i64 T, .int .i64 lo, .int .i64 hi, .int .i64 st] 23)).alloc (.cells #[.int .i64 0, .int .i64 0, .int .i64 0] 25)) w.heap.size (.int .i64 s) (.int .i64 h) (.int .i64 k) := ((at3_new 25 _ _ (.int .i64 s) (.int .i64 h) (.int .i64 k) rfl).alloc _).alloc _
  have hX1 : At4 23 (((w.alloc (.cells #[.int .i64 s, .int .i64 h, .int .i64 k] 25)).alloc (.cells #[.int .i64 T, .int .i64 lo, .int .i64 hi, .int .i64 st] 23)).alloc (.cells #[.int .i64 0, .int .i64 0, .int .i64 0] 25)) (w.heap.size + 1) (.int .i64 T) (.int .i64 lo) (.int .i64 hi) (.int .i64 st) := (at4_new 23 _ _ (.int .i64 T) (.int .i64 lo) (.int .i64 hi) (.int .i64 st) (by simp)).alloc _
  have hX2 : At3 25 (((w.alloc (.cells #[.int .i64 s, .int .i64 h, .int .i64 k] 25)).alloc (.cells #[.int .i64 T, .int .i64 lo, .int .i64 hi, .int .i64 st] 23)).alloc (.cells #[.int .i64 0, .int .i64 0, .int .i64 0] 25)) (w.heap.size + 1 + 1) (.int .i64 0) (.int .i64 0) (.int .i64 0) := at3_new 25 _ _ (.int .i64 0) (.int .i64 0) (.int .i64 0) (by simp)
  have hb : Below w.heap.size w (((w.alloc (.cells #[.int .i64 s, .int .i64 h, .int .i64 k] 25)).alloc (.cells #[.int .i64 T, .int .i64 lo, .int .i64 hi, .int .i64 st] 23)).alloc (.cells #[.int .i64 0, .int .i64 0, .int .i64 0] 25)) := (((Below.refl _ _).alloc (Nat.le_refl _) _).alloc (by simp) _).alloc (by simp; omega) _
  go_enter Tryd.func11, Tryd.ntmps11
  go_upto_region 1 with fail
  generalize (((w.alloc (.cells #[.int .i64 s, .int .i64 h, .int .i64 k] 25)).alloc (.cells #[.int .i64 T, .int .i64 lo, .int .i64 hi, .int .i64 st] 23)).alloc (.cells #[.int .i64 0, .int .i64 0, .int .i64 0] 25)) = w2 at hX0 hX1 hX2 hb ⊢
  generalize hg2 : w.heap.size + 1 + 1 = g2 at hX2 ⊢
  generalize hg1 : w.heap.size + 1 = g1 at hX1 hg2 ⊢
  generalize hg0 : w.heap.size = g0 at hX0 hb hg1 ⊢
  have hne01 : g0 ≠ g1 := by omega
  have hne02 : g0 ≠ g2 := by omega
  have hle1 : g0 ≤ g1 := by omega
  have hne10 : g1 ≠ g0 := by omega
  have hne12 : g1 ≠ g2 := by omega
  have hle2 : g0 ≤ g2 := by omega
  have hne20 : g2 ≠ g0 := by omega
  have hne21 : g2 ≠ g1 := by omega
  have HG := Lib.hid hg0
  clear hg0 hg1 hg2
  obtain ⟨_, _, _⟩ := hX0.frees
  obtain ⟨_, _, _⟩ := hX0.cells
  obtain ⟨_, _, _, _⟩ := hX1.frees
  obtain ⟨_, _, _, _⟩ := hX1.cells
  obtain ⟨_, _, _⟩ := hX2.frees
  obtain ⟨_, _, _⟩ := hX2.cells
  go_wp2_with fail
  refine (HCn.out _).mono ?_
  rintro e w3 ⟨rfl, hk3⟩
  have hX0_3 := hX0.later hk3
  have hX1_3 := hX1.later hk3
  have hX2_3 := hX2.later hk3
  have hb3 := hb.trans (hk3.mono (by have := hX0.lt; omega))
  obtain ⟨_, _, _⟩ := hX0_3.frees
  obtain ⟨_, _, _⟩ := hX0_3.cells
  obtain ⟨_, _, _, _⟩ := hX1_3.frees
  obtain ⟨_, _, _, _⟩ := hX1_3.cells
  obtain ⟨_, _, _⟩ := hX2_3.frees
  obtain ⟨_, _, _⟩ := hX2_3.cells
  have hX0_4 := hX0_3.alloc (.cells #[.int .i64 n, .int .i64 h1, .int .i64 k1] 25)
  have hX1_4 := hX1_3.alloc (.cells #[.int .i64 n, .int .i64 h1, .int .i64 k1] 25)
  have hX2_4 := hX2_3.alloc (.cells #[.int .i64 n, .int .i64 h1, .int .i64 k1] 25)
  have hb4 := hb3.alloc (by have := hX0_3.lt; omega) (.cells #[.int .i64 n, .int .i64 h1, .int .i64 k1] 25)
  have hX3_4 := at3_new 25 w3 _ (.int .i64 n) (.int .i64 h1) (.int .i64 k1) rfl
  have lt0_4 := hX0_3.lt
  have lt1_4 := hX1_3.lt
  have lt2_4 := hX2_3.lt
  go_upto_region 2 with fail
  generalize (w3.alloc (.cells #[.int .i64 n, .int .i64 h1, .int .i64 k1] 25)) = w4 at hX0_4 hX1_4 hX2_4 hX3_4 hb4 ⊢
  generalize w3.heap.size = g3 at hX3_4 lt0_4 lt1_4 lt2_4 ⊢
  have hne30 : g3 ≠ g0 := by omega
  have hne03 : g0 ≠ g3 := by omega
  have hne31 : g3 ≠ g1 := by omega
  have hne13 : g1 ≠ g3 := by omega
  have hne32 : g3 ≠ g2 := by omega
  have hne23 : g2 ≠ g3 := by omega
  have hle3 : g0 ≤ g3 := by omega
  clear lt0_4 lt1_4 lt2_4
  obtain ⟨_, _, _⟩ := hX0_4.frees
  obtain ⟨_, _, _⟩ := hX0_4.cells
  obtain ⟨_, _, _, _⟩ := hX1_4.frees
  obtain ⟨_, _, _, _⟩ := hX1_4.cells
  obtain ⟨_, _, _⟩ := hX2_4.frees
  obtain ⟨_, _, _⟩ := hX2_4.cells
  obtain ⟨_, _, _⟩ := hX3_4.frees
  obtain ⟨_, _, _⟩ := hX3_4.cells
  have hXd0 := hX3_4.drew
  have hXd1 := hX1_4.drew
  obtain ⟨_, _, _⟩ := hXd0.cells
  obtain ⟨_, _, _, _⟩ := hXd1.cells
  go_cut [24] (fun z wx => z = .bool true ∧ At3 25 wx g3 (.int .i64 n) (.int .i64 h1) (.int .i64 k1) ∧ At3 25 wx g2 (.int .i64 0) (.int .i64 0) (.int .i64 0) ∧ Below g0 w wx)
  case first =>
    go_region_law (first | (go_simp; go_at_call 16; refine (HCl.out _).mono ?_; rintro e w7 ⟨rfl, hk7⟩; have hX3_7 := hXd0.later hk7; have hX2_7 := hX2_4.drew.later hk7; have hb7 : Below g0 w w7 := hb4.drew.trans (hk7.mono (by have := hX0_4.lt; show g0 ≤ w4.heap.size; omega)); obtain ⟨_, _, _⟩ := hX3_7.cells) | (go_simp; go_at_call 29; refine (HN.out _).mono ?_; rintro e w8 ⟨rfl, hq⟩; subst hq))
    all_goals
      go_wp2_with fail
      go_meet
      first
      | exact ⟨rfl, hX3_7, hX2_7, hb7⟩
      | exact ⟨by simp; omega, hX3_7, hX2_7, hb7⟩
  case rest =>
  obtain ⟨rfl, hX3_9, hX2_9, hb9⟩ := hcut
  clear hX0_4 hX1_4 hX2_4 hX3_4 hb4 hXd0 hXd1 HCl HN
  rename World => w9
  obtain ⟨_, _, _⟩ := hX3_9.cells
  obtain ⟨_, _, _⟩ := hX2_9.frees
  obtain ⟨_, _, _⟩ := hX2_9.cells
  have hZ := at3_store hX2_9 (.int .i64 3) (.int .i64 h1) (.int .i64 0)
  have hbz := hb9.trans ((store3_only w9 g2 (.int .i64 3) (.int .i64 h1) (.int .i64 0)).below hle2)
  obtain ⟨d0, d1, d2⟩ := hZ.cells
  go_wp2_with fail
  refine bodyPost_ret (v := .tuple #[.agg #[.int .i64 3, .int .i64 h1, .int .i64 0], .bool true]) (by simp [results, Tryd.results11, go_sem, d0, d1, d2]) rfl ⟨rfl, by rw [HG.out]; exact hbz⟩
end Go.Proofs.YtggcfoegpadepaaDoor
