/- life: Report. -/
import Derived.Test.YtggcfoegpadepaaDoorLfE
namespace Go.Proofs.YtggcfoegpadepaaDoor
open Go.RowKit
set_option linter.unusedVariables false
theorem strike_any (n : Nat) (hn : n < 4) (h k most : Int) (m0 : 1 ≤ most) (m1 : most ≤ 100) (k0 : 0 ≤ k) (w : World) (htb : Tb w) : Calls Tryd.prog 27 #[.agg #[.int .i64 n, .int .i64 h, .int .i64 k], .int .i64 most] w fun e w' => e = .returned (if (n : Int) = 3 ∨ most - 1 ≤ k then LL.mk 3 h 0 else ⟨bHigh n, h, k + 1⟩).val ∧ Below w.heap.size w w' := by
  by_cases h3 : n = 3
  · subst h3; rw [if_pos (show ((3 : Nat) : Int) = 3 ∨ most - 1 ≤ k from Or.inl rfl)]; exact strike0_any h k most m0 m1 k0 w htb
  by_cases h4 : most - 1 ≤ k
  · rw [if_pos (Or.inr h4)]; exact strike1_any h k most m0 m1 k0 n (by omega) h4 w htb
  · rw [if_neg (by omega)]; exact strike2_any h k most m0 m1 k0 n (by omega) (by omega) w htb
set_option maxHeartbeats 3200000 in
theorem rep_t (l : LL) (c : LC) (f now : Int) (n : Nat) (h1 k1 : Int) (c1 : LC) (nw ns ks : Int) (q : Bool) (hl : l.cnt = ⟨n, h1, k1⟩) (hc : c.clip = c1) (hw : am 0 now 1099511627776 = nw) (HR : Hid (LL.rep ⟨n, h1, k1⟩ c1 f nw = ⟨ns, nw, ks⟩)) (HQ : Hid ((ns != (n : Int)) = q)) (w : World) (htb : Tb w) : Calls Tryd.prog 8 #[l.val, c.val, .int .i64 f, .int .i64 now] w fun e w' => e = .returned (.tuple #[.agg #[.int .i64 ns, .int .i64 nw, .int .i64 ks], .bool q]) ∧ Below w.heap.size w w' := by
  have HCl := Lib.hid (fun W => lfClip_any c W)
  have HCn := Lib.hid (fun W => cntd_any l W)
  have ho := l.cnt_ok
  have hco := c.clip_ok
  rw [hl] at HCn ho
  rw [hc] at HCl hco
  have HN : Hid (∀ W : World, Calls Tryd.prog 26 #[.int .i64 now] W fun e w' => e = .returned (.int .i64 nw) ∧ w' = W) := Lib.hid (by rw [← hw]; exact fun W => lfTick_q now W)
  have HTB := Lib.hid (fun (W : World) (hb : Below w.heap.size w W) => htb.later hb)
  clear hl hc hw htb
  obtain ⟨s, h, k⟩ := l
  obtain ⟨T, lo, hi, st⟩ := c
  obtain ⟨T1, lo1, hi1, st1⟩ := c1
  obtain ⟨o1, o2, o3, o4, o5⟩ := ho
  obtain ⟨q1, q2, q3, q4, q5, q6, q7⟩ := hco
  have hn4 : n < 4 := by simp only at o2; omega
  simp only [LL.val, LC.val] at *
  clear o1 o2
  have hX0 : At3 28 (((w.alloc (.cells #[.int .i64 s, .int .i64 h, .int .i64 k] 28)).alloc (.cells #[.int .i64 T, .int .i64 lo, .int .i64 hi, .int .i64 st] 33)).alloc (.cells #[.int .i64 0, .int .i64 0, .int .i64 0] 28)) w.heap.size (.int .i64 s) (.int .i64 h) (.int .i64 k) := ((at3_new 28 _ _ (.int .i64 s) (.int .i64 h) (.int .i64 k) rfl).alloc _).alloc _
  have hX1 : At4 33 (((w.alloc (.cells #[.int .i64 s, .int .i64 h, .int .i64 k] 28)).alloc (.cells #[.int .i64 T, .int .i64 lo, .int .i64 hi, .int .i64 st] 33)).alloc (.cells #[.int .i64 0, .int .i64 0, .int .i64 0] 28)) (w.heap.size + 1) (.int .i64 T) (.int .i64 lo) (.int .i64 hi) (.int .i64 st) := (at4_new 33 _ _ (.int .i64 T) (.int .i64 lo) (.int .i64 hi) (.int .i64 st) (by simp)).alloc _
  have hX2 : At3 28 (((w.alloc (.cells #[.int .i64 s, .int .i64 h, .int .i64 k] 28)).alloc (.cells #[.int .i64 T, .int .i64 lo, .int .i64 hi, .int .i64 st] 33)).alloc (.cells #[.int .i64 0, .int .i64 0, .int .i64 0] 28)) (w.heap.size + 1 + 1) (.int .i64 0) (.int .i64 0) (.int .i64 0) := at3_new 28 _ _ (.int .i64 0) (.int .i64 0) (.int .i64 0) (by simp)
  have hb : Below w.heap.size w (((w.alloc (.cells #[.int .i64 s, .int .i64 h, .int .i64 k] 28)).alloc (.cells #[.int .i64 T, .int .i64 lo, .int .i64 hi, .int .i64 st] 33)).alloc (.cells #[.int .i64 0, .int .i64 0, .int .i64 0] 28)) := (((Below.refl _ _).alloc (Nat.le_refl _) _).alloc (by simp) _).alloc (by simp; omega) _
  go_enter Tryd.func8, Tryd.ntmps8
  go_upto_region 1 with fail
  generalize (((w.alloc (.cells #[.int .i64 s, .int .i64 h, .int .i64 k] 28)).alloc (.cells #[.int .i64 T, .int .i64 lo, .int .i64 hi, .int .i64 st] 33)).alloc (.cells #[.int .i64 0, .int .i64 0, .int .i64 0] 28)) = w2 at hX0 hX1 hX2 hb ⊢
  generalize hg2 : w.heap.size + 1 + 1 = g2 at hX2 ⊢
  generalize hg1 : w.heap.size + 1 = g1 at hX1 hg2 ⊢
  generalize hg0 : w.heap.size = g0 at hX0 hb hg1 ⊢
  have hne01 : g0 ≠ g1 := by omega
  have hne02 : g0 ≠ g2 := by omega
  have hle1 : g0 ≤ g1 := by omega
  have hne10 : g1 ≠ g0 := by omega
  have hne12 : g1 ≠ g2 := by omega
  have hle2 : g0 ≤ g2 := by omega
  have hne20 : g2 ≠ g0 := by omega
  have hne21 : g2 ≠ g1 := by omega
  have HG := Lib.hid hg0
  clear hg0 hg1 hg2
  obtain ⟨_, _, _⟩ := hX0.frees
  obtain ⟨_, _, _⟩ := hX0.cells
  obtain ⟨_, _, _, _⟩ := hX1.frees
  obtain ⟨_, _, _, _⟩ := hX1.cells
  obtain ⟨_, _, _⟩ := hX2.frees
  obtain ⟨_, _, _⟩ := hX2.cells
  go_cut [] (fun wx => At3 28 wx g0 (.int .i64 n) (.int .i64 h1) (.int .i64 k1) ∧ At4 33 wx g1 (.int .i64 T1) (.int .i64 lo1) (.int .i64 hi1) (.int .i64 st1) ∧ At3 28 wx g2 (.int .i64 0) (.int .i64 0) (.int .i64 0) ∧ Below g0 w wx)
  case first =>
    go_region_with (first | (go_at_call 15; refine (HCl.out _).mono ?_; rintro e w3 ⟨rfl, hk3⟩; have hX0_3 := hX0.drew.later hk3; have hX1_3 := hX1.drew.later hk3; have hX2_3 := hX2.drew.later hk3; have hb3 : Below g0 w w3 := hb.drew.trans (hk3.mono (by have := hX0.lt; show g0 ≤ w2.heap.size; omega)); obtain ⟨_, _, _⟩ := hX0_3.cells) | (go_at_call 25; refine (HCn.out _).mono ?_; rintro e w4 ⟨rfl, hk4⟩; have hX0_4 := hX0_3.later hk4; have hX1_4 := hX1_3.later hk4; have hX2_4 := hX2_3.later hk4; have hb4 : Below g0 w w4 := hb3.trans (hk4.mono (by have := hX0_3.lt; omega)); obtain ⟨_, _, _⟩ := hX0_4.frees; obtain ⟨_, _, _⟩ := hX0_4.cells; obtain ⟨_, _, _, _⟩ := hX1_4.frees; obtain ⟨_, _, _, _⟩ := hX1_4.cells))
    all_goals
      go_wp2_with fail
      go_meet
      exact ⟨at3_store (hX0_4.only hne01 (put4_only w4 g1 (.int .i64 T1) (.int .i64 lo1) (.int .i64 hi1) (.int .i64 st1))) (.int .i64 n) (.int .i64 h1) (.int .i64 k1), (at4_put hX1_4 (.int .i64 T1) (.int .i64 lo1) (.int .i64 hi1) (.int .i64 st1)).only hne10 (store3_only _ g0 (.int .i64 n) (.int .i64 h1) (.int .i64 k1)), (hX2_4.only hne21 (put4_only w4 g1 (.int .i64 T1) (.int .i64 lo1) (.int .i64 hi1) (.int .i64 st1))).only hne20 (store3_only _ g0 (.int .i64 n) (.int .i64 h1) (.int .i64 k1)), (hb4.trans ((put4_only w4 g1 (.int .i64 T1) (.int .i64 lo1) (.int .i64 hi1) (.int .i64 st1)).below hle1)).trans ((store3_only _ g0 (.int .i64 n) (.int .i64 h1) (.int .i64 k1)).below (Nat.le_refl _))⟩
  case rest =>
  obtain ⟨hX0_5, hX1_5, hX2_5, hb5⟩ := hcut
  clear hX0 hX1 hX2 hb HCl HCn
  rename World => w5
  obtain ⟨_, _, _⟩ := hX0_5.frees
  obtain ⟨_, _, _⟩ := hX0_5.cells
  obtain ⟨_, _, _, _⟩ := hX1_5.frees
  obtain ⟨_, _, _, _⟩ := hX1_5.cells
  obtain ⟨_, _, _⟩ := hX2_5.frees
  obtain ⟨_, _, _⟩ := hX2_5.cells
  go_upto_region 2 with fail
  have hXa := (hX0_5.alloc (.cells #[.int .i64 0, .int .i64 0, .int .i64 0] 28)).drew
  have hXb := hX0_5.drew
  obtain ⟨_, _, _⟩ := hXa.cells
  obtain ⟨_, _, _⟩ := hXb.cells
  go_cut [10] (fun z wx => ∃ gn, z = .pointer (some ⟨gn, 0, none⟩) ∧ g2 < gn ∧ g1 < gn ∧ g0 < gn ∧ At3 28 wx gn (.int .i64 n) (.int .i64 nw) (.int .i64 k1) ∧ At3 28 wx g0 (.int .i64 n) (.int .i64 h1) (.int .i64 k1) ∧ At4 33 wx g1 (.int .i64 T1) (.int .i64 lo1) (.int .i64 hi1) (.int .i64 st1) ∧ At3 28 wx g2 (.int .i64 0) (.int .i64 0) (.int .i64 0) ∧ Below g0 w wx)
  case first =>
    go_region_law (first | (go_simp; go_at_call 26; refine (HN.out _).mono ?_; rintro e w6 ⟨rfl, hq⟩; subst hq))
    all_goals
      go_wp2_with fail
      go_meet
      exact ⟨_, rfl, hX2_5.lt, hX1_5.lt, hX0_5.lt, (at3_new 28 w5 _ (.int .i64 n) (.int .i64 nw) (.int .i64 k1) rfl).drew, (hX0_5.alloc _).drew, (hX1_5.alloc _).drew, (hX2_5.alloc _).drew, (hb5.alloc (Nat.le_of_lt hX0_5.lt) _).drew⟩
  case rest =>
  obtain ⟨g3, rfl, hg32, hg31, hg30, hX3_6, hX0_6, hX1_6, hX2_6, hb6⟩ := hcut
  clear hX0_5 hX1_5 hX2_5 hb5 hXa hXb HN
  rename World => w6
  have hne30 : g3 ≠ g0 := by omega
  have hne31 : g3 ≠ g1 := by omega
  have hne32 : g3 ≠ g2 := by omega
  have hne03 : g0 ≠ g3 := by omega
  have hne13 : g1 ≠ g3 := by omega
  have hne23 : g2 ≠ g3 := by omega
  have hle3 : g0 ≤ g3 := by omega
  clear hg32 hg31 hg30
  obtain ⟨_, _, _⟩ := hX0_6.frees
  obtain ⟨_, _, _⟩ := hX0_6.cells
  obtain ⟨_, _, _, _⟩ := hX1_6.frees
  obtain ⟨_, _, _, _⟩ := hX1_6.cells
  obtain ⟨_, _, _⟩ := hX2_6.frees
  obtain ⟨_, _, _⟩ := hX2_6.cells
  obtain ⟨_, _, _⟩ := hX3_6.frees
  obtain ⟨_, _, _⟩ := hX3_6.cells
  by_cases hf : f ≤ lo1
  · have e := HR.out
    rw [LL.rep, if_pos hf] at e
    simp only [LL.mk.injEq] at e
    obtain ⟨rfl, _, rfl⟩ := e
    have hc := (HTB.out _ (by rw [HG.out]; exact hb6) n hn4).1
    clear HR HTB
    go_upto_region 7 with fail
    have hX3_7 := (at3_set2 (at3_set0 hX3_6 (.int .i64 (bLow n))) (.int .i64 0))
    have ho7 := (((Only.refl g3 w6).setCell 0 (.int .i64 (bLow n))).setCell 2 (.int .i64 0))
    have hX0_7 := hX0_6.only hne03 ho7
    have hX1_7 := hX1_6.only hne13 ho7
    have hX2_7 := hX2_6.only hne23 ho7
    have hb7 := hb6.trans (ho7.below hle3)
    generalize ((w6.setCell ⟨g3, 0, none⟩ (.int .i64 (bLow n))).setCell ⟨g3, 2, none⟩ (.int .i64 0)) = w7 at hX0_7 hX1_7 hX2_7 hX3_7 hb7 ⊢
    clear ho7
    obtain ⟨_, _, _⟩ := hX0_7.frees
    obtain ⟨_, _, _⟩ := hX0_7.cells
    obtain ⟨_, _, _, _⟩ := hX1_7.frees
    obtain ⟨_, _, _, _⟩ := hX1_7.cells
    obtain ⟨_, _, _⟩ := hX2_7.frees
    obtain ⟨_, _, _⟩ := hX2_7.cells
    obtain ⟨_, _, _⟩ := hX3_7.frees
    obtain ⟨_, _, _⟩ := hX3_7.cells
    have hq := HQ.out
    clear HQ
    go_region_held3 (fun W => W.cell? ⟨g3, 0, none⟩ = some (.int .i64 (bLow n)) ∧ W.cell? ⟨g3, 1, none⟩ = some (.int .i64 nw) ∧ W.cell? ⟨g3, 2, none⟩ = some (.int .i64 0) ∧ W.cell? ⟨g0, 0, none⟩ = some (.int .i64 n)) (first | (go_keep; done) | with_reducible exact ⟨hX3_7.drew.cells.1, hX3_7.drew.cells.2.1, hX3_7.drew.cells.2.2, hX0_7.drew.cells.1⟩) (fail)
    all_goals
      have hZ := at3_store hX2_7 (.int .i64 (bLow n)) (.int .i64 nw) (.int .i64 0)
      have hbz := hb7.trans ((store3_only w7 g2 (.int .i64 (bLow n)) (.int .i64 nw) (.int .i64 0)).below hle2)
      obtain ⟨d0, d1, d2⟩ := hZ.cells
      go_wp2_with fail
      refine bodyPost_ret (v := .tuple #[.agg #[.int .i64 (bLow n), .int .i64 nw, .int .i64 0], .bool q]) (by simp [results, Tryd.results8, go_sem, d0, d1, d2]) rfl ⟨rfl, by rw [HG.out]; exact hbz.drew⟩
  by_cases hg : hi1 < f
  · have e := HR.out
    rw [LL.rep, if_neg hf, if_pos hg] at e
    simp only at e
    have HS := strike_any n hn4 nw k1 st1 q6 q7 o5 _ (HTB.out _ (by rw [HG.out]; exact hb6))
    rw [e] at HS
    simp only [LL.val] at HS
    have HS2 := Lib.hid HS
    clear HR HTB HS e
    go_upto_region 6 with fail
    go_wp2_with fail
    refine (HS2.out).mono ?_
    rintro e w7 ⟨rfl, hk7⟩
    have hX0_7 := hX0_6.later hk7
    have hX1_7 := hX1_6.later hk7
    have hX2_7 := hX2_6.later hk7
    have hX3_7 := hX3_6.later hk7
    have hb7 := hb6.trans (hk7.mono (by have := hX0_6.lt; omega))
    obtain ⟨_, _, _⟩ := hX0_7.frees
    obtain ⟨_, _, _⟩ := hX0_7.cells
    obtain ⟨_, _, _, _⟩ := hX1_7.frees
    obtain ⟨_, _, _, _⟩ := hX1_7.cells
    obtain ⟨_, _, _⟩ := hX2_7.frees
    obtain ⟨_, _, _⟩ := hX2_7.cells
    obtain ⟨_, _, _⟩ := hX3_7.frees
    obtain ⟨_, _, _⟩ := hX3_7.cells
    go_upto_region 7 with fail
    have hX3_8 := at3_store hX3_7 (.int .i64 ns) (.int .i64 nw) (.int .i64 ks)
    have ho8 := store3_only w7 g3 (.int .i64 ns) (.int .i64 nw) (.int .i64 ks)
    have hX0_8 := hX0_7.only hne03 ho8
    have hX1_8 := hX1_7.only hne13 ho8
    have hX2_8 := hX2_7.only hne23 ho8
    have hb8 := hb7.trans (ho8.below hle3)
    generalize (((w7.setCell ⟨g3, 0, none⟩ (.int .i64 ns)).setCell ⟨g3, 1, none⟩ (.int .i64 nw)).setCell ⟨g3, 2, none⟩ (.int .i64 ks)) = w8 at hX0_8 hX1_8 hX2_8 hX3_8 hb8 ⊢
    clear ho8
    obtain ⟨_, _, _⟩ := hX0_8.frees
    obtain ⟨_, _, _⟩ := hX0_8.cells
    obtain ⟨_, _, _, _⟩ := hX1_8.frees
    obtain ⟨_, _, _, _⟩ := hX1_8.cells
    obtain ⟨_, _, _⟩ := hX2_8.frees
    obtain ⟨_, _, _⟩ := hX2_8.cells
    obtain ⟨_, _, _⟩ := hX3_8.frees
    obtain ⟨_, _, _⟩ := hX3_8.cells
    have hq := HQ.out
    clear HQ
    go_region_held3 (fun W => W.cell? ⟨g3, 0, none⟩ = some (.int .i64 ns) ∧ W.cell? ⟨g3, 1, none⟩ = some (.int .i64 nw) ∧ W.cell? ⟨g3, 2, none⟩ = some (.int .i64 ks) ∧ W.cell? ⟨g0, 0, none⟩ = some (.int .i64 n)) (first | (go_keep; done) | with_reducible exact ⟨hX3_8.drew.cells.1, hX3_8.drew.cells.2.1, hX3_8.drew.cells.2.2, hX0_8.drew.cells.1⟩) (fail)
    all_goals
      have hZ := at3_store hX2_8 (.int .i64 ns) (.int .i64 nw) (.int .i64 ks)
      have hbz := hb8.trans ((store3_only w8 g2 (.int .i64 ns) (.int .i64 nw) (.int .i64 ks)).below hle2)
      obtain ⟨d0, d1, d2⟩ := hZ.cells
      go_wp2_with fail
      refine bodyPost_ret (v := .tuple #[.agg #[.int .i64 ns, .int .i64 nw, .int .i64 ks], .bool q]) (by simp [results, Tryd.results8, go_sem, d0, d1, d2]) rfl ⟨rfl, by rw [HG.out]; exact hbz.drew⟩
  · have e := HR.out
    rw [LL.rep, if_neg hf, if_neg hg] at e
    simp only [LL.mk.injEq] at e
    obtain ⟨rfl, _, rfl⟩ := e
    clear HR HTB
    obtain rfl : q = false := by rw [← HQ.out]; simp
    go_upto_region 7 with fail
    clear HQ
    go_region_held3 (fun W => W.cell? ⟨g3, 0, none⟩ = some (.int .i64 n) ∧ W.cell? ⟨g3, 1, none⟩ = some (.int .i64 nw) ∧ W.cell? ⟨g3, 2, none⟩ = some (.int .i64 k1) ∧ W.cell? ⟨g0, 0, none⟩ = some (.int .i64 n)) (first | (go_keep; done) | with_reducible exact ⟨hX3_6.drew.cells.1, hX3_6.drew.cells.2.1, hX3_6.drew.cells.2.2, hX0_6.drew.cells.1⟩) (fail)
    all_goals
      have hZ := at3_store hX2_6 (.int .i64 n) (.int .i64 nw) (.int .i64 k1)
      have hbz := hb6.trans ((store3_only w6 g2 (.int .i64 n) (.int .i64 nw) (.int .i64 k1)).below hle2)
      obtain ⟨d0, d1, d2⟩ := hZ.cells
      go_wp2_with fail
      refine bodyPost_ret (v := .tuple #[.agg #[.int .i64 n, .int .i64 nw, .int .i64 k1], .bool false]) (by simp [results, Tryd.results8, go_sem, d0, d1, d2]) rfl ⟨rfl, by rw [HG.out]; exact hbz.drew⟩
end Go.Proofs.YtggcfoegpadepaaDoor
