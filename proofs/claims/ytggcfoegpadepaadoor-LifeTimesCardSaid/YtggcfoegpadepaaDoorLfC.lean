/- life: among, tick, Clip, New, counted, ended; the document's tick, Clip, Known. -/
import Derived.Test.YtggcfoegpadepaaDoorLfB
import Derived.Deep.RegionHeld3
import Derived.Deep.QuietTactic
import Derived.BigQuiet
import Derived.Deep.DeepCutAuto
import Derived.Deep.CutBlock
import Derived.RegionTactic
import Derived.BigRegion
import Derived.Deep.RegionWith
namespace Go.Proofs.YtggcfoegpadepaaDoor
open Go.RowKit
set_option linter.unusedVariables false
theorem among_q (a n b : Int) (w : World) : Calls Tryd.prog 31 #[.int .i64 a, .int .i64 n, .int .i64 b] w fun e w' => e = .returned (.int .i64 (am a n b)) ∧ w' = w := by
  go_enter Tryd.func31, Tryd.ntmps31
  go_wp2
  go_ret
  exact ⟨rfl, rfl⟩
theorem lfTick_q (n : Int) (w : World) : Calls Tryd.prog 26 #[.int .i64 n] w fun e w' => e = .returned (.int .i64 (am 0 n 1099511627776)) ∧ w' = w := by
  go_enter Tryd.func26, Tryd.ntmps26
  go_wp2_with fail
  refine (among_q _ _ _ _).mono ?_
  rintro e w' ⟨rfl, rfl⟩
  go_wp2
  go_ret
  exact ⟨rfl, rfl⟩
theorem refLfTick_q (n : Int) (w : World) : Calls Tryd.prog 29 #[.int .i64 n] w fun e w' => e = .returned (.int .i64 (am 0 n 1099511627776)) ∧ w' = w := by
  rw [← am_alt 0 n 1099511627776 (by omega)]
  go_enter Tryd.func29, Tryd.ntmps29
  go_wp2
  go_ret
  exact ⟨rfl, rfl⟩
theorem clipS {T : TypeId} {W : World} {g : Nat} {c0 c1 c2 c3 : Value} (h : At4 T W g c0 c1 c2 c3) : W.cell? ⟨g, 0, none⟩ = some c0 ∧ W.cell? ⟨g, 2, none⟩ = some c2 ∧ W.cell? ⟨g, 3, none⟩ = some c3 := ⟨h.cells.1, h.cells.2.2.1, h.cells.2.2.2⟩
set_option maxHeartbeats 3200000 in
theorem lfClip_any (c : LC) (w : World) : Calls Tryd.prog 15 #[c.val] w fun e w' => e = .returned c.clip.val ∧ Below w.heap.size w w' := by
  obtain ⟨t, lo, hi, st⟩ := c
  simp only [LC.val, LC.clip]
  have hX : At4 33 ((w.alloc (.cells #[.int .i64 t, .int .i64 lo, .int .i64 hi, .int .i64 st] 33)).alloc (.cells #[.int .i64 0, .int .i64 0, .int .i64 0, .int .i64 0] 33)) w.heap.size (.int .i64 t) (.int .i64 lo) (.int .i64 hi) (.int .i64 st) := (at4_new 33 w _ _ _ _ _ rfl).alloc _
  have hY : At4 33 ((w.alloc (.cells #[.int .i64 t, .int .i64 lo, .int .i64 hi, .int .i64 st] 33)).alloc (.cells #[.int .i64 0, .int .i64 0, .int .i64 0, .int .i64 0] 33)) (w.heap.size + 1) (.int .i64 0) (.int .i64 0) (.int .i64 0) (.int .i64 0) := at4_new 33 _ _ _ _ _ _ (by simp)
  have hb : Below w.heap.size w ((w.alloc (.cells #[.int .i64 t, .int .i64 lo, .int .i64 hi, .int .i64 st] 33)).alloc (.cells #[.int .i64 0, .int .i64 0, .int .i64 0, .int .i64 0] 33)) := ((Below.refl _ _).alloc (Nat.le_refl _) _).alloc (by simp) _
  go_enter Tryd.func15, Tryd.ntmps15
  go_upto_region 1 with fail
  generalize ((w.alloc (.cells #[.int .i64 t, .int .i64 lo, .int .i64 hi, .int .i64 st] 33)).alloc (.cells #[.int .i64 0, .int .i64 0, .int .i64 0, .int .i64 0] 33)) = w2 at hX hY hb ⊢
  generalize hg2 : w.heap.size + 1 = g2 at hY ⊢
  generalize hg : w.heap.size = g at hX hb hg2 ⊢
  have hgle : g ≤ g2 := by omega
  have hne : g ≠ g2 := by omega
  have HG := Lib.hid hg
  clear hg hg2
  obtain ⟨_, _, _, _⟩ := hX.cells
  obtain ⟨_, _, _, _⟩ := hY.frees
  obtain ⟨_, _, _, _⟩ := hY.cells
  go_wp2_with fail
  refine (among_q _ _ _ _).mono ?_
  rintro e w' ⟨rfl, rfl⟩
  go_upto_region 2 with fail

  go_region_held3 (fun W => W.cell? ⟨g, 0, none⟩ = some (.int .i64 t) ∧ W.cell? ⟨g, 2, none⟩ = some (.int .i64 hi) ∧ W.cell? ⟨g, 3, none⟩ = some (.int .i64 st)) (first | (go_keep; done) | with_reducible exact clipS hX.drew | with_reducible exact clipS (At4.only hX.drew hne (put4_only _ _ _ _ _ _))) (first | (go_at_call 31; refine (among_q _ _ _ _).mono ?_; rintro e w' ⟨rfl, rfl⟩))
  all_goals
    have hZ := at4_put hY (.int .i64 (am 1 t 1048576)) (.int .i64 (am 0 lo 255)) (.int .i64 (am (am 0 lo 255) hi 255)) (.int .i64 (am 1 st 100))
    have hbz := hb.trans ((put4_only w' g2 (.int .i64 (am 1 t 1048576)) (.int .i64 (am 0 lo 255)) (.int .i64 (am (am 0 lo 255) hi 255)) (.int .i64 (am 1 st 100))).below hgle)
    obtain ⟨d0, d1, d2, d3⟩ := hZ.cells
    go_wp2_with fail
    refine bodyPost_ret (v := .agg #[.int .i64 (am 1 t 1048576), .int .i64 (am 0 lo 255), .int .i64 (am (am 0 lo 255) hi 255), .int .i64 (am 1 st 100)]) (by simp [results, Tryd.results15, go_sem, d0, d1, d2, d3]) rfl ⟨rfl, by rw [HG.out]; exact hbz.drew⟩
theorem refLfClip_any (c : LC) (w : World) : Calls Tryd.prog 16 #[c.val] w fun e w' => e = .returned c.clip.val ∧ Below w.heap.size w w' := by
  obtain ⟨t, lo, hi, st⟩ := c
  simp only [LC.val, LC.clip]
  rw [← am_alt 1 t 1048576 (by omega), ← am_alt 1 st 100 (by omega), ← am_alt (am 0 lo 255) hi 255 (am_hi _ _ _), ← am_alt 0 lo 255 (by omega), show max (max 0 (min lo 255)) (min hi 255) = max 0 (max (min lo 255) (min hi 255)) by omega]
  have hX : At4 23 ((w.alloc (.cells #[.int .i64 t, .int .i64 lo, .int .i64 hi, .int .i64 st] 23)).alloc (.cells #[.int .i64 0, .int .i64 0, .int .i64 0, .int .i64 0] 23)) w.heap.size (.int .i64 t) (.int .i64 lo) (.int .i64 hi) (.int .i64 st) := (at4_new 23 w _ _ _ _ _ rfl).alloc _
  have hY : At4 23 ((w.alloc (.cells #[.int .i64 t, .int .i64 lo, .int .i64 hi, .int .i64 st] 23)).alloc (.cells #[.int .i64 0, .int .i64 0, .int .i64 0, .int .i64 0] 23)) (w.heap.size + 1) (.int .i64 0) (.int .i64 0) (.int .i64 0) (.int .i64 0) := at4_new 23 _ _ _ _ _ _ (by simp)
  have hb : Below w.heap.size w ((w.alloc (.cells #[.int .i64 t, .int .i64 lo, .int .i64 hi, .int .i64 st] 23)).alloc (.cells #[.int .i64 0, .int .i64 0, .int .i64 0, .int .i64 0] 23)) := ((Below.refl _ _).alloc (Nat.le_refl _) _).alloc (by simp) _
  go_enter Tryd.func16, Tryd.ntmps16
  go_upto_region 1 with fail
  generalize ((w.alloc (.cells #[.int .i64 t, .int .i64 lo, .int .i64 hi, .int .i64 st] 23)).alloc (.cells #[.int .i64 0, .int .i64 0, .int .i64 0, .int .i64 0] 23)) = w2 at hX hY hb ⊢
  generalize hg2 : w.heap.size + 1 = g2 at hY ⊢
  generalize hg : w.heap.size = g at hX hb hg2 ⊢
  have hgle : g ≤ g2 := by omega
  have hne : g ≠ g2 := by omega
  have HG := Lib.hid hg
  clear hg hg2
  obtain ⟨_, _, _, _⟩ := hX.cells
  obtain ⟨_, _, _, _⟩ := hY.frees
  obtain ⟨_, _, _, _⟩ := hY.cells
  go_upto_region 2 with fail
  have hZ := at4_put hY (.int .i64 (max 1 (min t 1048576))) (.int .i64 (max 0 (min lo 255))) (.int .i64 (max 0 (max (min lo 255) (min hi 255)))) (.int .i64 (max 1 (min st 100)))
  have hbz := hb.trans ((put4_only w2 g2 (.int .i64 (max 1 (min t 1048576))) (.int .i64 (max 0 (min lo 255))) (.int .i64 (max 0 (max (min lo 255) (min hi 255)))) (.int .i64 (max 1 (min st 100)))).below hgle)
  obtain ⟨d0, d1, d2, d3⟩ := hZ.cells
  go_wp2_with fail
  refine bodyPost_ret (v := .agg #[.int .i64 (max 1 (min t 1048576)), .int .i64 (max 0 (min lo 255)), .int .i64 (max 0 (max (min lo 255) (min hi 255))), .int .i64 (max 1 (min st 100))]) (by simp [results, Tryd.results16, go_sem, d0, d1, d2, d3]) rfl ⟨rfl, by rw [HG.out]; exact hbz⟩
end Go.Proofs.YtggcfoegpadepaaDoor
