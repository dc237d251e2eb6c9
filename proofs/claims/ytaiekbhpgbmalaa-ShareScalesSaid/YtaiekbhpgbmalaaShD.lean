/- share: against. -/
import Derived.Test.YtaiekbhpgbmalaaShC
namespace Go.Proofs.Ytaiekbhpgbmalaa
open Go.RowKit
set_option linter.unusedVariables false
set_option maxHeartbeats 3200000 in
theorem against_any (x m : SL) (hx0 : 0 ≤ x.c) (hm0 : 0 ≤ m.c) (h1 : 0 ≤ x.c * m.w ∧ x.c * m.w < 9223372036854775808) (h2 : 0 ≤ m.c * x.w ∧ m.c * x.w < 9223372036854775808) (w : World) : Calls Try.prog 15 #[x.val, m.val] w fun e w' => e = .returned (.int .i64 (agS x m)) ∧ Below w.heap.size w w' := by
  obtain ⟨p, k, c⟩ := x
  obtain ⟨q, l, d⟩ := m
  simp only [SL.val] at *
  have hX : At3 42 ((w.alloc (.cells #[.int .i64 p, .int .i64 k, .int .i64 c] 42)).alloc (.cells #[.int .i64 q, .int .i64 l, .int .i64 d] 42)) w.heap.size (.int .i64 p) (.int .i64 k) (.int .i64 c) := (at3_new 42 w _ _ _ _ rfl).alloc _
  have hY : At3 42 ((w.alloc (.cells #[.int .i64 p, .int .i64 k, .int .i64 c] 42)).alloc (.cells #[.int .i64 q, .int .i64 l, .int .i64 d] 42)) (w.heap.size + 1) (.int .i64 q) (.int .i64 l) (.int .i64 d) := at3_new 42 _ _ _ _ _ (by simp)
  have hb : Below w.heap.size w ((w.alloc (.cells #[.int .i64 p, .int .i64 k, .int .i64 c] 42)).alloc (.cells #[.int .i64 q, .int .i64 l, .int .i64 d] 42)) := ((Below.refl _ _).alloc (Nat.le_refl _) _).alloc (by simp) _
  go_enter Try.func15, Try.ntmps15
  go_upto_region 1 with fail
  obtain ⟨A, hA⟩ : ∃ A, A = agS ⟨p, k, c⟩ ⟨q, l, d⟩ := ⟨_, rfl⟩
  have HA : Hid ((if cmpI (c * l) (d * k) = 0 then cmpI p q else cmpI (c * l) (d * k)) = A) := Lib.hid hA.symm
  have HA2 := Lib.hid hA
  clear hA
  generalize ((w.alloc (.cells #[.int .i64 p, .int .i64 k, .int .i64 c] 42)).alloc (.cells #[.int .i64 q, .int .i64 l, .int .i64 d] 42)) = w2 at hX hY hb ⊢
  have HSS : Hid (∀ W : World, Below w2.heap.size w2 W → W.cell? ⟨w.heap.size, 0, none⟩ = some (.int .i64 p) ∧ W.cell? ⟨w.heap.size, 1, none⟩ = some (.int .i64 k) ∧ W.cell? ⟨w.heap.size, 2, none⟩ = some (.int .i64 c) ∧ W.cell? ⟨w.heap.size + 1, 0, none⟩ = some (.int .i64 q) ∧ W.cell? ⟨w.heap.size + 1, 1, none⟩ = some (.int .i64 l) ∧ W.cell? ⟨w.heap.size + 1, 2, none⟩ = some (.int .i64 d)) := Lib.hid (fun W hW => ⟨(hX.later hW).cells.1, (hX.later hW).cells.2.1, (hX.later hW).cells.2.2, (hY.later hW).cells.1, (hY.later hW).cells.2.1, (hY.later hW).cells.2.2⟩)
  have hw1 : IntKind.i64.wrap (c * l) = c * l := by rw [IntKind.wrap_i64]; omega
  have hw2 : IntKind.i64.wrap (d * k) = d * k := by rw [IntKind.wrap_i64]; omega
  have HT := Lib.hid (toPath_any ⟨p, k, c⟩ q)
  simp only [SL.val] at HT
  generalize hg2 : w.heap.size + 1 = g2 at HSS hY ⊢
  generalize hg : w.heap.size = g at HSS hX hg2 ⊢
  clear h1 h2 hx0 hm0
  obtain ⟨_, _, _⟩ := hX.cells
  obtain ⟨_, _, _⟩ := hY.cells
  go_region_held3 (fun W => W.cell? ⟨g, 0, none⟩ = some (.int .i64 p) ∧ W.cell? ⟨g, 1, none⟩ = some (.int .i64 k) ∧ W.cell? ⟨g, 2, none⟩ = some (.int .i64 c) ∧ W.cell? ⟨g2, 0, none⟩ = some (.int .i64 q) ∧ W.cell? ⟨g2, 1, none⟩ = some (.int .i64 l) ∧ W.cell? ⟨g2, 2, none⟩ = some (.int .i64 d)) (first | (go_keep; done) | exact HSS.out _ (Below.drew (Below.refl _ _)) | exact HSS.out _ hk5 | exact HSS.out _ (hk5.alloc hk5.size _)) (first | (go_at_call 23; refine (cmp_q _ _ _).mono ?_; rintro e w' ⟨rfl, rfl⟩) | (go_at_call 24; refine (HT.out _).mono ?_; rintro e w5 ⟨rfl, hk4⟩; have hk5 : Below w2.heap.size w2 w5 := Below.trans (Below.drew (Below.refl _ _)) hk4) | (go_at_call 22; refine (or2_r _ _ _ _ _ (atW_new 3 _ _ _ _ rfl).cells.1 (atW_new 3 _ _ _ _ rfl).cells.2 HA.out).mono ?_; rintro e w' ⟨rfl, rfl⟩))
  all_goals
    go_wp2
    go_ret
    have hA := HA2.out
    subst hA
    exact ⟨rfl, ((hb.trans (hk5.mono hb.size)).alloc (by have := hb.size; have := hk5.size; omega) _)⟩
end Go.Proofs.Ytaiekbhpgbmalaa
