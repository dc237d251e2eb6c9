/- gaps: a call of both sides: Came. -/
import Derived.Test.YtdbmhgfdcdcgfaaGpV
namespace Go.Proofs.Ytdbmhgfdcdcgfaa
open Go.RowKit
set_option linter.unusedVariables false
set_option linter.unusedSimpArgs false
set_option maxRecDepth 100000 in
set_option maxHeartbeats 6400000 in
theorem gpDo0 {w : World} {base gg : Nat} {c : GC} {cm : Bool} {gr : Int} {v vx : Value} {l : List GW} {gv : Int} (h : GIn w base gg c cm gr v l gv) (hx : OwnE w 0 65 3 vx l.length (grV l)) (hl : cm = false → l = []) (hgv : 0 ≤ gv ∧ gv ≤ 576460752303423488) (hks : ∀ x ∈ l, x.k ≤ 100 ∧ 0 ≤ x.at_ ∧ x.at_ ≤ 1099512676352) (N L now : Int) :
    Calls Try.prog 12 #[.pointer (some ⟨gg, 0, none⟩), grG c vx cm gr gv, .agg #[.int .i64 0, .int .i64 N, .int .i64 L], .int .i64 now] w fun e w' => ∃ v' vx', e = .returned (.tuple #[grG c vx' (true) (cmG cm gr (gr + N % 64)) (gv + cmU c cm gr l (gr + N % 64)), .bool true]) ∧ GIn w' base gg c (true) (cmG cm gr (gr + N % 64)) v' (cmL c cm gr l (gr + N % 64) now) (gv + cmU c cm gr l (gr + N % 64)) ∧ OwnE w' 0 65 3 vx' (cmL c cm gr l (gr + N % 64) now).length (grV (cmL c cm gr l (gr + N % 64) now)) ∧ Below base w w' ∧ KeptG w w' := by
  have HPu0 := fun W (hW : OwnE W 0 65 3 vx l.length (grV l)) => refGpCame_any h hl hW (gr + N % 64) now ⟨hgv.1, by omega⟩
  have HPP0 := fun W (v' : Value) (hQ : GIn W base gg c cm gr v' l gv) => gpCame_any hQ hl (gr + N % 64) now ⟨hgv.1, by omega⟩
  have HPu := Lib.hid HPu0
  have HPP := Lib.hid HPP0
  clear HPu0 HPP0
  obtain ⟨gr2, hgr2⟩ : ∃ z, cmG cm gr (gr + N % 64) = z := ⟨_, rfl⟩
  obtain ⟨LL, hLL⟩ : ∃ z, cmL c cm gr l (gr + N % 64) now = z := ⟨_, rfl⟩
  obtain ⟨U, hU⟩ : ∃ z, cmU c cm gr l (gr + N % 64) = z := ⟨_, rfl⟩
  rw [hgr2, hLL, hU] at HPu HPP ⊢
  obtain ⟨gv2, hgv2⟩ : ∃ z, gv + U = z := ⟨_, rfl⟩
  rw [hgv2] at HPu HPP ⊢
  obtain ⟨cm2, hcm2⟩ : ∃ z : Bool, true = z := ⟨_, rfl⟩
  have HCM2 := Lib.hid hcm2
  clear hgr2 hLL hU hgv2 hcm2
  unfold grG
  obtain ⟨xa, xc, rfl⟩ := hx.formG
  have hbz : base ≤ w.heap.size := by have := h.at8.lt; have := h.bs; omega
  have hsm := h.small
  have hup := h.up
  have hok := h.ok
  have hgb := h.gb
  have hX0 := ((at8_new 31 w w.heap.size (.int .i64 c.m) (.int .i64 c.t) (.int .i64 c.f) (.int .i64 c.a) (.slice xa l.length xc) (.bool cm) (.int .i64 gr) (.int .i64 gv) rfl).later (W' := ((w.alloc (.cells #[.int .i64 c.m, .int .i64 c.t, .int .i64 c.f, .int .i64 c.a, .slice xa l.length xc, .bool cm, .int .i64 gr, .int .i64 gv] 31)).alloc (.cells #[.int .i64 0, .int .i64 N, .int .i64 L] 36))) ((Below.refl _ _).alloc (Nat.le_refl _) _)).later (W' := (((w.alloc (.cells #[.int .i64 c.m, .int .i64 c.t, .int .i64 c.f, .int .i64 c.a, .slice xa l.length xc, .bool cm, .int .i64 gr, .int .i64 gv] 31)).alloc (.cells #[.int .i64 0, .int .i64 N, .int .i64 L] 36)).alloc (.cells #[.int .i64 0, .int .i64 0, .int .i64 0, .int .i64 0, .slice none 0 0, .bool false, .int .i64 0, .int .i64 0] 31))) ((Below.refl _ _).alloc (Nat.le_refl _) _)
  have hX1 := (at3_new 36 (w.alloc (.cells #[.int .i64 c.m, .int .i64 c.t, .int .i64 c.f, .int .i64 c.a, .slice xa l.length xc, .bool cm, .int .i64 gr, .int .i64 gv] 31)) (w.heap.size + 1) (.int .i64 0) (.int .i64 N) (.int .i64 L) (by simp)).later (W' := (((w.alloc (.cells #[.int .i64 c.m, .int .i64 c.t, .int .i64 c.f, .int .i64 c.a, .slice xa l.length xc, .bool cm, .int .i64 gr, .int .i64 gv] 31)).alloc (.cells #[.int .i64 0, .int .i64 N, .int .i64 L] 36)).alloc (.cells #[.int .i64 0, .int .i64 0, .int .i64 0, .int .i64 0, .slice none 0 0, .bool false, .int .i64 0, .int .i64 0] 31))) ((Below.refl _ _).alloc (Nat.le_refl _) _)
  have hX2 := at8_new 31 ((w.alloc (.cells #[.int .i64 c.m, .int .i64 c.t, .int .i64 c.f, .int .i64 c.a, .slice xa l.length xc, .bool cm, .int .i64 gr, .int .i64 gv] 31)).alloc (.cells #[.int .i64 0, .int .i64 N, .int .i64 L] 36)) (w.heap.size + 1 + 1) (.int .i64 0) (.int .i64 0) (.int .i64 0) (.int .i64 0) (.slice none 0 0) (.bool false) (.int .i64 0) (.int .i64 0) (by simp)
  have hb : Below w.heap.size w (((w.alloc (.cells #[.int .i64 c.m, .int .i64 c.t, .int .i64 c.f, .int .i64 c.a, .slice xa l.length xc, .bool cm, .int .i64 gr, .int .i64 gv] 31)).alloc (.cells #[.int .i64 0, .int .i64 N, .int .i64 L] 36)).alloc (.cells #[.int .i64 0, .int .i64 0, .int .i64 0, .int .i64 0, .slice none 0 0, .bool false, .int .i64 0, .int .i64 0] 31)) := (((Below.refl _ _).alloc (Nat.le_refl _) _).alloc (by simp) _).alloc (by simp; omega) _
  go_enter Try.func12, Try.ntmps12
  go_upto_region 1 with fail
  generalize (((w.alloc (.cells #[.int .i64 c.m, .int .i64 c.t, .int .i64 c.f, .int .i64 c.a, .slice xa l.length xc, .bool cm, .int .i64 gr, .int .i64 gv] 31)).alloc (.cells #[.int .i64 0, .int .i64 N, .int .i64 L] 36)).alloc (.cells #[.int .i64 0, .int .i64 0, .int .i64 0, .int .i64 0, .slice none 0 0, .bool false, .int .i64 0, .int .i64 0] 31)) = w2 at *
  have hQ2 := h.later hb
  have hx2 := hx.later hb
  have hK2 := keptG_below hb
  generalize hg2 : w.heap.size + 1 + 1 = g2 at *
  generalize hg1 : w.heap.size + 1 = g1 at *
  generalize hg0 : w.heap.size = g0 at *
  have hle2 : g0 ≤ g2 := by omega
  have hne02 : g0 ≠ g2 := by omega
  have hne12 : g1 ≠ g2 := by omega
  have HG := Lib.hid hg0
  clear hg0 hg1 hg2 h hx
  obtain ⟨_, _, _, _, _, _, _, _⟩ := hX0.cells
  obtain ⟨_, _, _⟩ := hX1.cells
  obtain ⟨_, _, _, _, _, _, _, _⟩ := hX2.cells
  obtain ⟨_, _, _, _, _, _, _, _⟩ := hX2.frees
  have hm63 : ∀ z : Int, bits .and .i64 z 63 = z % 64 := fun z => i64_mask z 6 (by omega)
  go_upto_region 11 with fail
  clear hm63
  generalize gr + N % 64 = NN at *
  go_wp2_with fail
  refine (HPu.out w2 hx2).mono ?_
  rintro e w3 ⟨vy, rfl, hy3, hk3⟩
  obtain ⟨ay, cy, rfl⟩ := hy3.formG
  obtain ⟨nL, hNL0⟩ : ∃ z, LL.length = z := ⟨_, rfl⟩
  have HNL := Lib.hid hNL0
  rw [hNL0] at hy3 ⊢
  clear hNL0
  unfold grG
  rw [HCM2.out]
  have hX0_3 := hX0.later hk3
  have hX1_3 := hX1.later hk3
  have hX2_3 := hX2.later hk3
  have hQ3 := hQ2.later hk3
  have hb3 := hb.trans (hk3.mono (Nat.le_of_lt hX0.lt))
  have hK3 := hK2.trans (keptG_below hk3)
  clear hX0 hX1 hX2 hQ2 hx2 hb hK2 hk3
  have hal : Below w3.heap.size w3 (w3.alloc (.cells #[.int .i64 c.m, .int .i64 c.t, .int .i64 c.f, .int .i64 c.a, .slice ay nL cy, .bool cm2, .int .i64 gr2, .int .i64 gv2] 31)) := (Below.refl _ _).alloc (Nat.le_refl _) _
  have hY0 := at8_new 31 w3 w3.heap.size (.int .i64 c.m) (.int .i64 c.t) (.int .i64 c.f) (.int .i64 c.a) (.slice ay nL cy) (.bool cm2) (.int .i64 gr2) (.int .i64 gv2) rfl
  have hX1_4 := hX1_3.later hal
  have hX2_4 := hX2_3.later hal
  have hX0_4 := hX0_3.later hal
  have hQ4 := hQ3.later hal
  have hy4 := hy3.later hal
  have hgl := hX2_3.lt
  have hsz3 := hal.size
  have hb4 := hb3.trans (hal.mono (by omega))
  have hK4 := hK3.trans (keptG_below hal)
  go_upto_region 12 with fail
  generalize (w3.alloc (.cells #[.int .i64 c.m, .int .i64 c.t, .int .i64 c.f, .int .i64 c.a, .slice ay nL cy, .bool cm2, .int .i64 gr2, .int .i64 gv2] 31)) = w4 at *
  generalize w3.heap.size = gy at *
  clear hal hX0_3 hX1_3 hX2_3 hQ3 hy3 hb3 hK3
  obtain ⟨_, _, _, _, _, _, _, _⟩ := hX0_4.cells
  obtain ⟨_, _, _⟩ := hX1_4.cells
  obtain ⟨_, _, _, _, _, _, _, _⟩ := hX2_4.cells
  obtain ⟨_, _, _, _, _, _, _, _⟩ := hX2_4.frees
  obtain ⟨_, _, _, _, _, _, _, _⟩ := hY0.cells
  have HPs := Lib.hid (HPP.out _ _ hQ4.drew)
  rw [HCM2.out] at HPs
  go_region_with (first | (go_at_call 16; refine HPs.out.mono ?_; rintro e w7 ⟨rfl, ⟨v7, hQ7⟩, hk7, hK7⟩; have hY7 := hY0.drew.keptG hK7 (by decide) (by decide); have hX2_7 := hX2_4.drew.keptG hK7 (by decide) (by decide); obtain ⟨_, _, _, _, _, _, _, _⟩ := hY7.cells; obtain ⟨_, _, _, _, _, _, _, _⟩ := hX2_7.frees; obtain ⟨_, _, _, _, _, _, _, _⟩ := hX2_7.cells))
  all_goals
    have ho8 := put8_only w7 g2 (.int .i64 c.m) (.int .i64 c.t) (.int .i64 c.f) (.int .i64 c.a) (.slice ay nL cy) (.bool cm2) (.int .i64 gr2) (.int .i64 gv2)
    have hZ := at8_put8 hX2_7 (.int .i64 c.m) (.int .i64 c.t) (.int .i64 c.f) (.int .i64 c.a) (.slice ay nL cy) (.bool cm2) (.int .i64 gr2) (.int .i64 gv2)
    have hQ8 := hQ7.only8 hX2_7 ho8 (by decide) (by decide)
    have hy8 := (hy4.drew.keptG hK7 (by decide) (by decide)).only8 hX2_7 ho8 (by decide)
    have hb8 := ((hb4.mono hbz).drew.trans hk7).trans (ho8.below (Nat.le_trans hbz hle2))
    have hK8 := keptG_new ho8 (hK4.drew.trans hK7) (by rw [HG.out]; exact hle2)
    obtain ⟨d0, d1, d2, d3, d4, d5, d6, d7⟩ := hZ.cells
    go_wp2_with fail
    refine bodyPost_ret (v := .tuple #[.agg #[.int .i64 c.m, .int .i64 c.t, .int .i64 c.f, .int .i64 c.a, .slice ay nL cy, .bool cm2, .int .i64 gr2, .int .i64 gv2], .bool true]) (by simp [results, Try.results12, go_sem, d0, d1, d2, d3, d4, d5, d6, d7]) rfl ⟨v7, _, by rw [HCM2.out], by rw [HCM2.out]; exact hQ8, by rw [HNL.out]; exact hy8, hb8, hK8⟩
set_option maxRecDepth 100000 in
set_option maxHeartbeats 6400000 in
theorem gpDo1 {w : World} {base gg : Nat} {c : GC} {cm : Bool} {gr : Int} {v vx : Value} {l : List GW} {gv : Int} (h : GIn w base gg c cm gr v l gv) (hx : OwnE w 0 65 3 vx l.length (grV l)) (hl : cm = false → l = []) (hgv : 0 ≤ gv ∧ gv ≤ 576460752303423488) (hks : ∀ x ∈ l, x.k ≤ 100 ∧ 0 ≤ x.at_ ∧ x.at_ ≤ 1099512676352) (N L now : Int) :
    Calls Try.prog 12 #[.pointer (some ⟨gg, 0, none⟩), grG c vx cm gr gv, .agg #[.int .i64 1, .int .i64 N, .int .i64 L], .int .i64 now] w fun e w' => ∃ v' vx', e = .returned (.tuple #[grG c vx' (true) (cmG cm gr (N)) (gv + cmU c cm gr l (N)), .bool true]) ∧ GIn w' base gg c (true) (cmG cm gr (N)) v' (cmL c cm gr l (N) now) (gv + cmU c cm gr l (N)) ∧ OwnE w' 0 65 3 vx' (cmL c cm gr l (N) now).length (grV (cmL c cm gr l (N) now)) ∧ Below base w w' ∧ KeptG w w' := by
  have HPu0 := fun W (hW : OwnE W 0 65 3 vx l.length (grV l)) => refGpCame_any h hl hW (N) now ⟨hgv.1, by omega⟩
  have HPP0 := fun W (v' : Value) (hQ : GIn W base gg c cm gr v' l gv) => gpCame_any hQ hl (N) now ⟨hgv.1, by omega⟩
  have HPu := Lib.hid HPu0
  have HPP := Lib.hid HPP0
  clear HPu0 HPP0
  obtain ⟨gr2, hgr2⟩ : ∃ z, cmG cm gr (N) = z := ⟨_, rfl⟩
  obtain ⟨LL, hLL⟩ : ∃ z, cmL c cm gr l (N) now = z := ⟨_, rfl⟩
  obtain ⟨U, hU⟩ : ∃ z, cmU c cm gr l (N) = z := ⟨_, rfl⟩
  rw [hgr2, hLL, hU] at HPu HPP ⊢
  obtain ⟨gv2, hgv2⟩ : ∃ z, gv + U = z := ⟨_, rfl⟩
  rw [hgv2] at HPu HPP ⊢
  obtain ⟨cm2, hcm2⟩ : ∃ z : Bool, true = z := ⟨_, rfl⟩
  have HCM2 := Lib.hid hcm2
  clear hgr2 hLL hU hgv2 hcm2
  unfold grG
  obtain ⟨xa, xc, rfl⟩ := hx.formG
  have hbz : base ≤ w.heap.size := by have := h.at8.lt; have := h.bs; omega
  have hsm := h.small
  have hup := h.up
  have hok := h.ok
  have hgb := h.gb
  have hX0 := ((at8_new 31 w w.heap.size (.int .i64 c.m) (.int .i64 c.t) (.int .i64 c.f) (.int .i64 c.a) (.slice xa l.length xc) (.bool cm) (.int .i64 gr) (.int .i64 gv) rfl).later (W' := ((w.alloc (.cells #[.int .i64 c.m, .int .i64 c.t, .int .i64 c.f, .int .i64 c.a, .slice xa l.length xc, .bool cm, .int .i64 gr, .int .i64 gv] 31)).alloc (.cells #[.int .i64 1, .int .i64 N, .int .i64 L] 36))) ((Below.refl _ _).alloc (Nat.le_refl _) _)).later (W' := (((w.alloc (.cells #[.int .i64 c.m, .int .i64 c.t, .int .i64 c.f, .int .i64 c.a, .slice xa l.length xc, .bool cm, .int .i64 gr, .int .i64 gv] 31)).alloc (.cells #[.int .i64 1, .int .i64 N, .int .i64 L] 36)).alloc (.cells #[.int .i64 0, .int .i64 0, .int .i64 0, .int .i64 0, .slice none 0 0, .bool false, .int .i64 0, .int .i64 0] 31))) ((Below.refl _ _).alloc (Nat.le_refl _) _)
  have hX1 := (at3_new 36 (w.alloc (.cells #[.int .i64 c.m, .int .i64 c.t, .int .i64 c.f, .int .i64 c.a, .slice xa l.length xc, .bool cm, .int .i64 gr, .int .i64 gv] 31)) (w.heap.size + 1) (.int .i64 1) (.int .i64 N) (.int .i64 L) (by simp)).later (W' := (((w.alloc (.cells #[.int .i64 c.m, .int .i64 c.t, .int .i64 c.f, .int .i64 c.a, .slice xa l.length xc, .bool cm, .int .i64 gr, .int .i64 gv] 31)).alloc (.cells #[.int .i64 1, .int .i64 N, .int .i64 L] 36)).alloc (.cells #[.int .i64 0, .int .i64 0, .int .i64 0, .int .i64 0, .slice none 0 0, .bool false, .int .i64 0, .int .i64 0] 31))) ((Below.refl _ _).alloc (Nat.le_refl _) _)
  have hX2 := at8_new 31 ((w.alloc (.cells #[.int .i64 c.m, .int .i64 c.t, .int .i64 c.f, .int .i64 c.a, .slice xa l.length xc, .bool cm, .int .i64 gr, .int .i64 gv] 31)).alloc (.cells #[.int .i64 1, .int .i64 N, .int .i64 L] 36)) (w.heap.size + 1 + 1) (.int .i64 0) (.int .i64 0) (.int .i64 0) (.int .i64 0) (.slice none 0 0) (.bool false) (.int .i64 0) (.int .i64 0) (by simp)
  have hb : Below w.heap.size w (((w.alloc (.cells #[.int .i64 c.m, .int .i64 c.t, .int .i64 c.f, .int .i64 c.a, .slice xa l.length xc, .bool cm, .int .i64 gr, .int .i64 gv] 31)).alloc (.cells #[.int .i64 1, .int .i64 N, .int .i64 L] 36)).alloc (.cells #[.int .i64 0, .int .i64 0, .int .i64 0, .int .i64 0, .slice none 0 0, .bool false, .int .i64 0, .int .i64 0] 31)) := (((Below.refl _ _).alloc (Nat.le_refl _) _).alloc (by simp) _).alloc (by simp; omega) _
  go_enter Try.func12, Try.ntmps12
  go_upto_region 1 with fail
  generalize (((w.alloc (.cells #[.int .i64 c.m, .int .i64 c.t, .int .i64 c.f, .int .i64 c.a, .slice xa l.length xc, .bool cm, .int .i64 gr, .int .i64 gv] 31)).alloc (.cells #[.int .i64 1, .int .i64 N, .int .i64 L] 36)).alloc (.cells #[.int .i64 0, .int .i64 0, .int .i64 0, .int .i64 0, .slice none 0 0, .bool false, .int .i64 0, .int .i64 0] 31)) = w2 at *
  have hQ2 := h.later hb
  have hx2 := hx.later hb
  have hK2 := keptG_below hb
  generalize hg2 : w.heap.size + 1 + 1 = g2 at *
  generalize hg1 : w.heap.size + 1 = g1 at *
  generalize hg0 : w.heap.size = g0 at *
  have hle2 : g0 ≤ g2 := by omega
  have hne02 : g0 ≠ g2 := by omega
  have hne12 : g1 ≠ g2 := by omega
  have HG := Lib.hid hg0
  clear hg0 hg1 hg2 h hx
  obtain ⟨_, _, _, _, _, _, _, _⟩ := hX0.cells
  obtain ⟨_, _, _⟩ := hX1.cells
  obtain ⟨_, _, _, _, _, _, _, _⟩ := hX2.cells
  obtain ⟨_, _, _, _, _, _, _, _⟩ := hX2.frees
  go_upto_region 11 with fail
  go_wp2_with fail
  refine (HPu.out w2 hx2).mono ?_
  rintro e w3 ⟨vy, rfl, hy3, hk3⟩
  obtain ⟨ay, cy, rfl⟩ := hy3.formG
  obtain ⟨nL, hNL0⟩ : ∃ z, LL.length = z := ⟨_, rfl⟩
  have HNL := Lib.hid hNL0
  rw [hNL0] at hy3 ⊢
  clear hNL0
  unfold grG
  rw [HCM2.out]
  have hX0_3 := hX0.later hk3
  have hX1_3 := hX1.later hk3
  have hX2_3 := hX2.later hk3
  have hQ3 := hQ2.later hk3
  have hb3 := hb.trans (hk3.mono (Nat.le_of_lt hX0.lt))
  have hK3 := hK2.trans (keptG_below hk3)
  clear hX0 hX1 hX2 hQ2 hx2 hb hK2 hk3
  have hal : Below w3.heap.size w3 (w3.alloc (.cells #[.int .i64 c.m, .int .i64 c.t, .int .i64 c.f, .int .i64 c.a, .slice ay nL cy, .bool cm2, .int .i64 gr2, .int .i64 gv2] 31)) := (Below.refl _ _).alloc (Nat.le_refl _) _
  have hY0 := at8_new 31 w3 w3.heap.size (.int .i64 c.m) (.int .i64 c.t) (.int .i64 c.f) (.int .i64 c.a) (.slice ay nL cy) (.bool cm2) (.int .i64 gr2) (.int .i64 gv2) rfl
  have hX1_4 := hX1_3.later hal
  have hX2_4 := hX2_3.later hal
  have hX0_4 := hX0_3.later hal
  have hQ4 := hQ3.later hal
  have hy4 := hy3.later hal
  have hgl := hX2_3.lt
  have hsz3 := hal.size
  have hb4 := hb3.trans (hal.mono (by omega))
  have hK4 := hK3.trans (keptG_below hal)
  go_upto_region 12 with fail
  generalize (w3.alloc (.cells #[.int .i64 c.m, .int .i64 c.t, .int .i64 c.f, .int .i64 c.a, .slice ay nL cy, .bool cm2, .int .i64 gr2, .int .i64 gv2] 31)) = w4 at *
  generalize w3.heap.size = gy at *
  clear hal hX0_3 hX1_3 hX2_3 hQ3 hy3 hb3 hK3
  obtain ⟨_, _, _, _, _, _, _, _⟩ := hX0_4.cells
  obtain ⟨_, _, _⟩ := hX1_4.cells
  obtain ⟨_, _, _, _, _, _, _, _⟩ := hX2_4.cells
  obtain ⟨_, _, _, _, _, _, _, _⟩ := hX2_4.frees
  obtain ⟨_, _, _, _, _, _, _, _⟩ := hY0.cells
  have HPs := Lib.hid (HPP.out _ _ hQ4.drew)
  rw [HCM2.out] at HPs
  go_region_with (first | (go_at_call 16; refine HPs.out.mono ?_; rintro e w7 ⟨rfl, ⟨v7, hQ7⟩, hk7, hK7⟩; have hY7 := hY0.drew.keptG hK7 (by decide) (by decide); have hX2_7 := hX2_4.drew.keptG hK7 (by decide) (by decide); obtain ⟨_, _, _, _, _, _, _, _⟩ := hY7.cells; obtain ⟨_, _, _, _, _, _, _, _⟩ := hX2_7.frees; obtain ⟨_, _, _, _, _, _, _, _⟩ := hX2_7.cells))
  all_goals
    have ho8 := put8_only w7 g2 (.int .i64 c.m) (.int .i64 c.t) (.int .i64 c.f) (.int .i64 c.a) (.slice ay nL cy) (.bool cm2) (.int .i64 gr2) (.int .i64 gv2)
    have hZ := at8_put8 hX2_7 (.int .i64 c.m) (.int .i64 c.t) (.int .i64 c.f) (.int .i64 c.a) (.slice ay nL cy) (.bool cm2) (.int .i64 gr2) (.int .i64 gv2)
    have hQ8 := hQ7.only8 hX2_7 ho8 (by decide) (by decide)
    have hy8 := (hy4.drew.keptG hK7 (by decide) (by decide)).only8 hX2_7 ho8 (by decide)
    have hb8 := ((hb4.mono hbz).drew.trans hk7).trans (ho8.below (Nat.le_trans hbz hle2))
    have hK8 := keptG_new ho8 (hK4.drew.trans hK7) (by rw [HG.out]; exact hle2)
    obtain ⟨d0, d1, d2, d3, d4, d5, d6, d7⟩ := hZ.cells
    go_wp2_with fail
    refine bodyPost_ret (v := .tuple #[.agg #[.int .i64 c.m, .int .i64 c.t, .int .i64 c.f, .int .i64 c.a, .slice ay nL cy, .bool cm2, .int .i64 gr2, .int .i64 gv2], .bool true]) (by simp [results, Try.results12, go_sem, d0, d1, d2, d3, d4, d5, d6, d7]) rfl ⟨v7, _, by rw [HCM2.out], by rw [HCM2.out]; exact hQ8, by rw [HNL.out]; exact hy8, hb8, hK8⟩
end Go.Proofs.Ytdbmhgfdcdcgfaa
