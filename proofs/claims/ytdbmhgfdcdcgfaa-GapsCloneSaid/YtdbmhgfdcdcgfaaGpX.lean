/- gaps: a call of both sides: Due, Forget; any. -/
import Derived.Test.YtdbmhgfdcdcgfaaGpW
namespace Go.Proofs.Ytdbmhgfdcdcgfaa
open Go.RowKit
set_option linter.unusedVariables false
set_option linter.unusedSimpArgs false
set_option maxRecDepth 100000 in
set_option maxHeartbeats 6400000 in
theorem gpDo2 {w : World} {base gg : Nat} {c : GC} {cm : Bool} {gr : Int} {v vx : Value} {l : List GW} {gv : Int} (h : GIn w base gg c cm gr v l gv) (hx : OwnE w 0 65 3 vx l.length (grV l)) (hl : cm = false → l = []) (hgv : 0 ≤ gv ∧ gv ≤ 576460752303423488) (hks : ∀ x ∈ l, x.k ≤ 100 ∧ 0 ≤ x.at_ ∧ x.at_ ≤ 1099512676352) (N L now : Int) :
    Calls Try.prog 12 #[.pointer (some ⟨gg, 0, none⟩), grG c vx cm gr gv, .agg #[.int .i64 2, .int .i64 N, .int .i64 L], .int .i64 now] w fun e w' => ∃ v' vx', e = .returned (.tuple #[grG c vx' (cm) (gr) (gv + ((l.length : Int) - (gpDueK c (gpK now) l).length)), .bool true]) ∧ GIn w' base gg c (cm) (gr) v' (gpDueK c (gpK now) l) (gv + ((l.length : Int) - (gpDueK c (gpK now) l).length)) ∧ OwnE w' 0 65 3 vx' (gpDueK c (gpK now) l).length (grV (gpDueK c (gpK now) l)) ∧ Below base w w' ∧ KeptG w w' := by
  have HPu0 := fun W (hW : OwnE W 0 65 3 vx l.length (grV l)) => refGpDue_any c cm gr gv now hW (by have := h.small; omega) h.ok hks ⟨hgv.1, by omega⟩
  have HPP0 := fun W (v' : Value) (hQ : GIn W base gg c cm gr v' l gv) => gpDue_any hQ now ⟨hgv.1, by omega⟩
  have HPu := Lib.hid HPu0
  have HPP := Lib.hid HPP0
  clear HPu0 HPP0
  have hzl := gpDueD_len c (gpK now) l
  have hsm0 := h.small
  obtain ⟨LL, hLL⟩ : ∃ z, gpDueK c (gpK now) l = z := ⟨_, rfl⟩
  obtain ⟨zs, hzs⟩ : ∃ z, gpDueD c (gpK now) l = z := ⟨_, rfl⟩
  rw [hLL, hzs] at HPu HPP
  rw [hzs] at hzl
  rw [hLL]
  obtain ⟨gv2, hgv2⟩ : ∃ z, gv + ((l.length : Int) - LL.length) = z := ⟨_, rfl⟩
  rw [hgv2] at HPu HPP ⊢
  clear hLL hzs hgv2
  unfold grG
  obtain ⟨xa, xc, rfl⟩ := hx.formG
  have hbz : base ≤ w.heap.size := by have := h.at8.lt; have := h.bs; omega
  have hsm := h.small
  have hup := h.up
  have hok := h.ok
  have hgb := h.gb
  have hX0 := ((at8_new 31 w w.heap.size (.int .i64 c.m) (.int .i64 c.t) (.int .i64 c.f) (.int .i64 c.a) (.slice xa l.length xc) (.bool cm) (.int .i64 gr) (.int .i64 gv) rfl).later (W' := ((w.alloc (.cells #[.int .i64 c.m, .int .i64 c.t, .int .i64 c.f, .int .i64 c.a, .slice xa l.length xc, .bool cm, .int .i64 gr, .int .i64 gv] 31)).alloc (.cells #[.int .i64 2, .int .i64 N, .int .i64 L] 36))) ((Below.refl _ _).alloc (Nat.le_refl _) _)).later (W' := (((w.alloc (.cells #[.int .i64 c.m, .int .i64 c.t, .int .i64 c.f, .int .i64 c.a, .slice xa l.length xc, .bool cm, .int .i64 gr, .int .i64 gv] 31)).alloc (.cells #[.int .i64 2, .int .i64 N, .int .i64 L] 36)).alloc (.cells #[.int .i64 0, .int .i64 0, .int .i64 0, .int .i64 0, .slice none 0 0, .bool false, .int .i64 0, .int .i64 0] 31))) ((Below.refl _ _).alloc (Nat.le_refl _) _)
  have hX1 := (at3_new 36 (w.alloc (.cells #[.int .i64 c.m, .int .i64 c.t, .int .i64 c.f, .int .i64 c.a, .slice xa l.length xc, .bool cm, .int .i64 gr, .int .i64 gv] 31)) (w.heap.size + 1) (.int .i64 2) (.int .i64 N) (.int .i64 L) (by simp)).later (W' := (((w.alloc (.cells #[.int .i64 c.m, .int .i64 c.t, .int .i64 c.f, .int .i64 c.a, .slice xa l.length xc, .bool cm, .int .i64 gr, .int .i64 gv] 31)).alloc (.cells #[.int .i64 2, .int .i64 N, .int .i64 L] 36)).alloc (.cells #[.int .i64 0, .int .i64 0, .int .i64 0, .int .i64 0, .slice none 0 0, .bool false, .int .i64 0, .int .i64 0] 31))) ((Below.refl _ _).alloc (Nat.le_refl _) _)
  have hX2 := at8_new 31 ((w.alloc (.cells #[.int .i64 c.m, .int .i64 c.t, .int .i64 c.f, .int .i64 c.a, .slice xa l.length xc, .bool cm, .int .i64 gr, .int .i64 gv] 31)).alloc (.cells #[.int .i64 2, .int .i64 N, .int .i64 L] 36)) (w.heap.size + 1 + 1) (.int .i64 0) (.int .i64 0) (.int .i64 0) (.int .i64 0) (.slice none 0 0) (.bool false) (.int .i64 0) (.int .i64 0) (by simp)
  have hb : Below w.heap.size w (((w.alloc (.cells #[.int .i64 c.m, .int .i64 c.t, .int .i64 c.f, .int .i64 c.a, .slice xa l.length xc, .bool cm, .int .i64 gr, .int .i64 gv] 31)).alloc (.cells #[.int .i64 2, .int .i64 N, .int .i64 L] 36)).alloc (.cells #[.int .i64 0, .int .i64 0, .int .i64 0, .int .i64 0, .slice none 0 0, .bool false, .int .i64 0, .int .i64 0] 31)) := (((Below.refl _ _).alloc (Nat.le_refl _) _).alloc (by simp) _).alloc (by simp; omega) _
  go_enter Try.func12, Try.ntmps12
  go_upto_region 1 with fail
  generalize (((w.alloc (.cells #[.int .i64 c.m, .int .i64 c.t, .int .i64 c.f, .int .i64 c.a, .slice xa l.length xc, .bool cm, .int .i64 gr, .int .i64 gv] 31)).alloc (.cells #[.int .i64 2, .int .i64 N, .int .i64 L] 36)).alloc (.cells #[.int .i64 0, .int .i64 0, .int .i64 0, .int .i64 0, .slice none 0 0, .bool false, .int .i64 0, .int .i64 0] 31)) = w2 at *
  have hQ2 := h.later hb
  have hx2 := hx.later hb
  have hK2 := keptG_below hb
  generalize hg2 : w.heap.size + 1 + 1 = g2 at *
  generalize hg1 : w.heap.size + 1 = g1 at *
  generalize hg0 : w.heap.size = g0 at *
  have hle2 : g0 ≤ g2 := by omega
  have hne02 : g0 ≠ g2 := by omega
  have hne12 : g1 ≠ g2 := by omega
  have HG := Lib.hid hg0
  clear hg0 hg1 hg2 h hx
  obtain ⟨_, _, _, _, _, _, _, _⟩ := hX0.cells
  obtain ⟨_, _, _⟩ := hX1.cells
  obtain ⟨_, _, _, _, _, _, _, _⟩ := hX2.cells
  obtain ⟨_, _, _, _, _, _, _, _⟩ := hX2.frees
  go_upto_region 9 with fail
  go_wp2_with fail
  refine (HPu.out w2 hx2).mono ?_
  rintro e w3 ⟨vy, dv, rfl, hy3, hD3, hk3⟩
  obtain ⟨ay, cy, rfl⟩ := hy3.formG
  obtain ⟨ad, cd, rfl⟩ := hD3.formG
  obtain ⟨nL, hNL0⟩ : ∃ z, LL.length = z := ⟨_, rfl⟩
  have HNL := Lib.hid hNL0
  rw [hNL0] at hy3 ⊢
  clear hNL0
  obtain ⟨nz, hnz0⟩ : ∃ z, zs.length = z := ⟨_, rfl⟩
  have HNZ := Lib.hid hnz0
  rw [hnz0] at hD3 hzl ⊢
  clear hnz0
  unfold grG
  have hX0_3 := hX0.later hk3
  have hX1_3 := hX1.later hk3
  have hX2_3 := hX2.later hk3
  have hQ3 := hQ2.later hk3
  have hb3 := hb.trans (hk3.mono (Nat.le_of_lt hX0.lt))
  have hK3 := hK2.trans (keptG_below hk3)
  clear hX0 hX1 hX2 hQ2 hx2 hb hK2 hk3
  have hal : Below w3.heap.size w3 (w3.alloc (.cells #[.int .i64 c.m, .int .i64 c.t, .int .i64 c.f, .int .i64 c.a, .slice ay nL cy, .bool cm, .int .i64 gr, .int .i64 gv2] 31)) := (Below.refl _ _).alloc (Nat.le_refl _) _
  have hY0 := at8_new 31 w3 w3.heap.size (.int .i64 c.m) (.int .i64 c.t) (.int .i64 c.f) (.int .i64 c.a) (.slice ay nL cy) (.bool cm) (.int .i64 gr) (.int .i64 gv2) rfl
  have hX1_4 := hX1_3.later hal
  have hX2_4 := hX2_3.later hal
  have hX0_4 := hX0_3.later hal
  have hQ4 := hQ3.later hal
  have hy4 := hy3.later hal
  have hD4 := hD3.later hal
  have hgl := hX2_3.lt
  have hsz3 := hal.size
  have hb4 := hb3.trans (hal.mono (by omega))
  have hK4 := hK3.trans (keptG_below hal)
  go_upto_region 10 with fail
  generalize (w3.alloc (.cells #[.int .i64 c.m, .int .i64 c.t, .int .i64 c.f, .int .i64 c.a, .slice ay nL cy, .bool cm, .int .i64 gr, .int .i64 gv2] 31)) = w4 at *
  generalize w3.heap.size = gy at *
  clear hal hX0_3 hX1_3 hX2_3 hQ3 hy3 hb3 hK3
  obtain ⟨_, _, _, _, _, _, _, _⟩ := hX0_4.cells
  obtain ⟨_, _, _⟩ := hX1_4.cells
  obtain ⟨_, _, _, _, _, _, _, _⟩ := hX2_4.cells
  obtain ⟨_, _, _, _, _, _, _, _⟩ := hX2_4.frees
  obtain ⟨_, _, _, _, _, _, _, _⟩ := hY0.cells
  have HPs := Lib.hid (HPP.out _ _ hQ4.drew)
  have HSm := Lib.hid (fun W (a : Option Addr) (cc : Nat) (hk : KeptG w4.drew W) (hr : Reads .i64 W a zs) => (by
    have hd := hD4.drew.keptG hk (by decide) (by decide)
    rw [← HNZ.out] at hd
    obtain ⟨a', c', e', _, _, _, hr'⟩ := hd.intsG
    simp only [Value.slice.injEq, true_and] at e'
    obtain ⟨rfl, rfl⟩ := e'
    rw [← HNZ.out]
    exact sameIntG_any zs a ad zs.length cc cd W rfl hr hr' (by rw [HNZ.out]; omega) : Calls Try.prog 20 #[.slice a nz cc, .slice ad nz cd] W fun e w' => e = .returned (.bool true) ∧ Below W.heap.size W w'))
  rw [HNZ.out] at HPs
  clear hD4 hD3
  go_region_with (first | (go_at_call 15; refine HPs.out.mono ?_; rintro e w7 ⟨d7, v7, rfl, hD7, hQ7, hk7, hK7⟩; rw [← HNZ.out] at hD7; obtain ⟨a7, c7, rfl, _, _, _, hr7⟩ := hD7.intsG; clear hD7; rw [HNZ.out]; have hY7 := hY0.drew.keptG hK7 (by decide) (by decide); have hX2_7 := hX2_4.drew.keptG hK7 (by decide) (by decide); obtain ⟨_, _, _, _, _, _, _, _⟩ := hY7.cells; obtain ⟨_, _, _, _, _, _, _, _⟩ := hX2_7.frees; obtain ⟨_, _, _, _, _, _, _, _⟩ := hX2_7.cells) | (go_at_call 20; refine (HSm.out _ _ _ hK7 hr7).mono ?_; rintro e w9 ⟨rfl, hk8⟩; have hY9 := hY7.later hk8; have hX2_9 := hX2_7.later hk8; have hQ9 := hQ7.later hk8; have hk9 := hk7.trans (hk8.mono (by have := hQ7.bs; have := hQ7.at8.lt; omega)); have hK9 := hK7.trans (keptG_below hk8); obtain ⟨_, _, _, _, _, _, _, _⟩ := hY9.cells; obtain ⟨_, _, _, _, _, _, _, _⟩ := hX2_9.frees; obtain ⟨_, _, _, _, _, _, _, _⟩ := hX2_9.cells))
  all_goals
    have ho8 := put8_only w9 g2 (.int .i64 c.m) (.int .i64 c.t) (.int .i64 c.f) (.int .i64 c.a) (.slice ay nL cy) (.bool cm) (.int .i64 gr) (.int .i64 gv2)
    have hZ := at8_put8 hX2_9 (.int .i64 c.m) (.int .i64 c.t) (.int .i64 c.f) (.int .i64 c.a) (.slice ay nL cy) (.bool cm) (.int .i64 gr) (.int .i64 gv2)
    have hQ8 := hQ9.only8 hX2_9 ho8 (by decide) (by decide)
    have hy8 := (hy4.drew.keptG hK9 (by decide) (by decide)).only8 hX2_9 ho8 (by decide)
    have hb8 := ((hb4.mono hbz).drew.trans hk9).trans (ho8.below (Nat.le_trans hbz hle2))
    have hK8 := keptG_new ho8 (hK4.drew.trans hK9) (by rw [HG.out]; exact hle2)
    obtain ⟨d0, d1, d2, d3, d4, d5, d6, d7⟩ := hZ.cells
    go_wp2_with fail
    refine bodyPost_ret (v := .tuple #[.agg #[.int .i64 c.m, .int .i64 c.t, .int .i64 c.f, .int .i64 c.a, .slice ay nL cy, .bool cm, .int .i64 gr, .int .i64 gv2], .bool true]) (by simp [results, Try.results12, go_sem, d0, d1, d2, d3, d4, d5, d6, d7]) rfl ⟨v7, _, rfl, hQ8, by rw [HNL.out]; exact hy8, hb8, hK8⟩
set_option maxRecDepth 100000 in
set_option maxHeartbeats 6400000 in
theorem gpDo3 {w : World} {base gg : Nat} {c : GC} {cm : Bool} {gr : Int} {v vx : Value} {l : List GW} {gv : Int} (h : GIn w base gg c cm gr v l gv) (hx : OwnE w 0 65 3 vx l.length (grV l)) (hl : cm = false → l = []) (hgv : 0 ≤ gv ∧ gv ≤ 576460752303423488) (hks : ∀ x ∈ l, x.k ≤ 100 ∧ 0 ≤ x.at_ ∧ x.at_ ≤ 1099512676352) (kd N L now : Int) (hk3 : kd ≠ 0 ∧ kd ≠ 1 ∧ kd ≠ 2) :
    Calls Try.prog 12 #[.pointer (some ⟨gg, 0, none⟩), grG c vx cm gr gv, .agg #[.int .i64 kd, .int .i64 N, .int .i64 L], .int .i64 now] w fun e w' => ∃ v' vx', e = .returned (.tuple #[grG c vx' (cm) (gr) (gv), .bool true]) ∧ GIn w' base gg c (cm) (gr) v' (l.take 0 ++ l.drop (gpPas N l)) (gv) ∧ OwnE w' 0 65 3 vx' (l.take 0 ++ l.drop (gpPas N l)).length (grV (l.take 0 ++ l.drop (gpPas N l))) ∧ Below base w w' ∧ KeptG w w' := by
  obtain ⟨hk0, hk1, hk2⟩ := hk3
  have hd0 : (kd == 0) = false := by simpa using hk0
  have hd1 : (kd == 1) = false := by simpa using hk1
  have hd2 : (kd == 2) = false := by simpa using hk2
  clear hk0 hk1 hk2
  have HPu0 := fun W (hW : OwnE W 0 65 3 vx l.length (grV l)) => refGpForget_any c cm gr gv N hW (by have := h.small; omega)
  rw [grF_pas h.up, gpPas_len] at HPu0
  have HPP0 := fun W (v' : Value) (hQ : GIn W base gg c cm gr v' l gv) => gpForget_any hQ N
  have HPu := Lib.hid HPu0
  have HPP := Lib.hid HPP0
  clear HPu0 HPP0
  obtain ⟨LL, hLL⟩ : ∃ z, l.take 0 ++ l.drop (gpPas N l) = z := ⟨_, rfl⟩
  rw [hLL] at HPu HPP ⊢
  obtain ⟨pn, hpn⟩ : ∃ z, gpPas N l = z := ⟨_, rfl⟩
  rw [hpn] at HPu HPP
  clear hLL hpn
  unfold grG
  obtain ⟨xa, xc, rfl⟩ := hx.formG
  have hbz : base ≤ w.heap.size := by have := h.at8.lt; have := h.bs; omega
  have hsm := h.small
  have hup := h.up
  have hok := h.ok
  have hgb := h.gb
  have hX0 := ((at8_new 31 w w.heap.size (.int .i64 c.m) (.int .i64 c.t) (.int .i64 c.f) (.int .i64 c.a) (.slice xa l.length xc) (.bool cm) (.int .i64 gr) (.int .i64 gv) rfl).later (W' := ((w.alloc (.cells #[.int .i64 c.m, .int .i64 c.t, .int .i64 c.f, .int .i64 c.a, .slice xa l.length xc, .bool cm, .int .i64 gr, .int .i64 gv] 31)).alloc (.cells #[.int .i64 kd, .int .i64 N, .int .i64 L] 36))) ((Below.refl _ _).alloc (Nat.le_refl _) _)).later (W' := (((w.alloc (.cells #[.int .i64 c.m, .int .i64 c.t, .int .i64 c.f, .int .i64 c.a, .slice xa l.length xc, .bool cm, .int .i64 gr, .int .i64 gv] 31)).alloc (.cells #[.int .i64 kd, .int .i64 N, .int .i64 L] 36)).alloc (.cells #[.int .i64 0, .int .i64 0, .int .i64 0, .int .i64 0, .slice none 0 0, .bool false, .int .i64 0, .int .i64 0] 31))) ((Below.refl _ _).alloc (Nat.le_refl _) _)
  have hX1 := (at3_new 36 (w.alloc (.cells #[.int .i64 c.m, .int .i64 c.t, .int .i64 c.f, .int .i64 c.a, .slice xa l.length xc, .bool cm, .int .i64 gr, .int .i64 gv] 31)) (w.heap.size + 1) (.int .i64 kd) (.int .i64 N) (.int .i64 L) (by simp)).later (W' := (((w.alloc (.cells #[.int .i64 c.m, .int .i64 c.t, .int .i64 c.f, .int .i64 c.a, .slice xa l.length xc, .bool cm, .int .i64 gr, .int .i64 gv] 31)).alloc (.cells #[.int .i64 kd, .int .i64 N, .int .i64 L] 36)).alloc (.cells #[.int .i64 0, .int .i64 0, .int .i64 0, .int .i64 0, .slice none 0 0, .bool false, .int .i64 0, .int .i64 0] 31))) ((Below.refl _ _).alloc (Nat.le_refl _) _)
  have hX2 := at8_new 31 ((w.alloc (.cells #[.int .i64 c.m, .int .i64 c.t, .int .i64 c.f, .int .i64 c.a, .slice xa l.length xc, .bool cm, .int .i64 gr, .int .i64 gv] 31)).alloc (.cells #[.int .i64 kd, .int .i64 N, .int .i64 L] 36)) (w.heap.size + 1 + 1) (.int .i64 0) (.int .i64 0) (.int .i64 0) (.int .i64 0) (.slice none 0 0) (.bool false) (.int .i64 0) (.int .i64 0) (by simp)
  have hb : Below w.heap.size w (((w.alloc (.cells #[.int .i64 c.m, .int .i64 c.t, .int .i64 c.f, .int .i64 c.a, .slice xa l.length xc, .bool cm, .int .i64 gr, .int .i64 gv] 31)).alloc (.cells #[.int .i64 kd, .int .i64 N, .int .i64 L] 36)).alloc (.cells #[.int .i64 0, .int .i64 0, .int .i64 0, .int .i64 0, .slice none 0 0, .bool false, .int .i64 0, .int .i64 0] 31)) := (((Below.refl _ _).alloc (Nat.le_refl _) _).alloc (by simp) _).alloc (by simp; omega) _
  go_enter Try.func12, Try.ntmps12
  go_upto_region 1 with fail
  generalize (((w.alloc (.cells #[.int .i64 c.m, .int .i64 c.t, .int .i64 c.f, .int .i64 c.a, .slice xa l.length xc, .bool cm, .int .i64 gr, .int .i64 gv] 31)).alloc (.cells #[.int .i64 kd, .int .i64 N, .int .i64 L] 36)).alloc (.cells #[.int .i64 0, .int .i64 0, .int .i64 0, .int .i64 0, .slice none 0 0, .bool false, .int .i64 0, .int .i64 0] 31)) = w2 at *
  have hQ2 := h.later hb
  have hx2 := hx.later hb
  have hK2 := keptG_below hb
  generalize hg2 : w.heap.size + 1 + 1 = g2 at *
  generalize hg1 : w.heap.size + 1 = g1 at *
  generalize hg0 : w.heap.size = g0 at *
  have hle2 : g0 ≤ g2 := by omega
  have hne02 : g0 ≠ g2 := by omega
  have hne12 : g1 ≠ g2 := by omega
  have HG := Lib.hid hg0
  clear hg0 hg1 hg2 h hx
  obtain ⟨_, _, _, _, _, _, _, _⟩ := hX0.cells
  obtain ⟨_, _, _⟩ := hX1.cells
  obtain ⟨_, _, _, _, _, _, _, _⟩ := hX2.cells
  obtain ⟨_, _, _, _, _, _, _, _⟩ := hX2.frees
  go_upto_region 3 with fail
  go_wp2_with fail
  refine (HPu.out w2 hx2).mono ?_
  rintro e w3 ⟨vy, rfl, hy3, hk3⟩
  obtain ⟨ay, cy, rfl⟩ := hy3.formG
  obtain ⟨nL, hNL0⟩ : ∃ z, LL.length = z := ⟨_, rfl⟩
  have HNL := Lib.hid hNL0
  rw [hNL0] at hy3 ⊢
  clear hNL0
  unfold grG
  have hX0_3 := hX0.later hk3
  have hX1_3 := hX1.later hk3
  have hX2_3 := hX2.later hk3
  have hQ3 := hQ2.later hk3
  have hb3 := hb.trans (hk3.mono (Nat.le_of_lt hX0.lt))
  have hK3 := hK2.trans (keptG_below hk3)
  clear hX0 hX1 hX2 hQ2 hx2 hb hK2 hk3
  have hal : Below w3.heap.size w3 (w3.alloc (.cells #[.int .i64 c.m, .int .i64 c.t, .int .i64 c.f, .int .i64 c.a, .slice ay nL cy, .bool cm, .int .i64 gr, .int .i64 gv] 31)) := (Below.refl _ _).alloc (Nat.le_refl _) _
  have hY0 := at8_new 31 w3 w3.heap.size (.int .i64 c.m) (.int .i64 c.t) (.int .i64 c.f) (.int .i64 c.a) (.slice ay nL cy) (.bool cm) (.int .i64 gr) (.int .i64 gv) rfl
  have hX1_4 := hX1_3.later hal
  have hX2_4 := hX2_3.later hal
  have hX0_4 := hX0_3.later hal
  have hQ4 := hQ3.later hal
  have hy4 := hy3.later hal
  have hgl := hX2_3.lt
  have hsz3 := hal.size
  have hb4 := hb3.trans (hal.mono (by omega))
  have hK4 := hK3.trans (keptG_below hal)
  go_upto_region 4 with fail
  generalize (w3.alloc (.cells #[.int .i64 c.m, .int .i64 c.t, .int .i64 c.f, .int .i64 c.a, .slice ay nL cy, .bool cm, .int .i64 gr, .int .i64 gv] 31)) = w4 at *
  generalize w3.heap.size = gy at *
  clear hal hX0_3 hX1_3 hX2_3 hQ3 hy3 hb3 hK3
  obtain ⟨_, _, _, _, _, _, _, _⟩ := hX0_4.cells
  obtain ⟨_, _, _⟩ := hX1_4.cells
  obtain ⟨_, _, _, _, _, _, _, _⟩ := hX2_4.cells
  obtain ⟨_, _, _, _, _, _, _, _⟩ := hX2_4.frees
  obtain ⟨_, _, _, _, _, _, _, _⟩ := hY0.cells
  have HPs := Lib.hid (HPP.out _ _ hQ4.drew)
  go_region_with (first | (go_at_call 19; refine HPs.out.mono ?_; rintro e w7 ⟨rfl, ⟨v7, hQ7⟩, hk7, hK7⟩; have hY7 := hY0.drew.keptG hK7 (by decide) (by decide); have hX2_7 := hX2_4.drew.keptG hK7 (by decide) (by decide); obtain ⟨_, _, _, _, _, _, _, _⟩ := hY7.cells; obtain ⟨_, _, _, _, _, _, _, _⟩ := hX2_7.frees; obtain ⟨_, _, _, _, _, _, _, _⟩ := hX2_7.cells))
  all_goals
    have ho8 := put8_only w7 g2 (.int .i64 c.m) (.int .i64 c.t) (.int .i64 c.f) (.int .i64 c.a) (.slice ay nL cy) (.bool cm) (.int .i64 gr) (.int .i64 gv)
    have hZ := at8_put8 hX2_7 (.int .i64 c.m) (.int .i64 c.t) (.int .i64 c.f) (.int .i64 c.a) (.slice ay nL cy) (.bool cm) (.int .i64 gr) (.int .i64 gv)
    have hQ8 := hQ7.only8 hX2_7 ho8 (by decide) (by decide)
    have hy8 := (hy4.drew.keptG hK7 (by decide) (by decide)).only8 hX2_7 ho8 (by decide)
    have hb8 := ((hb4.mono hbz).drew.trans hk7).trans (ho8.below (Nat.le_trans hbz hle2))
    have hK8 := keptG_new ho8 (hK4.drew.trans hK7) (by rw [HG.out]; exact hle2)
    obtain ⟨d0, d1, d2, d3, d4, d5, d6, d7⟩ := hZ.cells
    go_wp2_with fail
    refine bodyPost_ret (v := .tuple #[.agg #[.int .i64 c.m, .int .i64 c.t, .int .i64 c.f, .int .i64 c.a, .slice ay nL cy, .bool cm, .int .i64 gr, .int .i64 gv], .bool true]) (by simp [results, Try.results12, go_sem, d0, d1, d2, d3, d4, d5, d6, d7]) rfl ⟨v7, _, rfl, hQ8, by rw [HNL.out]; exact hy8, hb8, hK8⟩
theorem gpDo_any {w : World} {base gg : Nat} {c : GC} {cm : Bool} {gr : Int} {v vx : Value} {l : List GW} {gv : Int} (h : GIn w base gg c cm gr v l gv) (hx : OwnE w 0 65 3 vx l.length (grV l)) (hl : cm = false → l = []) (hgv : 0 ≤ gv ∧ gv ≤ 576460752303423488) (hks : ∀ x ∈ l, x.k ≤ 100 ∧ 0 ≤ x.at_ ∧ x.at_ ≤ 1099512676352) (kd N L now : Int) :
    Calls Try.prog 12 #[.pointer (some ⟨gg, 0, none⟩), grG c vx cm gr gv, .agg #[.int .i64 kd, .int .i64 N, .int .i64 L], .int .i64 now] w fun e w' => ∃ (cm' : Bool) (gr' gv' : Int) (l' : List GW) (v' vx' : Value), e = .returned (.tuple #[grG c vx' cm' gr' gv', .bool true]) ∧ GIn w' base gg c cm' gr' v' l' gv' ∧ OwnE w' 0 65 3 vx' l'.length (grV l') ∧ (cm' = false → l' = []) ∧ 0 ≤ gv' ∧ gv' ≤ gv + 4398046512000 ∧ Below base w w' ∧ KeptG w w' := by
  by_cases h0 : kd = 0
  · subst h0
    have hu := cmU_bd h (gr + N % 64)
    refine (gpDo0 h hx hl hgv hks N L now).mono ?_
    rintro e w' ⟨v', vx', rfl, h1, h2, h3, h4⟩
    exact ⟨_, _, _, _, v', vx', rfl, h1, h2, (fun h => by cases h), by omega, by omega, h3, h4⟩
  · by_cases h1 : kd = 1
    · subst h1
      have hu := cmU_bd h N
      refine (gpDo1 h hx hl hgv hks N L now).mono ?_
      rintro e w' ⟨v', vx', rfl, h1, h2, h3, h4⟩
      exact ⟨_, _, _, _, v', vx', rfl, h1, h2, (fun h => by cases h), by omega, by omega, h3, h4⟩
    · by_cases h2 : kd = 2
      · subst h2
        have hs := h.small
        have hk := gpDueK_len c (gpK now) l
        refine (gpDo2 h hx hl hgv hks N L now).mono ?_
        rintro e w' ⟨v', vx', rfl, h1, h2, h3, h4⟩
        exact ⟨_, _, _, _, v', vx', rfl, h1, h2, (fun h => by rw [hl h]; rfl), by omega, by omega, h3, h4⟩
      · refine (gpDo3 h hx hl hgv hks kd N L now ⟨h0, h1, h2⟩).mono ?_
        rintro e w' ⟨v', vx', rfl, h1, h2, h3, h4⟩
        exact ⟨_, _, _, _, v', vx', rfl, h1, h2, (fun h => by rw [hl h]; rfl), by omega, by omega, h3, h4⟩
theorem GIn.ks {w : World} {base gg : Nat} {c : GC} {cm : Bool} {gr : Int} {v : Value} {l : List GW} {gv : Int} (h : GIn w base gg c cm gr v l gv) : ∀ x ∈ l, x.k ≤ 100 ∧ 0 ≤ x.at_ ∧ x.at_ ≤ 1099512676352 := fun x hx => by
  have := h.ab x hx
  omega
end Go.Proofs.Ytdbmhgfdcdcgfaa
