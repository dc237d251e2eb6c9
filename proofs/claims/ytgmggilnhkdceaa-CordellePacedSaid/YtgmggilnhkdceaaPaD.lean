/- pace: At, of both sides. -/
import Derived.Test.YtgmggilnhkdceaaPaC
namespace Go.Proofs.Ytgmggilnhkdceaa
open Go.RowKit
set_option linter.unusedVariables false
theorem PP.up_eq (r b k l now nw S m K M : Int) (h : PP.Ok ⟨r, b, k, l⟩) (hn : am 0 now 1099511627776 = nw) (hS : max (nw - l) 0 = S) (hm : S * r = m) (hK : min (k + m) b = K) (hM : l + S = M) : K = PP.upA ⟨r, b, k, l⟩ (clkT now - l) ∧ M = max l (clkT now) := by
  have h0 := h.l0
  have h1 := h.l1
  have h2 := h.k1
  simp only at h0 h1 h2
  unfold am at hn
  unfold PP.upA clkT
  simp only
  refine ⟨?_, by omega⟩
  split
  case isTrue g =>
    have e : S = min now 1099511627776 - l := by omega
    rw [← hK, ← hm, e, Int.mul_comm, Int.min_comm]
  case isFalse g =>
    have e : S = 0 := by omega
    rw [e, Int.zero_mul] at hm
    omega
theorem PP.up_bd (r b k l now nw S m : Int) (h : PP.Ok ⟨r, b, k, l⟩) (hn : am 0 now 1099511627776 = nw) (hS : max (nw - l) 0 = S) (hm : S * r = m) : 0 ≤ nw ∧ nw ≤ 1099511627776 ∧ 0 ≤ S ∧ S ≤ 1099511627776 ∧ 0 ≤ m ∧ m ≤ 72057594037927936 := by
  have h0 := h.l0
  have h3 := h.r0
  have h4 := h.r1
  simp only at h0 h3 h4
  have a := am_lo 0 now 1099511627776 (by omega)
  have b := am_hi 0 now 1099511627776
  have e0 := Int.mul_nonneg (show 0 ≤ S by omega) (show 0 ≤ r by omega)
  have e1 := Int.mul_le_mul (show S ≤ 1099511627776 by omega) h4 (by omega) (by omega)
  omega
set_option maxHeartbeats 1600000 in
theorem paAt_any (p : PP) (now : Int) (w : World) : Calls Try.prog 25 #[p.val, .int .i64 now] w fun e w' => e = .returned (p.at now).val ∧ Below w.heap.size w w' := by
  have HC := Lib.hid (fun W => paCnt_any p W)
  have hok := p.fit_ok
  have hat : p.at now = ⟨p.fit.r, p.fit.b, p.fit.upA (clkT now - p.fit.l), max p.fit.l (clkT now)⟩ := rfl
  generalize p.at now = P2 at hat ⊢
  generalize p.fit = q at HC hok hat
  obtain ⟨r, b, k, l⟩ := p
  obtain ⟨r1, b1, k1, l1⟩ := q
  simp only [PP.val] at HC hat ⊢
  obtain ⟨nw, hn⟩ : ∃ z, am 0 now 1099511627776 = z := ⟨_, rfl⟩
  obtain ⟨S, hS⟩ : ∃ z, max (nw - l1) 0 = z := ⟨_, rfl⟩
  obtain ⟨m, hm⟩ : ∃ z, S * r1 = z := ⟨_, rfl⟩
  obtain ⟨K, hK⟩ : ∃ z, min (k1 + m) b1 = z := ⟨_, rfl⟩
  obtain ⟨M, hM⟩ : ∃ z, l1 + S = z := ⟨_, rfl⟩
  obtain ⟨n0, n1, S0, S1, m0, m1⟩ := PP.up_bd r1 b1 k1 l1 now nw S m hok hn hS hm
  obtain ⟨e1, e2⟩ := PP.up_eq r1 b1 k1 l1 now nw S m K M hok hn hS hm hK hM
  rw [← e1, ← e2] at hat
  subst hat
  have o0 := hok.k0
  have o1 := hok.k1
  have o2 := hok.b1
  have o3 := hok.l0
  have o4 := hok.l1
  simp only at o0 o1 o2 o3 o4
  clear hok e1 e2
  have ht : ∀ W : World, Calls Try.prog 60 #[.int .i64 now] W fun e w' => e = .returned (.int .i64 nw) ∧ w' = W := fun W => by rw [← hn]; exact paTick_q now W
  have HT := Lib.hid ht
  clear ht hn
  have hw0 : IntKind.i64.wrap (nw - l1) = nw - l1 := IntWalk.i64_in _ ⟨by omega, by omega⟩
  have hw1 : IntKind.i64.wrap (S * r1) = m := by rw [hm]; exact IntWalk.i64_in _ ⟨by omega, by omega⟩
  have hw2 : IntKind.i64.wrap (k1 + m) = k1 + m := IntWalk.i64_in _ ⟨by omega, by omega⟩
  have hw3 : IntKind.i64.wrap (l1 + S) = M := by rw [hM]; exact IntWalk.i64_in _ ⟨by omega, by omega⟩
  clear n0 n1 S0 S1 m0 m1 o0 o1 o2 o3 o4 hm hM
  have hX0 : At4 49 ((w.alloc (.cells #[.int .i64 r, .int .i64 b, .int .i64 k, .int .i64 l] 49)).alloc (.cells #[.int .i64 0, .int .i64 0, .int .i64 0, .int .i64 0] 49)) w.heap.size (.int .i64 r) (.int .i64 b) (.int .i64 k) (.int .i64 l) := (at4_new 49 _ _ (.int .i64 r) (.int .i64 b) (.int .i64 k) (.int .i64 l) rfl).alloc _
  have hX1 : At4 49 ((w.alloc (.cells #[.int .i64 r, .int .i64 b, .int .i64 k, .int .i64 l] 49)).alloc (.cells #[.int .i64 0, .int .i64 0, .int .i64 0, .int .i64 0] 49)) (w.heap.size + 1) (.int .i64 0) (.int .i64 0) (.int .i64 0) (.int .i64 0) := at4_new 49 _ _ (.int .i64 0) (.int .i64 0) (.int .i64 0) (.int .i64 0) (by simp)
  have hb : Below w.heap.size w ((w.alloc (.cells #[.int .i64 r, .int .i64 b, .int .i64 k, .int .i64 l] 49)).alloc (.cells #[.int .i64 0, .int .i64 0, .int .i64 0, .int .i64 0] 49)) := ((Below.refl _ _).alloc (Nat.le_refl _) _).alloc (by simp) _
  go_enter Try.func25, Try.ntmps25
  go_upto_region 1 with fail
  generalize ((w.alloc (.cells #[.int .i64 r, .int .i64 b, .int .i64 k, .int .i64 l] 49)).alloc (.cells #[.int .i64 0, .int .i64 0, .int .i64 0, .int .i64 0] 49)) = w2 at hX0 hX1 hb ⊢
  generalize hg1 : w.heap.size + 1 = g1 at hX1 ⊢
  generalize hg0 : w.heap.size = g0 at hX0 hb hg1 ⊢
  have hne01 : g0 ≠ g1 := by omega
  have hle1 : g0 ≤ g1 := by omega
  have hne10 : g1 ≠ g0 := by omega
  have HG := Lib.hid hg0
  clear hg0 hg1
  obtain ⟨_, _, _, _⟩ := hX0.frees
  obtain ⟨_, _, _, _⟩ := hX0.cells
  obtain ⟨_, _, _, _⟩ := hX1.frees
  obtain ⟨_, _, _, _⟩ := hX1.cells
  go_wp2_with fail
  refine (HC.out _).mono ?_
  rintro e w3 ⟨rfl, hk3⟩
  have hX0_3 := hX0.later hk3
  have hX1_3 := hX1.later hk3
  have hb3 := hb.trans (hk3.mono (by have := hX0.lt; omega))
  obtain ⟨_, _, _, _⟩ := hX0_3.frees
  obtain ⟨_, _, _, _⟩ := hX0_3.cells
  obtain ⟨_, _, _, _⟩ := hX1_3.frees
  obtain ⟨_, _, _, _⟩ := hX1_3.cells
  go_upto_region 2 with fail
  have hX0_4 := at4_put hX0_3 (.int .i64 r1) (.int .i64 b1) (.int .i64 k1) (.int .i64 l1)
  have ho4 := put4_only w3 g0 (.int .i64 r1) (.int .i64 b1) (.int .i64 k1) (.int .i64 l1)
  have hX1_4 := hX1_3.only hne10 ho4
  have hb4 := hb3.trans (ho4.below (Nat.le_refl _))
  generalize ((((w3.setCell ⟨g0, 0, none⟩ (.int .i64 r1)).setCell ⟨g0, 1, none⟩ (.int .i64 b1)).setCell ⟨g0, 2, none⟩ (.int .i64 k1)).setCell ⟨g0, 3, none⟩ (.int .i64 l1)) = w4 at hX0_4 hX1_4 hb4 ⊢
  clear ho4
  obtain ⟨_, _, _, _⟩ := hX0_4.frees
  obtain ⟨_, _, _, _⟩ := hX0_4.cells
  obtain ⟨_, _, _, _⟩ := hX1_4.frees
  obtain ⟨_, _, _, _⟩ := hX1_4.cells
  go_region_held3 (fun W => W.cell? ⟨g0, 3, none⟩ = some (.int .i64 l1)) (first | (go_keep; done) | exact hX0_4.cells.2.2.2 | exact hX0_4.drew.cells.2.2.2) (first | (go_at_call 60; refine (HT.out _).mono ?_; rintro e w' ⟨rfl, rfl⟩))
  go_upto_region 3 with fail
  have hX0_5 := hX0_4.drew
  have hX1_5 := hX1_4.drew
  have hb5 := hb4.drew
  generalize w4.drew = w5 at hX0_5 hX1_5 hb5 ⊢
  obtain ⟨_, _, _, _⟩ := hX0_5.frees
  obtain ⟨_, _, _, _⟩ := hX0_5.cells
  obtain ⟨_, _, _, _⟩ := hX1_5.frees
  obtain ⟨_, _, _, _⟩ := hX1_5.cells
  go_upto_region 4 with fail
  have hX0_6 := (at4p_set2 hX0_5 (.int .i64 K))
  have ho6 := ((Only.refl g0 w5).setCell 2 (.int .i64 K))
  have hX1_6 := hX1_5.only hne10 ho6
  have hb6 := hb5.trans (ho6.below (Nat.le_refl _))
  generalize (w5.setCell ⟨g0, 2, none⟩ (.int .i64 K)) = w6 at hX0_6 hX1_6 hb6 ⊢
  clear ho6
  obtain ⟨_, _, _, _⟩ := hX0_6.frees
  obtain ⟨_, _, _, _⟩ := hX0_6.cells
  obtain ⟨_, _, _, _⟩ := hX1_6.frees
  obtain ⟨_, _, _, _⟩ := hX1_6.cells
  go_upto_region 5 with fail
  have hX0_7 := (at4p_set3 hX0_6 (.int .i64 M))
  have ho7 := ((Only.refl g0 w6).setCell 3 (.int .i64 M))
  have hX1_7 := hX1_6.only hne10 ho7
  have hb7 := hb6.trans (ho7.below (Nat.le_refl _))
  generalize (w6.setCell ⟨g0, 3, none⟩ (.int .i64 M)) = w7 at hX0_7 hX1_7 hb7 ⊢
  clear ho7
  obtain ⟨_, _, _, _⟩ := hX0_7.frees
  obtain ⟨_, _, _, _⟩ := hX0_7.cells
  obtain ⟨_, _, _, _⟩ := hX1_7.frees
  obtain ⟨_, _, _, _⟩ := hX1_7.cells
  have hZ := at4_put hX1_7 (.int .i64 r1) (.int .i64 b1) (.int .i64 K) (.int .i64 M)
  have hbz := hb7.trans ((put4_only w7 g1 (.int .i64 r1) (.int .i64 b1) (.int .i64 K) (.int .i64 M)).below hle1)
  obtain ⟨d0, d1, d2, d3⟩ := hZ.cells
  go_wp2_with fail
  refine bodyPost_ret (v := .agg #[.int .i64 r1, .int .i64 b1, .int .i64 K, .int .i64 M]) (by simp [results, Try.results25, go_sem, d0, d1, d2, d3]) rfl ⟨rfl, by rw [HG.out]; exact hbz⟩
theorem PP.at_c (p : PP) (now : Int) (r1 b1 k1 l1 : Int) (h : p.fit = ⟨r1, b1, k1, l1⟩) (nw : Int) (hn : min now 1099511627776 = nw) : p.at now = if nw ≤ l1 then ⟨r1, b1, k1, l1⟩ else if 1048576 ≤ nw - l1 then ⟨r1, b1, b1, nw⟩ else ⟨r1, b1, min b1 (k1 + r1 * (nw - l1)), nw⟩ := by
  have hok := p.fit_ok
  have far := fun d hd => p.fit.upA_far hok d hd
  unfold PP.at clkT
  rw [h] at far hok ⊢
  simp only at far ⊢
  rw [hn]
  split
  case isTrue g =>
    have : ¬ 0 < nw - l1 := by omega
    simp only [PP.upA, if_neg this, PP.mk.injEq, true_and]
    omega
  case isFalse g =>
    have e : max l1 nw = nw := by omega
    rw [e]
    split
    case isTrue g2 => rw [far _ g2]
    case isFalse g2 =>
      have : 0 < nw - l1 := by omega
      simp only [PP.upA, if_pos this]
set_option maxHeartbeats 1600000 in
theorem refPaAt0 (p : PP) (now r1 b1 k1 l1 nw : Int) (hq : p.fit = ⟨r1, b1, k1, l1⟩) (hn : min now 1099511627776 = nw) (h0 : nw ≤ l1) (w : World) : Calls Try.prog 26 #[p.val, .int .i64 now] w fun e w' => e = .returned (.agg #[.int .i64 r1, .int .i64 b1, .int .i64 k1, .int .i64 l1]) ∧ Below w.heap.size w w' := by
  have HC := Lib.hid (fun W => refFit_any p W)
  have hok := p.fit_ok
  rw [hq] at HC hok
  have o0 := hok.l0
  have o1 := hok.l1
  have o2 := hok.k0
  have o3 := hok.b1
  have o4 := hok.k1
  obtain ⟨r, b, k, l⟩ := p
  simp only [PP.val] at HC o0 o1 o2 o3 o4 ⊢
  clear hok hq
  clear o0 o1 o2 o3 o4
  have hX0 : At4 47 ((w.alloc (.cells #[.int .i64 r, .int .i64 b, .int .i64 k, .int .i64 l] 47)).alloc (.cells #[.int .i64 0, .int .i64 0, .int .i64 0, .int .i64 0] 47)) w.heap.size (.int .i64 r) (.int .i64 b) (.int .i64 k) (.int .i64 l) := (at4_new 47 _ _ (.int .i64 r) (.int .i64 b) (.int .i64 k) (.int .i64 l) rfl).alloc _
  have hX1 : At4 47 ((w.alloc (.cells #[.int .i64 r, .int .i64 b, .int .i64 k, .int .i64 l] 47)).alloc (.cells #[.int .i64 0, .int .i64 0, .int .i64 0, .int .i64 0] 47)) (w.heap.size + 1) (.int .i64 0) (.int .i64 0) (.int .i64 0) (.int .i64 0) := at4_new 47 _ _ (.int .i64 0) (.int .i64 0) (.int .i64 0) (.int .i64 0) (by simp)
  have hb : Below w.heap.size w ((w.alloc (.cells #[.int .i64 r, .int .i64 b, .int .i64 k, .int .i64 l] 47)).alloc (.cells #[.int .i64 0, .int .i64 0, .int .i64 0, .int .i64 0] 47)) := ((Below.refl _ _).alloc (Nat.le_refl _) _).alloc (by simp) _
  go_enter Try.func26, Try.ntmps26
  go_upto_region 1 with fail
  generalize ((w.alloc (.cells #[.int .i64 r, .int .i64 b, .int .i64 k, .int .i64 l] 47)).alloc (.cells #[.int .i64 0, .int .i64 0, .int .i64 0, .int .i64 0] 47)) = w2 at hX0 hX1 hb ⊢
  generalize hg1 : w.heap.size + 1 = g1 at hX1 ⊢
  generalize hg0 : w.heap.size = g0 at hX0 hb hg1 ⊢
  have hne01 : g0 ≠ g1 := by omega
  have hle1 : g0 ≤ g1 := by omega
  have hne10 : g1 ≠ g0 := by omega
  have HG := Lib.hid hg0
  clear hg0 hg1
  obtain ⟨_, _, _, _⟩ := hX0.frees
  obtain ⟨_, _, _, _⟩ := hX0.cells
  obtain ⟨_, _, _, _⟩ := hX1.frees
  obtain ⟨_, _, _, _⟩ := hX1.cells
  go_wp2_with fail
  refine (HC.out _).mono ?_
  rintro e w3 ⟨rfl, hk3⟩
  have hX0_3 := hX0.later hk3
  have hX1_3 := hX1.later hk3
  have hb3 := hb.trans (hk3.mono (by have := hX0.lt; omega))
  obtain ⟨_, _, _, _⟩ := hX0_3.frees
  obtain ⟨_, _, _, _⟩ := hX0_3.cells
  obtain ⟨_, _, _, _⟩ := hX1_3.frees
  obtain ⟨_, _, _, _⟩ := hX1_3.cells
  have hX0_4 := hX0_3.alloc (.cells #[.int .i64 r1, .int .i64 b1, .int .i64 k1, .int .i64 l1] 47)
  have hX1_4 := hX1_3.alloc (.cells #[.int .i64 r1, .int .i64 b1, .int .i64 k1, .int .i64 l1] 47)
  have hb4 := hb3.alloc (by have := hX0_3.lt; omega) (.cells #[.int .i64 r1, .int .i64 b1, .int .i64 k1, .int .i64 l1] 47)
  have hX2_4 := at4_new 47 w3 _ (.int .i64 r1) (.int .i64 b1) (.int .i64 k1) (.int .i64 l1) rfl
  have lt0_4 := hX0_3.lt
  have lt1_4 := hX1_3.lt
  go_upto_region 2 with fail
  generalize (w3.alloc (.cells #[.int .i64 r1, .int .i64 b1, .int .i64 k1, .int .i64 l1] 47)) = w4 at hX0_4 hX1_4 hX2_4 hb4 ⊢
  generalize w3.heap.size = g2 at hX2_4 lt0_4 lt1_4 ⊢
  have hne20 : g2 ≠ g0 := by omega
  have hne02 : g0 ≠ g2 := by omega
  have hne21 : g2 ≠ g1 := by omega
  have hne12 : g1 ≠ g2 := by omega
  have hle2 : g0 ≤ g2 := by omega
  clear lt0_4 lt1_4
  obtain ⟨_, _, _, _⟩ := hX0_4.frees
  obtain ⟨_, _, _, _⟩ := hX0_4.cells
  obtain ⟨_, _, _, _⟩ := hX1_4.frees
  obtain ⟨_, _, _, _⟩ := hX1_4.cells
  obtain ⟨_, _, _, _⟩ := hX2_4.frees
  obtain ⟨_, _, _, _⟩ := hX2_4.cells
  go_upto_region 8 with fail
  have hZ := at4_put hX1_4 (.int .i64 r1) (.int .i64 b1) (.int .i64 k1) (.int .i64 l1)
  have hbz := hb4.trans ((put4_only w4 g1 (.int .i64 r1) (.int .i64 b1) (.int .i64 k1) (.int .i64 l1)).below hle1)
  obtain ⟨d0, d1, d2, d3⟩ := hZ.cells
  go_wp2_with fail
  refine bodyPost_ret (v := .agg #[.int .i64 r1, .int .i64 b1, .int .i64 k1, .int .i64 l1]) (by simp [results, Try.results26, go_sem, d0, d1, d2, d3]) rfl ⟨rfl, by rw [HG.out]; exact hbz⟩
set_option maxHeartbeats 1600000 in
theorem refPaAt1 (p : PP) (now r1 b1 k1 l1 nw : Int) (hq : p.fit = ⟨r1, b1, k1, l1⟩) (hn : min now 1099511627776 = nw) (h0 : l1 < nw) (h1 : 1048576 ≤ nw - l1) (w : World) : Calls Try.prog 26 #[p.val, .int .i64 now] w fun e w' => e = .returned (.agg #[.int .i64 r1, .int .i64 b1, .int .i64 b1, .int .i64 nw]) ∧ Below w.heap.size w w' := by
  have HC := Lib.hid (fun W => refFit_any p W)
  have hok := p.fit_ok
  rw [hq] at HC hok
  have o0 := hok.l0
  have o1 := hok.l1
  have o2 := hok.k0
  have o3 := hok.b1
  have o4 := hok.k1
  obtain ⟨r, b, k, l⟩ := p
  simp only [PP.val] at HC o0 o1 o2 o3 o4 ⊢
  clear hok hq
  have hw1 : IntKind.i64.wrap (nw - l1) = nw - l1 := IntWalk.i64_in _ ⟨by omega, by omega⟩
  clear o0 o1 o2 o3 o4
  have hX0 : At4 47 ((w.alloc (.cells #[.int .i64 r, .int .i64 b, .int .i64 k, .int .i64 l] 47)).alloc (.cells #[.int .i64 0, .int .i64 0, .int .i64 0, .int .i64 0] 47)) w.heap.size (.int .i64 r) (.int .i64 b) (.int .i64 k) (.int .i64 l) := (at4_new 47 _ _ (.int .i64 r) (.int .i64 b) (.int .i64 k) (.int .i64 l) rfl).alloc _
  have hX1 : At4 47 ((w.alloc (.cells #[.int .i64 r, .int .i64 b, .int .i64 k, .int .i64 l] 47)).alloc (.cells #[.int .i64 0, .int .i64 0, .int .i64 0, .int .i64 0] 47)) (w.heap.size + 1) (.int .i64 0) (.int .i64 0) (.int .i64 0) (.int .i64 0) := at4_new 47 _ _ (.int .i64 0) (.int .i64 0) (.int .i64 0) (.int .i64 0) (by simp)
  have hb : Below w.heap.size w ((w.alloc (.cells #[.int .i64 r, .int .i64 b, .int .i64 k, .int .i64 l] 47)).alloc (.cells #[.int .i64 0, .int .i64 0, .int .i64 0, .int .i64 0] 47)) := ((Below.refl _ _).alloc (Nat.le_refl _) _).alloc (by simp) _
  go_enter Try.func26, Try.ntmps26
  go_upto_region 1 with fail
  generalize ((w.alloc (.cells #[.int .i64 r, .int .i64 b, .int .i64 k, .int .i64 l] 47)).alloc (.cells #[.int .i64 0, .int .i64 0, .int .i64 0, .int .i64 0] 47)) = w2 at hX0 hX1 hb ⊢
  generalize hg1 : w.heap.size + 1 = g1 at hX1 ⊢
  generalize hg0 : w.heap.size = g0 at hX0 hb hg1 ⊢
  have hne01 : g0 ≠ g1 := by omega
  have hle1 : g0 ≤ g1 := by omega
  have hne10 : g1 ≠ g0 := by omega
  have HG := Lib.hid hg0
  clear hg0 hg1
  obtain ⟨_, _, _, _⟩ := hX0.frees
  obtain ⟨_, _, _, _⟩ := hX0.cells
  obtain ⟨_, _, _, _⟩ := hX1.frees
  obtain ⟨_, _, _, _⟩ := hX1.cells
  go_wp2_with fail
  refine (HC.out _).mono ?_
  rintro e w3 ⟨rfl, hk3⟩
  have hX0_3 := hX0.later hk3
  have hX1_3 := hX1.later hk3
  have hb3 := hb.trans (hk3.mono (by have := hX0.lt; omega))
  obtain ⟨_, _, _, _⟩ := hX0_3.frees
  obtain ⟨_, _, _, _⟩ := hX0_3.cells
  obtain ⟨_, _, _, _⟩ := hX1_3.frees
  obtain ⟨_, _, _, _⟩ := hX1_3.cells
  have hX0_4 := hX0_3.alloc (.cells #[.int .i64 r1, .int .i64 b1, .int .i64 k1, .int .i64 l1] 47)
  have hX1_4 := hX1_3.alloc (.cells #[.int .i64 r1, .int .i64 b1, .int .i64 k1, .int .i64 l1] 47)
  have hb4 := hb3.alloc (by have := hX0_3.lt; omega) (.cells #[.int .i64 r1, .int .i64 b1, .int .i64 k1, .int .i64 l1] 47)
  have hX2_4 := at4_new 47 w3 _ (.int .i64 r1) (.int .i64 b1) (.int .i64 k1) (.int .i64 l1) rfl
  have lt0_4 := hX0_3.lt
  have lt1_4 := hX1_3.lt
  go_upto_region 2 with fail
  generalize (w3.alloc (.cells #[.int .i64 r1, .int .i64 b1, .int .i64 k1, .int .i64 l1] 47)) = w4 at hX0_4 hX1_4 hX2_4 hb4 ⊢
  generalize w3.heap.size = g2 at hX2_4 lt0_4 lt1_4 ⊢
  have hne20 : g2 ≠ g0 := by omega
  have hne02 : g0 ≠ g2 := by omega
  have hne21 : g2 ≠ g1 := by omega
  have hne12 : g1 ≠ g2 := by omega
  have hle2 : g0 ≤ g2 := by omega
  clear lt0_4 lt1_4
  obtain ⟨_, _, _, _⟩ := hX0_4.frees
  obtain ⟨_, _, _, _⟩ := hX0_4.cells
  obtain ⟨_, _, _, _⟩ := hX1_4.frees
  obtain ⟨_, _, _, _⟩ := hX1_4.cells
  obtain ⟨_, _, _, _⟩ := hX2_4.frees
  obtain ⟨_, _, _, _⟩ := hX2_4.cells
  go_upto_region 5 with fail
  go_upto_region 7 with fail
  have hX2_5 := (at4p_set2 hX2_4 (.int .i64 b1))
  have ho5 := ((Only.refl g2 w4).setCell 2 (.int .i64 b1))
  have hX0_5 := hX0_4.only hne02 ho5
  have hX1_5 := hX1_4.only hne12 ho5
  have hb5 := hb4.trans (ho5.below hle2)
  generalize (w4.setCell ⟨g2, 2, none⟩ (.int .i64 b1)) = w5 at hX0_5 hX1_5 hX2_5 hb5 ⊢
  clear ho5
  obtain ⟨_, _, _, _⟩ := hX0_5.frees
  obtain ⟨_, _, _, _⟩ := hX0_5.cells
  obtain ⟨_, _, _, _⟩ := hX1_5.frees
  obtain ⟨_, _, _, _⟩ := hX1_5.cells
  obtain ⟨_, _, _, _⟩ := hX2_5.frees
  obtain ⟨_, _, _, _⟩ := hX2_5.cells
  go_upto_region 8 with fail
  have hX2_6 := (at4p_set3 hX2_5 (.int .i64 nw))
  have ho6 := ((Only.refl g2 w5).setCell 3 (.int .i64 nw))
  have hX0_6 := hX0_5.only hne02 ho6
  have hX1_6 := hX1_5.only hne12 ho6
  have hb6 := hb5.trans (ho6.below hle2)
  generalize (w5.setCell ⟨g2, 3, none⟩ (.int .i64 nw)) = w6 at hX0_6 hX1_6 hX2_6 hb6 ⊢
  clear ho6
  obtain ⟨_, _, _, _⟩ := hX0_6.frees
  obtain ⟨_, _, _, _⟩ := hX0_6.cells
  obtain ⟨_, _, _, _⟩ := hX1_6.frees
  obtain ⟨_, _, _, _⟩ := hX1_6.cells
  obtain ⟨_, _, _, _⟩ := hX2_6.frees
  obtain ⟨_, _, _, _⟩ := hX2_6.cells
  have hZ := at4_put hX1_6 (.int .i64 r1) (.int .i64 b1) (.int .i64 b1) (.int .i64 nw)
  have hbz := hb6.trans ((put4_only w6 g1 (.int .i64 r1) (.int .i64 b1) (.int .i64 b1) (.int .i64 nw)).below hle1)
  obtain ⟨d0, d1, d2, d3⟩ := hZ.cells
  go_wp2_with fail
  refine bodyPost_ret (v := .agg #[.int .i64 r1, .int .i64 b1, .int .i64 b1, .int .i64 nw]) (by simp [results, Try.results26, go_sem, d0, d1, d2, d3]) rfl ⟨rfl, by rw [HG.out]; exact hbz⟩
set_option maxHeartbeats 1600000 in
theorem refPaAt2 (p : PP) (now r1 b1 k1 l1 nw : Int) (hq : p.fit = ⟨r1, b1, k1, l1⟩) (hn : min now 1099511627776 = nw) (h0 : l1 < nw) (h1 : nw - l1 < 1048576) (m K : Int) (hm : r1 * (nw - l1) = m) (hK : min b1 (k1 + m) = K) (w : World) : Calls Try.prog 26 #[p.val, .int .i64 now] w fun e w' => e = .returned (.agg #[.int .i64 r1, .int .i64 b1, .int .i64 K, .int .i64 nw]) ∧ Below w.heap.size w w' := by
  have HC := Lib.hid (fun W => refFit_any p W)
  have hok := p.fit_ok
  rw [hq] at HC hok
  have o0 := hok.l0
  have o1 := hok.l1
  have o2 := hok.k0
  have o3 := hok.b1
  have o4 := hok.k1
  have o5 := PP.mul_small ⟨r1, b1, k1, l1⟩ hok (nw - l1) (by omega) h1
  simp only at o5
  rw [hm] at o5
  have hw2 : IntKind.i64.wrap (r1 * (nw - l1)) = m := by rw [hm]; exact IntWalk.i64_in _ ⟨by omega, by omega⟩
  obtain ⟨r, b, k, l⟩ := p
  simp only [PP.val] at HC o0 o1 o2 o3 o4 ⊢
  have hw3 : IntKind.i64.wrap (k1 + m) = k1 + m := IntWalk.i64_in _ ⟨by omega, by omega⟩
  clear o5 hm
  clear hok hq
  have hw1 : IntKind.i64.wrap (nw - l1) = nw - l1 := IntWalk.i64_in _ ⟨by omega, by omega⟩
  clear o0 o1 o2 o3 o4
  have hX0 : At4 47 ((w.alloc (.cells #[.int .i64 r, .int .i64 b, .int .i64 k, .int .i64 l] 47)).alloc (.cells #[.int .i64 0, .int .i64 0, .int .i64 0, .int .i64 0] 47)) w.heap.size (.int .i64 r) (.int .i64 b) (.int .i64 k) (.int .i64 l) := (at4_new 47 _ _ (.int .i64 r) (.int .i64 b) (.int .i64 k) (.int .i64 l) rfl).alloc _
  have hX1 : At4 47 ((w.alloc (.cells #[.int .i64 r, .int .i64 b, .int .i64 k, .int .i64 l] 47)).alloc (.cells #[.int .i64 0, .int .i64 0, .int .i64 0, .int .i64 0] 47)) (w.heap.size + 1) (.int .i64 0) (.int .i64 0) (.int .i64 0) (.int .i64 0) := at4_new 47 _ _ (.int .i64 0) (.int .i64 0) (.int .i64 0) (.int .i64 0) (by simp)
  have hb : Below w.heap.size w ((w.alloc (.cells #[.int .i64 r, .int .i64 b, .int .i64 k, .int .i64 l] 47)).alloc (.cells #[.int .i64 0, .int .i64 0, .int .i64 0, .int .i64 0] 47)) := ((Below.refl _ _).alloc (Nat.le_refl _) _).alloc (by simp) _
  go_enter Try.func26, Try.ntmps26
  go_upto_region 1 with fail
  generalize ((w.alloc (.cells #[.int .i64 r, .int .i64 b, .int .i64 k, .int .i64 l] 47)).alloc (.cells #[.int .i64 0, .int .i64 0, .int .i64 0, .int .i64 0] 47)) = w2 at hX0 hX1 hb ⊢
  generalize hg1 : w.heap.size + 1 = g1 at hX1 ⊢
  generalize hg0 : w.heap.size = g0 at hX0 hb hg1 ⊢
  have hne01 : g0 ≠ g1 := by omega
  have hle1 : g0 ≤ g1 := by omega
  have hne10 : g1 ≠ g0 := by omega
  have HG := Lib.hid hg0
  clear hg0 hg1
  obtain ⟨_, _, _, _⟩ := hX0.frees
  obtain ⟨_, _, _, _⟩ := hX0.cells
  obtain ⟨_, _, _, _⟩ := hX1.frees
  obtain ⟨_, _, _, _⟩ := hX1.cells
  go_wp2_with fail
  refine (HC.out _).mono ?_
  rintro e w3 ⟨rfl, hk3⟩
  have hX0_3 := hX0.later hk3
  have hX1_3 := hX1.later hk3
  have hb3 := hb.trans (hk3.mono (by have := hX0.lt; omega))
  obtain ⟨_, _, _, _⟩ := hX0_3.frees
  obtain ⟨_, _, _, _⟩ := hX0_3.cells
  obtain ⟨_, _, _, _⟩ := hX1_3.frees
  obtain ⟨_, _, _, _⟩ := hX1_3.cells
  have hX0_4 := hX0_3.alloc (.cells #[.int .i64 r1, .int .i64 b1, .int .i64 k1, .int .i64 l1] 47)
  have hX1_4 := hX1_3.alloc (.cells #[.int .i64 r1, .int .i64 b1, .int .i64 k1, .int .i64 l1] 47)
  have hb4 := hb3.alloc (by have := hX0_3.lt; omega) (.cells #[.int .i64 r1, .int .i64 b1, .int .i64 k1, .int .i64 l1] 47)
  have hX2_4 := at4_new 47 w3 _ (.int .i64 r1) (.int .i64 b1) (.int .i64 k1) (.int .i64 l1) rfl
  have lt0_4 := hX0_3.lt
  have lt1_4 := hX1_3.lt
  go_upto_region 2 with fail
  generalize (w3.alloc (.cells #[.int .i64 r1, .int .i64 b1, .int .i64 k1, .int .i64 l1] 47)) = w4 at hX0_4 hX1_4 hX2_4 hb4 ⊢
  generalize w3.heap.size = g2 at hX2_4 lt0_4 lt1_4 ⊢
  have hne20 : g2 ≠ g0 := by omega
  have hne02 : g0 ≠ g2 := by omega
  have hne21 : g2 ≠ g1 := by omega
  have hne12 : g1 ≠ g2 := by omega
  have hle2 : g0 ≤ g2 := by omega
  clear lt0_4 lt1_4
  obtain ⟨_, _, _, _⟩ := hX0_4.frees
  obtain ⟨_, _, _, _⟩ := hX0_4.cells
  obtain ⟨_, _, _, _⟩ := hX1_4.frees
  obtain ⟨_, _, _, _⟩ := hX1_4.cells
  obtain ⟨_, _, _, _⟩ := hX2_4.frees
  obtain ⟨_, _, _, _⟩ := hX2_4.cells
  go_upto_region 6 with fail
  go_upto_region 7 with fail
  have hX2_5 := (at4p_set2 hX2_4 (.int .i64 K))
  have ho5 := ((Only.refl g2 w4).setCell 2 (.int .i64 K))
  have hX0_5 := hX0_4.only hne02 ho5
  have hX1_5 := hX1_4.only hne12 ho5
  have hb5 := hb4.trans (ho5.below hle2)
  generalize (w4.setCell ⟨g2, 2, none⟩ (.int .i64 K)) = w5 at hX0_5 hX1_5 hX2_5 hb5 ⊢
  clear ho5
  obtain ⟨_, _, _, _⟩ := hX0_5.frees
  obtain ⟨_, _, _, _⟩ := hX0_5.cells
  obtain ⟨_, _, _, _⟩ := hX1_5.frees
  obtain ⟨_, _, _, _⟩ := hX1_5.cells
  obtain ⟨_, _, _, _⟩ := hX2_5.frees
  obtain ⟨_, _, _, _⟩ := hX2_5.cells
  go_upto_region 8 with fail
  have hX2_6 := (at4p_set3 hX2_5 (.int .i64 nw))
  have ho6 := ((Only.refl g2 w5).setCell 3 (.int .i64 nw))
  have hX0_6 := hX0_5.only hne02 ho6
  have hX1_6 := hX1_5.only hne12 ho6
  have hb6 := hb5.trans (ho6.below hle2)
  generalize (w5.setCell ⟨g2, 3, none⟩ (.int .i64 nw)) = w6 at hX0_6 hX1_6 hX2_6 hb6 ⊢
  clear ho6
  obtain ⟨_, _, _, _⟩ := hX0_6.frees
  obtain ⟨_, _, _, _⟩ := hX0_6.cells
  obtain ⟨_, _, _, _⟩ := hX1_6.frees
  obtain ⟨_, _, _, _⟩ := hX1_6.cells
  obtain ⟨_, _, _, _⟩ := hX2_6.frees
  obtain ⟨_, _, _, _⟩ := hX2_6.cells
  have hZ := at4_put hX1_6 (.int .i64 r1) (.int .i64 b1) (.int .i64 K) (.int .i64 nw)
  have hbz := hb6.trans ((put4_only w6 g1 (.int .i64 r1) (.int .i64 b1) (.int .i64 K) (.int .i64 nw)).below hle1)
  obtain ⟨d0, d1, d2, d3⟩ := hZ.cells
  go_wp2_with fail
  refine bodyPost_ret (v := .agg #[.int .i64 r1, .int .i64 b1, .int .i64 K, .int .i64 nw]) (by simp [results, Try.results26, go_sem, d0, d1, d2, d3]) rfl ⟨rfl, by rw [HG.out]; exact hbz⟩
theorem refPaAt_any (p : PP) (now : Int) (w : World) : Calls Try.prog 26 #[p.val, .int .i64 now] w fun e w' => e = .returned (p.at now).val ∧ Below w.heap.size w w' := by
  obtain ⟨⟨r1, b1, k1, l1⟩, hq⟩ : ∃ q, p.fit = q := ⟨_, rfl⟩
  obtain ⟨nw, hn⟩ : ∃ z, min now 1099511627776 = z := ⟨_, rfl⟩
  rw [PP.at_c p now r1 b1 k1 l1 hq nw hn]
  by_cases h0 : nw ≤ l1
  · rw [if_pos h0]; exact refPaAt0 p now r1 b1 k1 l1 nw hq hn h0 w
  rw [if_neg h0]
  by_cases h1 : 1048576 ≤ nw - l1
  · rw [if_pos h1]; exact refPaAt1 p now r1 b1 k1 l1 nw hq hn (by omega) h1 w
  rw [if_neg h1]
  exact refPaAt2 p now r1 b1 k1 l1 nw hq hn (by omega) (by omega) _ _ rfl rfl w
end Go.Proofs.Ytgmggilnhkdceaa
