/- pace: When. -/
import Derived.Test.YtgmggilnhkdceaaPaE
namespace Go.Proofs.Ytgmggilnhkdceaa
open Go.RowKit
set_option linter.unusedVariables false
theorem PP.when_c (p : PP) (n r1 b1 k1 l1 : Int) (h : p.fit = ⟨r1, b1, k1, l1⟩) (n1 wt f : Int) (hn : max n 0 = n1) (hw : max (n1 - k1) 0 = wt) (hf : l1 + ticksFor r1 wt = f) : p.when n = if b1 < n1 then -1 else if 1099511627776 < f then -1 else f := by
  have hok := p.fit_ok
  have e0 := hok.k0
  have e1 := hok.k1
  have e2 := hok.r0
  have e3 := hok.l1
  unfold PP.when
  rw [h] at e0 e1 e2 e3 ⊢
  simp only at e0 e1 e2 e3 ⊢
  by_cases g : n ≤ k1
  case pos =>
    have ew : wt = 0 := by omega
    rw [ew] at hf
    have et : ticksFor r1 0 = 0 := by
      unfold ticksFor
      exact Int.ediv_eq_zero_of_lt (by omega) (by omega)
    rw [et] at hf
    rw [if_pos g, if_neg (by omega), if_neg (by omega)]
    omega
  case neg =>
    have ew : n - k1 = wt := by omega
    rw [if_neg g, ew, hf]
    by_cases g2 : b1 < n
    case pos => rw [if_pos g2, if_pos (by omega)]
    case neg => rw [if_neg g2, if_neg (show ¬ b1 < n1 by omega)]
set_option maxHeartbeats 1600000 in
theorem paWhen0 (p : PP) (n r1 b1 k1 l1 n1 wt f : Int) (hq : p.fit = ⟨r1, b1, k1, l1⟩) (hn : max n 0 = n1) (hw : max (n1 - k1) 0 = wt) (hf : l1 + ticksFor r1 wt = f) (h0 : b1 < n1) (w : World) : Calls Try.prog 32 #[p.val, .int .i64 n] w fun e w' => e = .returned (.int .i64 (-1)) ∧ Below w.heap.size w w' := by
  have HC := Lib.hid (fun W => paCnt_any p W)
  have hok := p.fit_ok
  rw [hq] at HC hok
  have o0 := hok.l0
  have o1 := hok.l1
  have o2 := hok.k0
  have o3 := hok.b1
  have o4 := hok.k1
  have o5 := hok.r0
  have o6 := hok.r1
  obtain ⟨r, b, k, l⟩ := p
  simp only [PP.val] at HC o0 o1 o2 o3 o4 o5 o6 ⊢
  clear hok hq
  clear o0 o1 o2 o3 o4 o5 o6
  have hX0 : At4 49 (w.alloc (.cells #[.int .i64 r, .int .i64 b, .int .i64 k, .int .i64 l] 49)) w.heap.size (.int .i64 r) (.int .i64 b) (.int .i64 k) (.int .i64 l) := at4_new 49 _ _ (.int .i64 r) (.int .i64 b) (.int .i64 k) (.int .i64 l) rfl
  have hb : Below w.heap.size w (w.alloc (.cells #[.int .i64 r, .int .i64 b, .int .i64 k, .int .i64 l] 49)) := (Below.refl _ _).alloc (Nat.le_refl _) _
  go_enter Try.func32, Try.ntmps32
  go_upto_region 1 with fail
  generalize (w.alloc (.cells #[.int .i64 r, .int .i64 b, .int .i64 k, .int .i64 l] 49)) = w2 at hX0 hb ⊢
  generalize hg0 : w.heap.size = g0 at hX0 hb ⊢
  have HG := Lib.hid hg0
  clear hg0
  obtain ⟨_, _, _, _⟩ := hX0.frees
  obtain ⟨_, _, _, _⟩ := hX0.cells
  go_wp2_with fail
  refine (HC.out _).mono ?_
  rintro e w3 ⟨rfl, hk3⟩
  have hX0_3 := hX0.later hk3
  have hb3 := hb.trans (hk3.mono (by have := hX0.lt; omega))
  obtain ⟨_, _, _, _⟩ := hX0_3.frees
  obtain ⟨_, _, _, _⟩ := hX0_3.cells
  go_upto_region 2 with fail
  have hX0_4 := at4_put hX0_3 (.int .i64 r1) (.int .i64 b1) (.int .i64 k1) (.int .i64 l1)
  have ho4 := put4_only w3 g0 (.int .i64 r1) (.int .i64 b1) (.int .i64 k1) (.int .i64 l1)
  have hb4 := hb3.trans (ho4.below (Nat.le_refl _))
  generalize ((((w3.setCell ⟨g0, 0, none⟩ (.int .i64 r1)).setCell ⟨g0, 1, none⟩ (.int .i64 b1)).setCell ⟨g0, 2, none⟩ (.int .i64 k1)).setCell ⟨g0, 3, none⟩ (.int .i64 l1)) = w4 at hX0_4 hb4 ⊢
  clear ho4
  obtain ⟨_, _, _, _⟩ := hX0_4.frees
  obtain ⟨_, _, _, _⟩ := hX0_4.cells
  go_upto_region 3 with fail
  go_wp2_with fail
  go_ret
  exact ⟨by simp, by rw [HG.out]; exact hb4⟩
set_option maxHeartbeats 1600000 in
theorem paWhen1 (p : PP) (n r1 b1 k1 l1 n1 wt f : Int) (hq : p.fit = ⟨r1, b1, k1, l1⟩) (hn : max n 0 = n1) (hw : max (n1 - k1) 0 = wt) (hf : l1 + ticksFor r1 wt = f) (h0 : n1 ≤ b1) (h1 : 1099511627776 < f) (w : World) : Calls Try.prog 32 #[p.val, .int .i64 n] w fun e w' => e = .returned (.int .i64 (-1)) ∧ Below w.heap.size w w' := by
  have HC := Lib.hid (fun W => paCnt_any p W)
  have hok := p.fit_ok
  rw [hq] at HC hok
  have o0 := hok.l0
  have o1 := hok.l1
  have o2 := hok.k0
  have o3 := hok.b1
  have o4 := hok.k1
  have o5 := hok.r0
  have o6 := hok.r1
  obtain ⟨r, b, k, l⟩ := p
  simp only [PP.val] at HC o0 o1 o2 o3 o4 o5 o6 ⊢
  clear hok hq
  have ht := ticksFor_le r1 wt o5 (by omega)
  have ht0 : 0 ≤ ticksFor r1 wt := Int.ediv_nonneg (by omega) (by omega)
  have hd : (wt + r1 - 1).tdiv r1 = ticksFor r1 wt := by rw [Int.tdiv_eq_ediv_of_nonneg (by omega)]; rfl
  generalize ticksFor r1 wt = t at ht ht0 hd hf
  have hr0 : ¬ r1 = 0 := by omega
  have w1 : IntKind.i64.wrap (n1 - k1) = n1 - k1 := IntWalk.i64_in _ ⟨by omega, by omega⟩
  have w2 : IntKind.i64.wrap (wt + r1) = wt + r1 := IntWalk.i64_in _ ⟨by omega, by omega⟩
  have w3 : IntKind.i64.wrap (wt + r1 - 1) = wt + r1 - 1 := IntWalk.i64_in _ ⟨by omega, by omega⟩
  have w4 : IntKind.i64.wrap t = t := IntWalk.i64_in _ ⟨by omega, by omega⟩
  have w5 : IntKind.i64.wrap (l1 + t) = f := by rw [hf]; exact IntWalk.i64_in _ ⟨by omega, by omega⟩
  clear ht ht0 hf
  clear o0 o1 o2 o3 o4 o5 o6
  have hX0 : At4 49 (w.alloc (.cells #[.int .i64 r, .int .i64 b, .int .i64 k, .int .i64 l] 49)) w.heap.size (.int .i64 r) (.int .i64 b) (.int .i64 k) (.int .i64 l) := at4_new 49 _ _ (.int .i64 r) (.int .i64 b) (.int .i64 k) (.int .i64 l) rfl
  have hb : Below w.heap.size w (w.alloc (.cells #[.int .i64 r, .int .i64 b, .int .i64 k, .int .i64 l] 49)) := (Below.refl _ _).alloc (Nat.le_refl _) _
  go_enter Try.func32, Try.ntmps32
  go_upto_region 1 with fail
  generalize (w.alloc (.cells #[.int .i64 r, .int .i64 b, .int .i64 k, .int .i64 l] 49)) = w2 at hX0 hb ⊢
  generalize hg0 : w.heap.size = g0 at hX0 hb ⊢
  have HG := Lib.hid hg0
  clear hg0
  obtain ⟨_, _, _, _⟩ := hX0.frees
  obtain ⟨_, _, _, _⟩ := hX0.cells
  go_wp2_with fail
  refine (HC.out _).mono ?_
  rintro e w3 ⟨rfl, hk3⟩
  have hX0_3 := hX0.later hk3
  have hb3 := hb.trans (hk3.mono (by have := hX0.lt; omega))
  obtain ⟨_, _, _, _⟩ := hX0_3.frees
  obtain ⟨_, _, _, _⟩ := hX0_3.cells
  go_upto_region 2 with fail
  have hX0_4 := at4_put hX0_3 (.int .i64 r1) (.int .i64 b1) (.int .i64 k1) (.int .i64 l1)
  have ho4 := put4_only w3 g0 (.int .i64 r1) (.int .i64 b1) (.int .i64 k1) (.int .i64 l1)
  have hb4 := hb3.trans (ho4.below (Nat.le_refl _))
  generalize ((((w3.setCell ⟨g0, 0, none⟩ (.int .i64 r1)).setCell ⟨g0, 1, none⟩ (.int .i64 b1)).setCell ⟨g0, 2, none⟩ (.int .i64 k1)).setCell ⟨g0, 3, none⟩ (.int .i64 l1)) = w4 at hX0_4 hb4 ⊢
  clear ho4
  obtain ⟨_, _, _, _⟩ := hX0_4.frees
  obtain ⟨_, _, _, _⟩ := hX0_4.cells
  go_upto_region 5 with fail
  go_quiet (fail)
  go_wp2_with fail
  go_ret
  exact ⟨by simp, by rw [HG.out]; exact below_drewN hb4 nq⟩
set_option maxHeartbeats 1600000 in
theorem paWhen2 (p : PP) (n r1 b1 k1 l1 n1 wt f : Int) (hq : p.fit = ⟨r1, b1, k1, l1⟩) (hn : max n 0 = n1) (hw : max (n1 - k1) 0 = wt) (hf : l1 + ticksFor r1 wt = f) (h0 : n1 ≤ b1) (h1 : f ≤ 1099511627776) (w : World) : Calls Try.prog 32 #[p.val, .int .i64 n] w fun e w' => e = .returned (.int .i64 f) ∧ Below w.heap.size w w' := by
  have HC := Lib.hid (fun W => paCnt_any p W)
  have hok := p.fit_ok
  rw [hq] at HC hok
  have o0 := hok.l0
  have o1 := hok.l1
  have o2 := hok.k0
  have o3 := hok.b1
  have o4 := hok.k1
  have o5 := hok.r0
  have o6 := hok.r1
  obtain ⟨r, b, k, l⟩ := p
  simp only [PP.val] at HC o0 o1 o2 o3 o4 o5 o6 ⊢
  clear hok hq
  have ht := ticksFor_le r1 wt o5 (by omega)
  have ht0 : 0 ≤ ticksFor r1 wt := Int.ediv_nonneg (by omega) (by omega)
  have hd : (wt + r1 - 1).tdiv r1 = ticksFor r1 wt := by rw [Int.tdiv_eq_ediv_of_nonneg (by omega)]; rfl
  generalize ticksFor r1 wt = t at ht ht0 hd hf
  have hr0 : ¬ r1 = 0 := by omega
  have w1 : IntKind.i64.wrap (n1 - k1) = n1 - k1 := IntWalk.i64_in _ ⟨by omega, by omega⟩
  have w2 : IntKind.i64.wrap (wt + r1) = wt + r1 := IntWalk.i64_in _ ⟨by omega, by omega⟩
  have w3 : IntKind.i64.wrap (wt + r1 - 1) = wt + r1 - 1 := IntWalk.i64_in _ ⟨by omega, by omega⟩
  have w4 : IntKind.i64.wrap t = t := IntWalk.i64_in _ ⟨by omega, by omega⟩
  have w5 : IntKind.i64.wrap (l1 + t) = f := by rw [hf]; exact IntWalk.i64_in _ ⟨by omega, by omega⟩
  clear ht ht0 hf
  clear o0 o1 o2 o3 o4 o5 o6
  have hX0 : At4 49 (w.alloc (.cells #[.int .i64 r, .int .i64 b, .int .i64 k, .int .i64 l] 49)) w.heap.size (.int .i64 r) (.int .i64 b) (.int .i64 k) (.int .i64 l) := at4_new 49 _ _ (.int .i64 r) (.int .i64 b) (.int .i64 k) (.int .i64 l) rfl
  have hb : Below w.heap.size w (w.alloc (.cells #[.int .i64 r, .int .i64 b, .int .i64 k, .int .i64 l] 49)) := (Below.refl _ _).alloc (Nat.le_refl _) _
  go_enter Try.func32, Try.ntmps32
  go_upto_region 1 with fail
  generalize (w.alloc (.cells #[.int .i64 r, .int .i64 b, .int .i64 k, .int .i64 l] 49)) = w2 at hX0 hb ⊢
  generalize hg0 : w.heap.size = g0 at hX0 hb ⊢
  have HG := Lib.hid hg0
  clear hg0
  obtain ⟨_, _, _, _⟩ := hX0.frees
  obtain ⟨_, _, _, _⟩ := hX0.cells
  go_wp2_with fail
  refine (HC.out _).mono ?_
  rintro e w3 ⟨rfl, hk3⟩
  have hX0_3 := hX0.later hk3
  have hb3 := hb.trans (hk3.mono (by have := hX0.lt; omega))
  obtain ⟨_, _, _, _⟩ := hX0_3.frees
  obtain ⟨_, _, _, _⟩ := hX0_3.cells
  go_upto_region 2 with fail
  have hX0_4 := at4_put hX0_3 (.int .i64 r1) (.int .i64 b1) (.int .i64 k1) (.int .i64 l1)
  have ho4 := put4_only w3 g0 (.int .i64 r1) (.int .i64 b1) (.int .i64 k1) (.int .i64 l1)
  have hb4 := hb3.trans (ho4.below (Nat.le_refl _))
  generalize ((((w3.setCell ⟨g0, 0, none⟩ (.int .i64 r1)).setCell ⟨g0, 1, none⟩ (.int .i64 b1)).setCell ⟨g0, 2, none⟩ (.int .i64 k1)).setCell ⟨g0, 3, none⟩ (.int .i64 l1)) = w4 at hX0_4 hb4 ⊢
  clear ho4
  obtain ⟨_, _, _, _⟩ := hX0_4.frees
  obtain ⟨_, _, _, _⟩ := hX0_4.cells
  go_upto_region 5 with fail
  go_quiet (fail)
  go_wp2_with fail
  go_ret
  exact ⟨by simp, by rw [HG.out]; exact below_drewN hb4 nq⟩
theorem paWhen_any (p : PP) (n : Int) (w : World) : Calls Try.prog 32 #[p.val, .int .i64 n] w fun e w' => e = .returned (.int .i64 (p.when n)) ∧ Below w.heap.size w w' := by
  obtain ⟨⟨r1, b1, k1, l1⟩, hq⟩ : ∃ q, p.fit = q := ⟨_, rfl⟩
  obtain ⟨n1, hn⟩ : ∃ z, max n 0 = z := ⟨_, rfl⟩
  obtain ⟨wt, hw⟩ : ∃ z, max (n1 - k1) 0 = z := ⟨_, rfl⟩
  obtain ⟨f, hf⟩ : ∃ z, l1 + ticksFor r1 wt = z := ⟨_, rfl⟩
  rw [p.when_c n r1 b1 k1 l1 hq n1 wt f hn hw hf]
  by_cases h0 : b1 < n1
  · rw [if_pos h0]; exact paWhen0 p n r1 b1 k1 l1 n1 wt f hq hn hw hf h0 w
  rw [if_neg h0]
  by_cases h1 : 1099511627776 < f
  · rw [if_pos h1]; exact paWhen1 p n r1 b1 k1 l1 n1 wt f hq hn hw hf (by omega) h1 w
  rw [if_neg h1]
  exact paWhen2 p n r1 b1 k1 l1 n1 wt f hq hn hw hf (by omega) (by omega) w
end Go.Proofs.Ytgmggilnhkdceaa
