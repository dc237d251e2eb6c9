/- delay: Due, Run. -/
import Derived.Test.YtkefpedijjbmfaaDlE
import Derived.Test.YtkefpedijjbmfaaRow
namespace Go.Proofs.Ytkefpedijjbmfaa
open Go.RowKit
set_option linter.unusedVariables false
theorem dlS {T : TypeId} {w W : World} {B g : Nat} {c0 c1 c2 : Value} (hX : At3 T W g c0 c1 c2) (hb : Below B w W) :
    W.cell? ⟨g, 0, none⟩ = some c0 ∧ W.cell? ⟨g, 1, none⟩ = some c1 ∧ W.cell? ⟨g, 2, none⟩ = some c2 ∧ At3 T W g c0 c1 c2 ∧ Below B w W := by
  obtain ⟨a0, a1, a2⟩ := hX.cells
  exact ⟨a0, a1, a2, hX, hb⟩
theorem dlS' {T : TypeId} {w W W' : World} {B g : Nat} {c0 c1 c2 : Value} (hB : B ≤ g) (hX : At3 T W g c0 c1 c2) (hb : Below B w W) (k : Below W.heap.size W W') :
    W'.cell? ⟨g, 0, none⟩ = some c0 ∧ W'.cell? ⟨g, 1, none⟩ = some c1 ∧ W'.cell? ⟨g, 2, none⟩ = some c2 ∧ At3 T W' g c0 c1 c2 ∧ Below B w W' :=
  dlS (hX.later k) (hb.trans (k.mono (by have := hX.lt; omega)))
set_option maxHeartbeats 1600000 in
theorem dlDue_any (d : DL) (first now : Int) (w : World) : Calls Try.prog 15 #[d.val, .int .i64 first, .int .i64 now] w fun e w' => e = .returned (.bool (decide (d.fit.c ≤ am 0 now 1099511627776 - am 0 first 1099511627776))) ∧ Below w.heap.size w w' := by
  have HC := Lib.hid (fun W => dlCnt_any d W)
  generalize d.fit = f at HC ⊢
  obtain ⟨l, m, n⟩ := f
  obtain ⟨a, b, c⟩ := d
  simp only [DL.val] at HC ⊢
  have f0 := am_lo 0 first 1099511627776 (by omega)
  have f1 := am_hi 0 first 1099511627776
  have n0 := am_lo 0 now 1099511627776 (by omega)
  have n1 := am_hi 0 now 1099511627776
  have HF : Hid (∀ X : World, Calls Try.prog 18 #[.int .i64 first] X fun e w' => e = .returned (.int .i64 (am 0 first 1099511627776)) ∧ w' = X) := Lib.hid (fun X => dlTick_q first X)
  have HN : Hid (∀ X : World, Calls Try.prog 18 #[.int .i64 now] X fun e w' => e = .returned (.int .i64 (am 0 now 1099511627776)) ∧ w' = X) := Lib.hid (fun X => dlTick_q now X)
  generalize am 0 first 1099511627776 = A at HF f0 f1 ⊢
  generalize am 0 now 1099511627776 = N at HN n0 n1 ⊢
  have hw : IntKind.i64.wrap (N - A) = N - A := IntWalk.i64_in _ ⟨by omega, by omega⟩
  clear f0 f1 n0 n1
  have hfd : ∀ W : World, (Instr.field 27 (.agg #[.int .i64 l, .int .i64 m, .int .i64 n]) 2).run Try.prog W = .ok (.int .i64 n) W := fun _ => by kernel_rfl
  have hX0 : At3 27 (w.alloc (.cells #[.int .i64 a, .int .i64 b, .int .i64 c] 27)) w.heap.size (.int .i64 a) (.int .i64 b) (.int .i64 c) := at3_new 27 _ _ (.int .i64 a) (.int .i64 b) (.int .i64 c) rfl
  have hb : Below w.heap.size w (w.alloc (.cells #[.int .i64 a, .int .i64 b, .int .i64 c] 27)) := (Below.refl _ _).alloc (Nat.le_refl _) _
  go_enter Try.func15, Try.ntmps15
  go_upto_region 1 with fail
  generalize (w.alloc (.cells #[.int .i64 a, .int .i64 b, .int .i64 c] 27)) = w2 at hX0 hb ⊢
  generalize hg0 : w.heap.size = g0 at hX0 hb ⊢
  have HG := Lib.hid hg0
  clear hg0
  obtain ⟨_, _, _⟩ := hX0.frees
  obtain ⟨_, _, _⟩ := hX0.cells
  go_region_held3 (fun X => X.cell? ⟨g0, 0, none⟩ = some (.int .i64 a) ∧ X.cell? ⟨g0, 1, none⟩ = some (.int .i64 b) ∧ X.cell? ⟨g0, 2, none⟩ = some (.int .i64 c) ∧ At3 27 X g0 (.int .i64 a) (.int .i64 b) (.int .i64 c) ∧ Below g0 w X) (first | (go_keep; done) | exact dlS hX0.drew hb.drew | exact dlS' (Nat.le_refl _) (by go_split_ands; assumption) (by go_split_ands; assumption) (by assumption) | (go_split_ands; assumption)) (first | (go_at_call_of 18 (Value.int .i64 now); refine (HN.out _).mono ?_; rintro e w' ⟨rfl, hkq⟩; subst hkq) | (go_at_call 18; refine (HF.out _).mono ?_; rintro e w' ⟨rfl, hkq⟩; subst hkq) | (go_at_call 16; refine (HC.out _).mono ?_; rintro e w5 ⟨rfl, hk5⟩))
  all_goals
    go_wp2
    go_ret
    exact ⟨rfl, by rw [HG.out]; go_split_ands; assumption⟩
set_option maxRecDepth 100000 in
set_option maxHeartbeats 1600000 in
theorem dlRun_any (d : DL) (es : List Int) (a1 : Option Addr) (n1 cap : Nat) (hn1 : n1 = es.length) (w : World) (hr : Reads .i64 w a1 es) (hlen : es.length ≤ 9223372036854775807) : Calls Try.prog 14 #[d.val, .slice a1 n1 cap] w fun e w' => e = .returned (d.run es).val ∧ Below w.heap.size w w' := by
  subst hn1
  have HR := Lib.hid (fun (W : World) (h : Below w.heap.size w W) => hr.later h)
  obtain ⟨R, hR0, hR1, hR2⟩ : ∃ R : Nat → DL, R 0 = d.fit ∧ (∀ k, k < es.length → R (k + 1) = (R k).jit (es[k]?.getD 0)) ∧ R es.length = d.run es := ⟨fun k => d.run (es.take k), rfl, fun k hk => d.run_step es k hk, by show d.run (es.take es.length) = _; rw [List.take_length]⟩
  have HRUN := Lib.hid hR1
  clear hR1
  have HJ : Hid (∀ (q : DL) (j : Int) (W : World), Calls Try.prog 10 #[.agg #[.int .i64 q.a, .int .i64 q.b, .int .i64 q.c], .int .i64 j] W fun e w' => e = .returned (.agg #[.int .i64 (q.jit j).a, .int .i64 (q.jit j).b, .int .i64 (q.jit j).c]) ∧ Below W.heap.size W w') := Lib.hid (fun q j W => dlJit_any q j W)
  clear hr
  have HC := Lib.hid (fun W => dlCnt_any d W)
  generalize d.run es = RE at hR2 ⊢
  generalize d.fit = f at HC hR0
  obtain ⟨l, m, n⟩ := f
  obtain ⟨a, b, c⟩ := d
  simp only [DL.val] at HC ⊢
  have HEND := Lib.hid hR2
  have HST := Lib.hid hR0
  clear hR2 hR0
  have hX0 : At3 27 ((w.alloc (.cells #[.int .i64 a, .int .i64 b, .int .i64 c] 27)).alloc (.cells #[.int .i64 0, .int .i64 0, .int .i64 0] 27)) w.heap.size (.int .i64 a) (.int .i64 b) (.int .i64 c) := (at3_new 27 _ _ (.int .i64 a) (.int .i64 b) (.int .i64 c) rfl).alloc _
  have hX1 : At3 27 ((w.alloc (.cells #[.int .i64 a, .int .i64 b, .int .i64 c] 27)).alloc (.cells #[.int .i64 0, .int .i64 0, .int .i64 0] 27)) (w.heap.size + 1) (.int .i64 0) (.int .i64 0) (.int .i64 0) := at3_new 27 _ _ (.int .i64 0) (.int .i64 0) (.int .i64 0) (by simp)
  have hb : Below w.heap.size w ((w.alloc (.cells #[.int .i64 a, .int .i64 b, .int .i64 c] 27)).alloc (.cells #[.int .i64 0, .int .i64 0, .int .i64 0] 27)) := ((Below.refl _ _).alloc (Nat.le_refl _) _).alloc (by simp) _
  go_enter Try.func14, Try.ntmps14
  go_upto_region 1 with fail
  generalize ((w.alloc (.cells #[.int .i64 a, .int .i64 b, .int .i64 c] 27)).alloc (.cells #[.int .i64 0, .int .i64 0, .int .i64 0] 27)) = w2 at hX0 hX1 hb ⊢
  generalize hg1 : w.heap.size + 1 = g1 at hX1 ⊢
  generalize hg0 : w.heap.size = g0 at hX0 hb hg1 ⊢
  have hne01 : g0 ≠ g1 := by omega
  have hle1 : g0 ≤ g1 := by omega
  have hne10 : g1 ≠ g0 := by omega
  have HG := Lib.hid hg0
  clear hg0 hg1
  obtain ⟨_, _, _⟩ := hX0.frees
  obtain ⟨_, _, _⟩ := hX0.cells
  obtain ⟨_, _, _⟩ := hX1.frees
  obtain ⟨_, _, _⟩ := hX1.cells
  go_wp2_with fail
  refine (HC.out _).mono ?_
  rintro e w3 ⟨rfl, hk3⟩
  have hX0_3 := hX0.later hk3
  have hX1_3 := hX1.later hk3
  have hb3 := hb.trans (hk3.mono (by have := hX0.lt; omega))
  obtain ⟨_, _, _⟩ := hX0_3.frees
  obtain ⟨_, _, _⟩ := hX0_3.cells
  obtain ⟨_, _, _⟩ := hX1_3.frees
  obtain ⟨_, _, _⟩ := hX1_3.cells
  go_upto_region 2 with fail
  have hX0_4 := at3_store hX0_3 (.int .i64 l) (.int .i64 m) (.int .i64 n)
  have ho4 := store3_only w3 g0 (.int .i64 l) (.int .i64 m) (.int .i64 n)
  have hX1_4 := hX1_3.only hne10 ho4
  have hb4 := hb3.trans (ho4.below (Nat.le_refl _))
  generalize (((w3.setCell ⟨g0, 0, none⟩ (.int .i64 l)).setCell ⟨g0, 1, none⟩ (.int .i64 m)).setCell ⟨g0, 2, none⟩ (.int .i64 n)) = w4 at hX0_4 hX1_4 hb4 ⊢
  clear ho4
  obtain ⟨_, _, _⟩ := hX0_4.frees
  obtain ⟨_, _, _⟩ := hX0_4.cells
  obtain ⟨_, _, _⟩ := hX1_4.frees
  obtain ⟨_, _, _⟩ := hX1_4.cells
  go_wp2_with fail
  go_loopw [11] (fun i wr => ∃ (k : Nat) (t : DL), k ≤ es.length ∧ i = .int .i64 k ∧ Hid (R k = t) ∧ At3 27 wr g0 (.int .i64 t.a) (.int .i64 t.b) (.int .i64 t.c) ∧ At3 27 wr g1 (.int .i64 0) (.int .i64 0) (.int .i64 0) ∧ Below g0 w wr) (fun i _ => es.length - (intOf i).toNat)
  case atStart => exact ⟨0, ⟨l, m, n⟩, Nat.zero_le _, rfl, HST, hX0_4, hX1_4, hb4⟩
  case round =>
    obtain ⟨k, t, hk, rfl, hrun, hXk, hYk, hbk⟩ := hrel
    clear hX0_4 hX1_4 hb4
    by_cases hlt : k < es.length
    · obtain ⟨ab, off, rfl, hcell⟩ := (HR.out wr (by rw [HG.out]; exact hbk)).at hlt
      have hst := HRUN.out k hlt
      rw [hrun.out] at hst
      generalize es[k]?.getD 0 = j at hcell hst
      have hC := HJ.out t j
      generalize t.jit j = t2 at hst hC
      obtain ⟨ta, tb, tc⟩ := t
      obtain ⟨ua, ub, uc⟩ := t2
      simp only at hC hXk
      have HC1 := Lib.hid hC
      have HS1 := Lib.hid hst
      clear hC hst hrun
      have hgw := hXk.lt
      obtain ⟨_, _, _⟩ := hXk.cells
      go_wp2_with fail
      refine (HC1.out _).mono ?_
      rintro e w5 ⟨rfl, hk5⟩
      have hX5 := hXk.later hk5
      have hY5 := hYk.later hk5
      have hb5 := hbk.trans (hk5.mono (by omega))
      obtain ⟨_, _, _⟩ := hX5.frees
      obtain ⟨_, _, _⟩ := hX5.cells
      have hX6 := at3_store hX5 (.int .i64 ua) (.int .i64 ub) (.int .i64 uc)
      have ho6 := store3_only w5 g0 (.int .i64 ua) (.int .i64 ub) (.int .i64 uc)
      have hY6 := hY5.only hne10 ho6
      have hb6 := hb5.trans (ho6.below (Nat.le_refl _))
      clear ho6
      go_upto_region 6 with fail
      generalize ((w5.setCell ⟨g0, 0, none⟩ (.int .i64 ua)).setCell ⟨g0, 1, none⟩ (.int .i64 ub)).setCell ⟨g0, 2, none⟩ (.int .i64 uc) = w6 at hX6 hY6 hb6 ⊢
      clear hk5 hXk hYk hbk hgw hX5 hY5 hb5
      go_wp2_with fail
      go_roundw
      case rel => exact ⟨k + 1, ⟨ua, ub, uc⟩, by omega, by go_num, HS1, hX6, hY6, hb6⟩
      case measure => simp [intOf]; omega
    · obtain rfl : k = es.length := by omega
      have hRE := HEND.out
      rw [hrun.out] at hRE
      subst hRE
      obtain ⟨ua, ub, uc⟩ := t
      simp only at hXk
      obtain ⟨_, _, _⟩ := hXk.cells
      obtain ⟨_, _, _⟩ := hYk.frees
      obtain ⟨_, _, _⟩ := hYk.cells
      go_wp2_with fail
      have hZ := at3_store hYk (.int .i64 ua) (.int .i64 ub) (.int .i64 uc)
      have hbz := hbk.trans ((store3_only wr g1 (.int .i64 ua) (.int .i64 ub) (.int .i64 uc)).below hle1)
      obtain ⟨d0, d1, d2⟩ := hZ.cells
      refine bodyPost_ret (v := .agg #[.int .i64 ua, .int .i64 ub, .int .i64 uc]) (by simp [results, Try.results14, go_sem, d0, d1, d2]) rfl ⟨rfl, by rw [HG.out]; exact hbz⟩
end Go.Proofs.Ytkefpedijjbmfaa
