/- LifeTimes: the walk. -/
import Derived.Test.YtggcfoegpadepaaDoorLfM2
namespace Go.Proofs.YtggcfoegpadepaaDoor
open Go.RowKit
set_option linter.unusedVariables false
theorem LC.clip_id {c : LC} (h : c.Ok) : c.clip = c := by
  obtain ⟨t, lo, hi, st⟩ := c
  obtain ⟨a, b, c1, d, e, f, g⟩ := h
  simp only at a b c1 d e f g
  simp only [LC.clip, LC.mk.injEq]
  have e1 := am_in 0 lo 255 c1 (by omega)
  rw [e1]
  exact ⟨am_in _ _ _ a b, rfl, am_in _ _ _ d e, am_in _ _ _ f g⟩
theorem tickI (s h q now T lo hi st : Int) (hK : (LC.mk T lo hi st).Ok) (hl : (LL.mk s h q).Ok) (n0 : 0 ≤ now) (n1 : now ≤ 1099511627776) (ns hs ks : Int) (b : Bool) (hr : LL.tick ⟨s, h, q⟩ ⟨T, lo, hi, st⟩ now = ⟨ns, hs, ks⟩) (hb : (!decide (s = 3 ∨ now - h ≤ T)) = b) (w : World) :
    Calls Tryd.prog 10 #[.agg #[.int .i64 s, .int .i64 h, .int .i64 q], .agg #[.int .i64 T, .int .i64 lo, .int .i64 hi, .int .i64 st], .int .i64 now] w fun e w' => e = .returned (.tuple #[.agg #[.int .i64 ns, .int .i64 hs, .int .i64 ks], .bool b]) ∧ Below w.heap.size w w' := by
  obtain ⟨n, rfl⟩ := Int.eq_ofNat_of_zero_le (show 0 ≤ s from hl.s0)
  exact tick_t ⟨n, h, q⟩ ⟨T, lo, hi, st⟩ now n h q ⟨T, lo, hi, st⟩ now ns hs ks b (LL.cnt_id hl) (LC.clip_id hK) (am_in _ _ _ n0 n1) (Lib.hid hr) (Lib.hid hb) w
theorem repI (s h q f now T lo hi st : Int) (hK : (LC.mk T lo hi st).Ok) (hl : (LL.mk s h q).Ok) (n0 : 0 ≤ now) (n1 : now ≤ 1099511627776) (ns ks : Int) (hr : LL.rep ⟨s, h, q⟩ ⟨T, lo, hi, st⟩ f now = ⟨ns, now, ks⟩) (w : World) (htb : Tb w) :
    Calls Tryd.prog 8 #[.agg #[.int .i64 s, .int .i64 h, .int .i64 q], .agg #[.int .i64 T, .int .i64 lo, .int .i64 hi, .int .i64 st], .int .i64 f, .int .i64 now] w fun e w' => e = .returned (.tuple #[.agg #[.int .i64 ns, .int .i64 now, .int .i64 ks], .bool (ns != s)]) ∧ Below w.heap.size w w' := by
  obtain ⟨n, rfl⟩ := Int.eq_ofNat_of_zero_le (show 0 ≤ s from hl.s0)
  exact rep_t ⟨n, h, q⟩ ⟨T, lo, hi, st⟩ f now n h q ⟨T, lo, hi, st⟩ now ns ks _ (LL.cnt_id hl) (LC.clip_id hK) (am_in _ _ _ n0 n1) (Lib.hid hr) (Lib.hid rfl) w htb
namespace lifeTimes
theorem at4_set0 {T : TypeId} {W : World} {g : Nat} {c0 c1 c2 c3 : Value} (h : At4 T W g c0 c1 c2 c3) (u : Value) : At4 T (W.setCell ⟨g, 0, none⟩ u) g u c1 c2 c3 := block_setCell h
set_option maxRecDepth 100000 in
set_option maxHeartbeats 25600000 in
theorem walk (c0 c1 c2 c3 : Int) (p2 : Option Addr) (len2 cap2 : Nat) (w00 : (Lit.int .i64 c0).wf = true) (w01 : (Lit.int .i64 c1).wf = true) (w02 : (Lit.int .i64 c2).wf = true) (w03 : (Lit.int .i64 c3).wf = true) (w : World) (wr2 : Recs lfActP w p2 len2) (hl : len2 ≤ 9223372036854775807) (htb : Tb w) :
    Calls Tryd.prog 4 #[.agg #[.int .i64 c0, .int .i64 c1, .int .i64 c2, .int .i64 c3], .slice p2 len2 cap2] w fun e w' => e = .returned (.bool true) ∧ Below w.heap.size w w' := by
  clear w00 w01 w02 w03
  have HTB := Lib.hid (fun (W : World) (hb : Below w.heap.size w W) => htb.later hb)
  have HACT := Lib.hid (fun (k : Nat) (hk : k < len2) (W : World) (hb : Below w.heap.size w W) => lfAct_at wr2 hb hk)
  have HA := Lib.hid (fun (W : World) (hb : Below w.heap.size w W) => lfAwake_any W (htb.later hb))
  have HCr := Lib.hid (fun W => refLfClip_any ⟨c0, c1, c2, c3⟩ W)
  have hq := LC.clip_ok ⟨c0, c1, c2, c3⟩
  clear htb wr2
  generalize (LC.clip ⟨c0, c1, c2, c3⟩) = cq at HCr hq
  obtain ⟨T0, lo, hi, st⟩ := cq
  obtain ⟨q1, q2, q3, q4, q5, q6, q7⟩ := hq
  simp only [LC.val] at HCr q1 q2 q3 q4 q5 q6 q7
  have hmask6 : ∀ z : Int, bits .and .i64 z 63 = z % 64 := fun z => i64_mask z 6 (by omega)
  have hmask8 : ∀ z : Int, bits .and .i64 z 255 = z % 256 := fun z => i64_mask z 8 (by omega)
  obtain ⟨T, hT⟩ : ∃ z, 1 + T0 % 64 = z := ⟨_, rfl⟩
  have t0 : 1 ≤ T := by omega
  have t1 : T ≤ 64 := by omega
  have hTw : IntKind.i64.wrap T = T := IntWalk.i64_in _ ⟨by omega, by omega⟩
  have hK : (LC.mk T lo hi st).Ok := ⟨t0, by simp only; omega, q3, q4, q5, q6, q7⟩
  have hX0 : At4 23 (w.alloc (.cells #[.int .i64 c0, .int .i64 c1, .int .i64 c2, .int .i64 c3] 23)) w.heap.size (.int .i64 c0) (.int .i64 c1) (.int .i64 c2) (.int .i64 c3) := at4_new 23 _ _ (.int .i64 c0) (.int .i64 c1) (.int .i64 c2) (.int .i64 c3) rfl
  have hb : Below w.heap.size w (w.alloc (.cells #[.int .i64 c0, .int .i64 c1, .int .i64 c2, .int .i64 c3] 23)) := (Below.refl _ _).alloc (Nat.le_refl _) _
  go_enter Tryd.func4, Tryd.ntmps4
  go_upto_region 1 with fail
  generalize (w.alloc (.cells #[.int .i64 c0, .int .i64 c1, .int .i64 c2, .int .i64 c3] 23)) = w2 at hX0 hb ⊢
  generalize hg0 : w.heap.size = g0 at hX0 hb ⊢
  have HG := Lib.hid hg0
  clear hg0
  obtain ⟨_, _, _, _⟩ := hX0.frees
  obtain ⟨_, _, _, _⟩ := hX0.cells
  go_wp2_with fail
  refine (HA.out _ (by rw [HG.out]; exact hb)).mono ?_
  rintro e w3 ⟨rfl, hk3⟩
  have hX0_3 := hX0.later hk3
  have hb3 := hb.trans (hk3.mono (by have := hX0.lt; omega))
  obtain ⟨_, _, _, _⟩ := hX0_3.frees
  obtain ⟨_, _, _, _⟩ := hX0_3.cells
  clear HA
  go_wp2_with fail
  refine (HCr.out _).mono ?_
  rintro e w4 ⟨rfl, hk4⟩
  have hX0_4 := hX0_3.later hk4
  have hb4 := hb3.trans (hk4.mono (by have := hX0_3.lt; omega))
  obtain ⟨_, _, _, _⟩ := hX0_4.frees
  obtain ⟨_, _, _, _⟩ := hX0_4.cells
  have hX0_5 := hX0_4.alloc (.cells #[.int .i64 T0, .int .i64 lo, .int .i64 hi, .int .i64 st] 23)
  have hb5 := hb4.alloc (by have := hX0_4.lt; omega) (.cells #[.int .i64 T0, .int .i64 lo, .int .i64 hi, .int .i64 st] 23)
  have hX1_5 := at4_new 23 w4 _ (.int .i64 T0) (.int .i64 lo) (.int .i64 hi) (.int .i64 st) rfl
  have lt0_5 := hX0_4.lt
  go_upto_region 4 with fail
  generalize (w4.alloc (.cells #[.int .i64 T0, .int .i64 lo, .int .i64 hi, .int .i64 st] 23)) = w5 at hX0_5 hX1_5 hb5 ⊢
  generalize w4.heap.size = g1 at hX1_5 lt0_5 ⊢
  have hne10 : g1 ≠ g0 := by omega
  have hne01 : g0 ≠ g1 := by omega
  have hle1 : g0 ≤ g1 := by omega
  clear lt0_5
  obtain ⟨_, _, _, _⟩ := hX0_5.frees
  obtain ⟨_, _, _, _⟩ := hX0_5.cells
  obtain ⟨_, _, _, _⟩ := hX1_5.frees
  obtain ⟨_, _, _, _⟩ := hX1_5.cells
  go_upto_region 5 with fail
  have hX1_6 := (at4_set0 hX1_5 (.int .i64 T))
  have ho6 := ((Only.refl g1 w5).setCell 0 (.int .i64 T))
  have hX0_6 := hX0_5.only hne01 ho6
  have hb6 := hb5.trans (ho6.below hle1)
  generalize (w5.setCell ⟨g1, 0, none⟩ (.int .i64 T)) = w6 at hX0_6 hX1_6 hb6 ⊢
  clear ho6
  obtain ⟨_, _, _, _⟩ := hX0_6.frees
  obtain ⟨_, _, _, _⟩ := hX0_6.cells
  obtain ⟨_, _, _, _⟩ := hX1_6.frees
  obtain ⟨_, _, _, _⟩ := hX1_6.cells
  go_wp2_with fail
  refine (lfNew0 _).mono ?_
  rintro e w7 ⟨rfl, hk7⟩
  have hX0_7 := hX0_6.later hk7
  have hX1_7 := hX1_6.later hk7
  have hb7 := hb6.trans (hk7.mono (by have := hX0_6.lt; omega))
  obtain ⟨_, _, _, _⟩ := hX0_7.frees
  obtain ⟨_, _, _, _⟩ := hX0_7.cells
  obtain ⟨_, _, _, _⟩ := hX1_7.frees
  obtain ⟨_, _, _, _⟩ := hX1_7.cells
  have hX0_8 := hX0_7.alloc (.cells #[.int .i64 0, .int .i64 0, .int .i64 0] 28)
  have hX1_8 := hX1_7.alloc (.cells #[.int .i64 0, .int .i64 0, .int .i64 0] 28)
  have hb8 := hb7.alloc (by have := hX0_7.lt; omega) (.cells #[.int .i64 0, .int .i64 0, .int .i64 0] 28)
  have hX2_8 := at3_new 28 w7 _ (.int .i64 0) (.int .i64 0) (.int .i64 0) rfl
  have lt0_8 := hX0_7.lt
  have lt1_8 := hX1_7.lt
  go_upto_region 6 with fail
  generalize (w7.alloc (.cells #[.int .i64 0, .int .i64 0, .int .i64 0] 28)) = w8 at hX0_8 hX1_8 hX2_8 hb8 ⊢
  generalize w7.heap.size = g2 at hX2_8 lt0_8 lt1_8 ⊢
  have hne20 : g2 ≠ g0 := by omega
  have hne02 : g0 ≠ g2 := by omega
  have hne21 : g2 ≠ g1 := by omega
  have hne12 : g1 ≠ g2 := by omega
  have hle2 : g0 ≤ g2 := by omega
  clear lt0_8 lt1_8
  obtain ⟨_, _, _, _⟩ := hX0_8.frees
  obtain ⟨_, _, _, _⟩ := hX0_8.cells
  obtain ⟨_, _, _, _⟩ := hX1_8.frees
  obtain ⟨_, _, _, _⟩ := hX1_8.cells
  obtain ⟨_, _, _⟩ := hX2_8.frees
  obtain ⟨_, _, _⟩ := hX2_8.cells
  go_wp2_with fail
  go_loopw [7, 8, 9, 10] (fun z7 z8 z9 i wr => ∃ (k : Nat) (s h q now row : Int), k ≤ len2 ∧ k ≤ 60 ∧ i = .int .i64 k ∧ z7 = .int .i64 now ∧ z8 = .int .i64 h ∧ z9 = .int .i64 row ∧ 0 ≤ s ∧ s ≤ 3 ∧ 0 ≤ h ∧ h ≤ now ∧ now ≤ 63 * k ∧ 0 ≤ q ∧ 0 ≤ row ∧ row ≤ k ∧ (s ≠ 3 → q ≤ row) ∧ At4 23 wr g0 (.int .i64 c0) (.int .i64 c1) (.int .i64 c2) (.int .i64 c3) ∧ At4 23 wr g1 (.int .i64 T) (.int .i64 lo) (.int .i64 hi) (.int .i64 st) ∧ At3 28 wr g2 (.int .i64 s) (.int .i64 h) (.int .i64 q) ∧ Below g0 w wr) (fun _ _ _ i _ => 60 - (intOf i).toNat)
  case atStart => exact ⟨0, 0, 0, 0, 0, 0, Nat.zero_le _, by omega, rfl, rfl, rfl, rfl, by omega, by omega, by omega, by omega, by omega, by omega, by omega, by omega, fun _ => by omega, hX0_8, hX1_8, hX2_8, hb8⟩
  case round =>
    obtain ⟨k, s, h, q, now, row, hk, hk60, rfl, rfl, rfl, rfl, s0, s1, h0, h1, n1, q0, r0, r1, hqr, hX0_30, hX1_30, hX2_30, hb30⟩ := hrel
    clear hX0_8 hX1_8 hX2_8 hb8
    by_cases hlt : k < len2 ∧ k < 60
    · obtain ⟨hlt, hlt60⟩ := hlt
      obtain ⟨ab, off, rfl, habl, rp, f, lt, ha0, ha1, ha2⟩ := HACT.out k hlt wr (by rw [HG.out]; exact hb30)
      obtain ⟨nw, hnw⟩ : ∃ z, now + lt % 64 = z := ⟨_, rfl⟩
      have z0 : h ≤ nw := by omega
      have z1 : nw ≤ 63 * (k + 1) := by omega
      have hwn : IntKind.i64.wrap nw = nw := IntWalk.i64_in _ ⟨by omega, by omega⟩
      have hwd : IntKind.i64.wrap (nw - h) = nw - h := IntWalk.i64_in _ ⟨by omega, by omega⟩
      by_cases hs3 : s = 3
      · subst hs3
        as_aux_lemma =>
          have HS1 := Lib.hid (fun W => sends_of 3 h q false (by rfl) W)
          have HTk := Lib.hid (fun W => tickI 3 h q nw T lo hi st hK ⟨by simp only; omega, by simp only; omega, by simp only; omega, by simp only; omega, by simp only; omega⟩ (by omega) (by omega) 3 h q false (by simp [LL.tick]) (by simp) W)
          have HSN := Lib.hid (fun W => sends_of 3 h q false (by rfl) W)
          have hX0_31 := hX0_30.alloc (.cells #[.bool rp, .int .i64 f, .int .i64 lt] 30)
          have hX1_31 := hX1_30.alloc (.cells #[.bool rp, .int .i64 f, .int .i64 lt] 30)
          have hX2_31 := hX2_30.alloc (.cells #[.bool rp, .int .i64 f, .int .i64 lt] 30)
          have hb31 := hb30.alloc (by have := hX0_30.lt; omega) (.cells #[.bool rp, .int .i64 f, .int .i64 lt] 30)
          have hX3_31 := at3_new 30 wr _ (.bool rp) (.int .i64 f) (.int .i64 lt) rfl
          have lt0_31 := hX0_30.lt
          have lt1_31 := hX1_30.lt
          have lt2_31 := hX2_30.lt
          go_upto_region 11 with fail
          generalize (wr.alloc (.cells #[.bool rp, .int .i64 f, .int .i64 lt] 30)) = w31 at hX0_31 hX1_31 hX2_31 hX3_31 hb31 ⊢
          generalize wr.heap.size = g3 at hX3_31 lt0_31 lt1_31 lt2_31 ⊢
          have hne30 : g3 ≠ g0 := by omega
          have hne03 : g0 ≠ g3 := by omega
          have hne31 : g3 ≠ g1 := by omega
          have hne13 : g1 ≠ g3 := by omega
          have hne32 : g3 ≠ g2 := by omega
          have hne23 : g2 ≠ g3 := by omega
          have hle3 : g0 ≤ g3 := by omega
          clear lt0_31 lt1_31 lt2_31
          obtain ⟨_, _, _, _⟩ := hX0_31.frees
          obtain ⟨_, _, _, _⟩ := hX0_31.cells
          obtain ⟨_, _, _, _⟩ := hX1_31.frees
          obtain ⟨_, _, _, _⟩ := hX1_31.cells
          obtain ⟨_, _, _⟩ := hX2_31.frees
          obtain ⟨_, _, _⟩ := hX2_31.cells
          obtain ⟨_, _, _⟩ := hX3_31.frees
          obtain ⟨_, _, _⟩ := hX3_31.cells
          go_wp2_with fail
          refine (HS1.out _).mono ?_
          rintro e w32 ⟨rfl, hk32⟩
          have hX0_32 := hX0_31.later hk32
          have hX1_32 := hX1_31.later hk32
          have hX2_32 := hX2_31.later hk32
          have hX3_32 := hX3_31.later hk32
          have hb32 := hb31.trans (hk32.mono (by have := hX0_31.lt; omega))
          obtain ⟨_, _, _, _⟩ := hX0_32.frees
          obtain ⟨_, _, _, _⟩ := hX0_32.cells
          obtain ⟨_, _, _, _⟩ := hX1_32.frees
          obtain ⟨_, _, _, _⟩ := hX1_32.cells
          obtain ⟨_, _, _⟩ := hX2_32.frees
          obtain ⟨_, _, _⟩ := hX2_32.cells
          obtain ⟨_, _, _⟩ := hX3_32.frees
          obtain ⟨_, _, _⟩ := hX3_32.cells
          go_upto_region 13 with fail
          clear hnw
          go_wp2_with fail
          refine (HTk.out _).mono ?_
          rintro e w33 ⟨rfl, hk33⟩
          have hX0_33 := hX0_32.later hk33
          have hX1_33 := hX1_32.later hk33
          have hX2_33 := hX2_32.later hk33
          have hX3_33 := hX3_32.later hk33
          have hb33 := hb32.trans (hk33.mono (by have := hX0_32.lt; omega))
          obtain ⟨_, _, _, _⟩ := hX0_33.frees
          obtain ⟨_, _, _, _⟩ := hX0_33.cells
          obtain ⟨_, _, _, _⟩ := hX1_33.frees
          obtain ⟨_, _, _, _⟩ := hX1_33.cells
          obtain ⟨_, _, _⟩ := hX2_33.frees
          obtain ⟨_, _, _⟩ := hX2_33.cells
          obtain ⟨_, _, _⟩ := hX3_33.frees
          obtain ⟨_, _, _⟩ := hX3_33.cells
          have hX0_34 := hX0_33.alloc (.cells #[.int .i64 3, .int .i64 h, .int .i64 q] 28)
          have hX1_34 := hX1_33.alloc (.cells #[.int .i64 3, .int .i64 h, .int .i64 q] 28)
          have hX2_34 := hX2_33.alloc (.cells #[.int .i64 3, .int .i64 h, .int .i64 q] 28)
          have hX3_34 := hX3_33.alloc (.cells #[.int .i64 3, .int .i64 h, .int .i64 q] 28)
          have hb34 := hb33.alloc (by have := hX0_33.lt; omega) (.cells #[.int .i64 3, .int .i64 h, .int .i64 q] 28)
          have hX4_34 := at3_new 28 w33 _ (.int .i64 3) (.int .i64 h) (.int .i64 q) rfl
          have lt0_34 := hX0_33.lt
          have lt1_34 := hX1_33.lt
          have lt2_34 := hX2_33.lt
          have lt3_34 := hX3_33.lt
          go_upto_region 14 with fail
          generalize (w33.alloc (.cells #[.int .i64 3, .int .i64 h, .int .i64 q] 28)) = w34 at hX0_34 hX1_34 hX2_34 hX3_34 hX4_34 hb34 ⊢
          generalize w33.heap.size = g4 at hX4_34 lt0_34 lt1_34 lt2_34 lt3_34 ⊢
          have hne40 : g4 ≠ g0 := by omega
          have hne04 : g0 ≠ g4 := by omega
          have hne41 : g4 ≠ g1 := by omega
          have hne14 : g1 ≠ g4 := by omega
          have hne42 : g4 ≠ g2 := by omega
          have hne24 : g2 ≠ g4 := by omega
          have hne43 : g4 ≠ g3 := by omega
          have hne34 : g3 ≠ g4 := by omega
          have hle4 : g0 ≤ g4 := by omega
          clear lt0_34 lt1_34 lt2_34 lt3_34
          obtain ⟨_, _, _, _⟩ := hX0_34.frees
          obtain ⟨_, _, _, _⟩ := hX0_34.cells
          obtain ⟨_, _, _, _⟩ := hX1_34.frees
          obtain ⟨_, _, _, _⟩ := hX1_34.cells
          obtain ⟨_, _, _⟩ := hX2_34.frees
          obtain ⟨_, _, _⟩ := hX2_34.cells
          obtain ⟨_, _, _⟩ := hX3_34.frees
          obtain ⟨_, _, _⟩ := hX3_34.cells
          obtain ⟨_, _, _⟩ := hX4_34.frees
          obtain ⟨_, _, _⟩ := hX4_34.cells
          go_wp2_with fail
          refine (HSN.out _).mono ?_
          rintro e w35 ⟨rfl, hk35⟩
          have hX0_35 := hX0_34.later hk35
          have hX1_35 := hX1_34.later hk35
          have hX2_35 := hX2_34.later hk35
          have hX3_35 := hX3_34.later hk35
          have hX4_35 := hX4_34.later hk35
          have hb35 := hb34.trans (hk35.mono (by have := hX0_34.lt; omega))
          obtain ⟨_, _, _, _⟩ := hX0_35.frees
          obtain ⟨_, _, _, _⟩ := hX0_35.cells
          obtain ⟨_, _, _, _⟩ := hX1_35.frees
          obtain ⟨_, _, _, _⟩ := hX1_35.cells
          obtain ⟨_, _, _⟩ := hX2_35.frees
          obtain ⟨_, _, _⟩ := hX2_35.cells
          obtain ⟨_, _, _⟩ := hX3_35.frees
          obtain ⟨_, _, _⟩ := hX3_35.cells
          obtain ⟨_, _, _⟩ := hX4_35.frees
          obtain ⟨_, _, _⟩ := hX4_35.cells
          go_upto_region 16 with fail
          go_upto_region 17 with fail
          have hX2_36 := at3_store hX2_35 (.int .i64 3) (.int .i64 h) (.int .i64 q)
          have ho36 := store3_only w35 g2 (.int .i64 3) (.int .i64 h) (.int .i64 q)
          have hX0_36 := hX0_35.only hne02 ho36
          have hX1_36 := hX1_35.only hne12 ho36
          have hX3_36 := hX3_35.only hne32 ho36
          have hX4_36 := hX4_35.only hne42 ho36
          have hb36 := hb35.trans (ho36.below hle2)
          generalize (((w35.setCell ⟨g2, 0, none⟩ (.int .i64 3)).setCell ⟨g2, 1, none⟩ (.int .i64 h)).setCell ⟨g2, 2, none⟩ (.int .i64 q)) = w36 at hX0_36 hX1_36 hX2_36 hX3_36 hX4_36 hb36 ⊢
          clear ho36
          obtain ⟨_, _, _, _⟩ := hX0_36.frees
          obtain ⟨_, _, _, _⟩ := hX0_36.cells
          obtain ⟨_, _, _, _⟩ := hX1_36.frees
          obtain ⟨_, _, _, _⟩ := hX1_36.cells
          obtain ⟨_, _, _⟩ := hX2_36.frees
          obtain ⟨_, _, _⟩ := hX2_36.cells
          obtain ⟨_, _, _⟩ := hX3_36.frees
          obtain ⟨_, _, _⟩ := hX3_36.cells
          obtain ⟨_, _, _⟩ := hX4_36.frees
          obtain ⟨_, _, _⟩ := hX4_36.cells
          cases rp
          · skip
            go_wp2_with fail
            go_roundw
            case rel => exact ⟨k + 1, 3, h, q, nw, row, by omega, by omega, by go_num, rfl, rfl, rfl, by omega, by omega, by omega, by omega, by omega, by omega, by omega, by omega, fun hh => by first | omega | exact hqr (by omega) | exact absurd rfl hh, hX0_36, hX1_36, hX2_36, hb36⟩
            case measure => simp [intOf]; omega
          · skip
            obtain ⟨ff, hff⟩ : ∃ z, f % 256 = z := ⟨_, rfl⟩
            have f0 : 0 ≤ ff := by omega
            have f1 : ff ≤ 255 := by omega
            have HS2 := Lib.hid (fun W => sends_of 3 h q false (by rfl) W)
            go_upto_region 19 with fail
            clear hff
            go_cut [12, 16] (fun y z wx => y = .bool false ∧ z = .int .i64 3 ∧ At4 23 wx g0 (.int .i64 c0) (.int .i64 c1) (.int .i64 c2) (.int .i64 c3) ∧ At4 23 wx g1 (.int .i64 T) (.int .i64 lo) (.int .i64 hi) (.int .i64 st) ∧ At3 28 wx g2 (.int .i64 3) (.int .i64 h) (.int .i64 q) ∧ Below g0 w wx)
            case first =>
              obtain ⟨_, _, _⟩ := hX2_36.drew.cells
              go_region_law (first | (go_simp; go_at_call 12; refine (HS2.out w36.drew).mono ?_; rintro e w40 ⟨rfl, hk40⟩; have hX0_40 := hX0_36.drew.later hk40; have hX1_40 := hX1_36.drew.later hk40; have hX2_40 := hX2_36.drew.later hk40; have hb40 : Below g0 w w40 := hb36.drew.trans (hk40.mono (by have := hX0_36.lt; show g0 ≤ w36.heap.size; omega)); obtain ⟨_, _, _⟩ := hX2_40.cells))
              all_goals
                go_wp2_with fail
                go_meet
                exact ⟨rfl, rfl, hX0_40, hX1_40, hX2_40, hb40⟩
            case rest =>
            obtain ⟨rfl, rfl, hX0_41, hX1_41, hX2_41, hb41⟩ := hcut
            clear hX0_36 hX1_36 hX2_36 hX3_36 hX4_36 hb36 HS2
            rename World => w41
            obtain ⟨_, _, _, _⟩ := hX0_41.frees
            obtain ⟨_, _, _, _⟩ := hX0_41.cells
            obtain ⟨_, _, _, _⟩ := hX1_41.frees
            obtain ⟨_, _, _, _⟩ := hX1_41.cells
            obtain ⟨_, _, _⟩ := hX2_41.frees
            obtain ⟨_, _, _⟩ := hX2_41.cells
            by_cases hf : ff ≤ lo
            · have hff2 : ff ≤ hi := by omega
              have HR := Lib.hid (fun (W : World) (hb : Below w.heap.size w W) => repI 3 h q ff nw T lo hi st hK ⟨by simp only; omega, by simp only; omega, by simp only; omega, by simp only; omega, by simp only; omega⟩ (by omega) (by omega) 0 0 (by simp [LL.rep, hf, bLow]) W (HTB.out W hb))
              have HS3 := Lib.hid (fun W => sends_of 0 nw 0 true (by rfl) W)
              go_upto_region 24 with fail
              go_wp2_with fail
              refine (HR.out _ (by rw [HG.out]; exact hb41)).mono ?_
              rintro e w42 ⟨rfl, hk42⟩
              have hX0_42 := hX0_41.later hk42
              have hX1_42 := hX1_41.later hk42
              have hX2_42 := hX2_41.later hk42
              have hb42 := hb41.trans (hk42.mono (by have := hX0_41.lt; omega))
              obtain ⟨_, _, _, _⟩ := hX0_42.frees
              obtain ⟨_, _, _, _⟩ := hX0_42.cells
              obtain ⟨_, _, _, _⟩ := hX1_42.frees
              obtain ⟨_, _, _, _⟩ := hX1_42.cells
              obtain ⟨_, _, _⟩ := hX2_42.frees
              obtain ⟨_, _, _⟩ := hX2_42.cells
              go_upto_region 25 with fail
              have hX2_43 := at3_store hX2_42 (.int .i64 0) (.int .i64 nw) (.int .i64 0)
              have ho43 := store3_only w42 g2 (.int .i64 0) (.int .i64 nw) (.int .i64 0)
              have hX0_43 := hX0_42.only hne02 ho43
              have hX1_43 := hX1_42.only hne12 ho43
              have hb43 := hb42.trans (ho43.below hle2)
              generalize (((w42.setCell ⟨g2, 0, none⟩ (.int .i64 0)).setCell ⟨g2, 1, none⟩ (.int .i64 nw)).setCell ⟨g2, 2, none⟩ (.int .i64 0)) = w43 at hX0_43 hX1_43 hX2_43 hb43 ⊢
              clear ho43
              obtain ⟨_, _, _, _⟩ := hX0_43.frees
              obtain ⟨_, _, _, _⟩ := hX0_43.cells
              obtain ⟨_, _, _, _⟩ := hX1_43.frees
              obtain ⟨_, _, _, _⟩ := hX1_43.cells
              obtain ⟨_, _, _⟩ := hX2_43.frees
              obtain ⟨_, _, _⟩ := hX2_43.cells
              go_upto_region 26 with fail
              go_wp2_with fail
              refine (HS3.out _).mono ?_
              rintro e w44 ⟨rfl, hk44⟩
              have hX0_44 := hX0_43.later hk44
              have hX1_44 := hX1_43.later hk44
              have hX2_44 := hX2_43.later hk44
              have hb44 := hb43.trans (hk44.mono (by have := hX0_43.lt; omega))
              obtain ⟨_, _, _, _⟩ := hX0_44.frees
              obtain ⟨_, _, _, _⟩ := hX0_44.cells
              obtain ⟨_, _, _, _⟩ := hX1_44.frees
              obtain ⟨_, _, _, _⟩ := hX1_44.cells
              obtain ⟨_, _, _⟩ := hX2_44.frees
              obtain ⟨_, _, _⟩ := hX2_44.cells
              go_upto_region 28 with fail
              go_wp2_with fail
              refine (HS3.out _).mono ?_
              rintro e w45 ⟨rfl, hk45⟩
              have hX0_45 := hX0_44.later hk45
              have hX1_45 := hX1_44.later hk45
              have hX2_45 := hX2_44.later hk45
              have hb45 := hb44.trans (hk45.mono (by have := hX0_44.lt; omega))
              obtain ⟨_, _, _, _⟩ := hX0_45.frees
              obtain ⟨_, _, _, _⟩ := hX0_45.cells
              obtain ⟨_, _, _, _⟩ := hX1_45.frees
              obtain ⟨_, _, _, _⟩ := hX1_45.cells
              obtain ⟨_, _, _⟩ := hX2_45.frees
              obtain ⟨_, _, _⟩ := hX2_45.cells
              go_wp2_with fail
              go_roundw
              case rel => exact ⟨k + 1, 0, nw, 0, nw, 0, by omega, by omega, by go_num, rfl, rfl, rfl, by omega, by omega, by omega, by omega, by omega, by omega, by omega, by omega, fun _ => by omega, hX0_45, hX1_45, hX2_45, hb45⟩
              case measure => simp [intOf]; omega
            have hlf : lo < ff := by omega
            by_cases hg : hi < ff
            · have hrw : IntKind.i64.wrap (row + 1) = row + 1 := IntWalk.i64_in _ ⟨by omega, by omega⟩
              have HR := Lib.hid (fun (W : World) (hb : Below w.heap.size w W) => repI 3 h q ff nw T lo hi st hK ⟨by simp only; omega, by simp only; omega, by simp only; omega, by simp only; omega, by simp only; omega⟩ (by omega) (by omega) 3 0 (by rw [LL.rep, if_neg (by simp only; omega), if_pos hg, if_pos (Or.inl rfl)]) W (HTB.out W hb))
              have HS3 := Lib.hid (fun W => sends_of 3 nw 0 false (by rfl) W)
              go_upto_region 24 with fail
              go_wp2_with fail
              refine (HR.out _ (by rw [HG.out]; exact hb41)).mono ?_
              rintro e w42 ⟨rfl, hk42⟩
              have hX0_42 := hX0_41.later hk42
              have hX1_42 := hX1_41.later hk42
              have hX2_42 := hX2_41.later hk42
              have hb42 := hb41.trans (hk42.mono (by have := hX0_41.lt; omega))
              obtain ⟨_, _, _, _⟩ := hX0_42.frees
              obtain ⟨_, _, _, _⟩ := hX0_42.cells
              obtain ⟨_, _, _, _⟩ := hX1_42.frees
              obtain ⟨_, _, _, _⟩ := hX1_42.cells
              obtain ⟨_, _, _⟩ := hX2_42.frees
              obtain ⟨_, _, _⟩ := hX2_42.cells
              go_upto_region 25 with fail
              have hX2_43 := at3_store hX2_42 (.int .i64 3) (.int .i64 nw) (.int .i64 0)
              have ho43 := store3_only w42 g2 (.int .i64 3) (.int .i64 nw) (.int .i64 0)
              have hX0_43 := hX0_42.only hne02 ho43
              have hX1_43 := hX1_42.only hne12 ho43
              have hb43 := hb42.trans (ho43.below hle2)
              generalize (((w42.setCell ⟨g2, 0, none⟩ (.int .i64 3)).setCell ⟨g2, 1, none⟩ (.int .i64 nw)).setCell ⟨g2, 2, none⟩ (.int .i64 0)) = w43 at hX0_43 hX1_43 hX2_43 hb43 ⊢
              clear ho43
              obtain ⟨_, _, _, _⟩ := hX0_43.frees
              obtain ⟨_, _, _, _⟩ := hX0_43.cells
              obtain ⟨_, _, _, _⟩ := hX1_43.frees
              obtain ⟨_, _, _, _⟩ := hX1_43.cells
              obtain ⟨_, _, _⟩ := hX2_43.frees
              obtain ⟨_, _, _⟩ := hX2_43.cells
              go_upto_region 26 with fail
              go_wp2_with fail
              refine (HS3.out _).mono ?_
              rintro e w44 ⟨rfl, hk44⟩
              have hX0_44 := hX0_43.later hk44
              have hX1_44 := hX1_43.later hk44
              have hX2_44 := hX2_43.later hk44
              have hb44 := hb43.trans (hk44.mono (by have := hX0_43.lt; omega))
              obtain ⟨_, _, _, _⟩ := hX0_44.frees
              obtain ⟨_, _, _, _⟩ := hX0_44.cells
              obtain ⟨_, _, _, _⟩ := hX1_44.frees
              obtain ⟨_, _, _, _⟩ := hX1_44.cells
              obtain ⟨_, _, _⟩ := hX2_44.frees
              obtain ⟨_, _, _⟩ := hX2_44.cells
              go_upto_region 28 with fail
              go_wp2_with fail
              refine (HS3.out _).mono ?_
              rintro e w45 ⟨rfl, hk45⟩
              have hX0_45 := hX0_44.later hk45
              have hX1_45 := hX1_44.later hk45
              have hX2_45 := hX2_44.later hk45
              have hb45 := hb44.trans (hk45.mono (by have := hX0_44.lt; omega))
              obtain ⟨_, _, _, _⟩ := hX0_45.frees
              obtain ⟨_, _, _, _⟩ := hX0_45.cells
              obtain ⟨_, _, _, _⟩ := hX1_45.frees
              obtain ⟨_, _, _, _⟩ := hX1_45.cells
              obtain ⟨_, _, _⟩ := hX2_45.frees
              obtain ⟨_, _, _⟩ := hX2_45.cells
              go_wp2_with fail
              go_roundw
              case rel => exact ⟨k + 1, 3, nw, 0, nw, 0, by omega, by omega, by go_num, rfl, rfl, rfl, by omega, by omega, by omega, by omega, by omega, by omega, by omega, by omega, fun h => absurd rfl h, hX0_45, hX1_45, hX2_45, hb45⟩
              case measure => simp [intOf]; omega
            · have hgh : ff ≤ hi := by omega
              have HR := Lib.hid (fun (W : World) (hb : Below w.heap.size w W) => repI 3 h q ff nw T lo hi st hK ⟨by simp only; omega, by simp only; omega, by simp only; omega, by simp only; omega, by simp only; omega⟩ (by omega) (by omega) 3 q (by rw [LL.rep, if_neg (by simp only; omega), if_neg (by simp only; omega)]) W (HTB.out W hb))
              have HS3 := Lib.hid (fun W => sends_of 3 nw q false (by rfl) W)
              go_upto_region 24 with fail
              go_wp2_with fail
              refine (HR.out _ (by rw [HG.out]; exact hb41)).mono ?_
              rintro e w42 ⟨rfl, hk42⟩
              have hX0_42 := hX0_41.later hk42
              have hX1_42 := hX1_41.later hk42
              have hX2_42 := hX2_41.later hk42
              have hb42 := hb41.trans (hk42.mono (by have := hX0_41.lt; omega))
              obtain ⟨_, _, _, _⟩ := hX0_42.frees
              obtain ⟨_, _, _, _⟩ := hX0_42.cells
              obtain ⟨_, _, _, _⟩ := hX1_42.frees
              obtain ⟨_, _, _, _⟩ := hX1_42.cells
              obtain ⟨_, _, _⟩ := hX2_42.frees
              obtain ⟨_, _, _⟩ := hX2_42.cells
              go_upto_region 25 with fail
              have hX2_43 := at3_store hX2_42 (.int .i64 3) (.int .i64 nw) (.int .i64 q)
              have ho43 := store3_only w42 g2 (.int .i64 3) (.int .i64 nw) (.int .i64 q)
              have hX0_43 := hX0_42.only hne02 ho43
              have hX1_43 := hX1_42.only hne12 ho43
              have hb43 := hb42.trans (ho43.below hle2)
              generalize (((w42.setCell ⟨g2, 0, none⟩ (.int .i64 3)).setCell ⟨g2, 1, none⟩ (.int .i64 nw)).setCell ⟨g2, 2, none⟩ (.int .i64 q)) = w43 at hX0_43 hX1_43 hX2_43 hb43 ⊢
              clear ho43
              obtain ⟨_, _, _, _⟩ := hX0_43.frees
              obtain ⟨_, _, _, _⟩ := hX0_43.cells
              obtain ⟨_, _, _, _⟩ := hX1_43.frees
              obtain ⟨_, _, _, _⟩ := hX1_43.cells
              obtain ⟨_, _, _⟩ := hX2_43.frees
              obtain ⟨_, _, _⟩ := hX2_43.cells
              go_upto_region 26 with fail
              go_wp2_with fail
              refine (HS3.out _).mono ?_
              rintro e w44 ⟨rfl, hk44⟩
              have hX0_44 := hX0_43.later hk44
              have hX1_44 := hX1_43.later hk44
              have hX2_44 := hX2_43.later hk44
              have hb44 := hb43.trans (hk44.mono (by have := hX0_43.lt; omega))
              obtain ⟨_, _, _, _⟩ := hX0_44.frees
              obtain ⟨_, _, _, _⟩ := hX0_44.cells
              obtain ⟨_, _, _, _⟩ := hX1_44.frees
              obtain ⟨_, _, _, _⟩ := hX1_44.cells
              obtain ⟨_, _, _⟩ := hX2_44.frees
              obtain ⟨_, _, _⟩ := hX2_44.cells
              go_upto_region 28 with fail
              go_wp2_with fail
              refine (HS3.out _).mono ?_
              rintro e w45 ⟨rfl, hk45⟩
              have hX0_45 := hX0_44.later hk45
              have hX1_45 := hX1_44.later hk45
              have hX2_45 := hX2_44.later hk45
              have hb45 := hb44.trans (hk45.mono (by have := hX0_44.lt; omega))
              obtain ⟨_, _, _, _⟩ := hX0_45.frees
              obtain ⟨_, _, _, _⟩ := hX0_45.cells
              obtain ⟨_, _, _, _⟩ := hX1_45.frees
              obtain ⟨_, _, _, _⟩ := hX1_45.cells
              obtain ⟨_, _, _⟩ := hX2_45.frees
              obtain ⟨_, _, _⟩ := hX2_45.cells
              go_wp2_with fail
              go_roundw
              case rel => exact ⟨k + 1, 3, nw, q, nw, 0, by omega, by omega, by go_num, rfl, rfl, rfl, by omega, by omega, by omega, by omega, by omega, by omega, by omega, by omega, fun h => absurd rfl h, hX0_45, hX1_45, hX2_45, hb45⟩
              case measure => simp [intOf]; omega
      have hqr := hqr hs3
      by_cases ht : T < nw - h
      · skip
        as_aux_lemma =>
          have HS1 := Lib.hid (fun W => sends_of s h q true (by rw [stk_id _ (by omega) (by omega)]; simp; omega) W)
          have HTk := Lib.hid (fun W => tickI s h q nw T lo hi st hK ⟨by simp only; omega, by simp only; omega, by simp only; omega, by simp only; omega, by simp only; omega⟩ (by omega) (by omega) 3 h 0 true (by rw [LL.tick, if_neg (by simp only; omega)]) (by rw [decide_eq_false (by omega)]; rfl) W)
          have HSN := Lib.hid (fun W => sends_of 3 h 0 false (by rfl) W)
          have hX0_31 := hX0_30.alloc (.cells #[.bool rp, .int .i64 f, .int .i64 lt] 30)
          have hX1_31 := hX1_30.alloc (.cells #[.bool rp, .int .i64 f, .int .i64 lt] 30)
          have hX2_31 := hX2_30.alloc (.cells #[.bool rp, .int .i64 f, .int .i64 lt] 30)
          have hb31 := hb30.alloc (by have := hX0_30.lt; omega) (.cells #[.bool rp, .int .i64 f, .int .i64 lt] 30)
          have hX3_31 := at3_new 30 wr _ (.bool rp) (.int .i64 f) (.int .i64 lt) rfl
          have lt0_31 := hX0_30.lt
          have lt1_31 := hX1_30.lt
          have lt2_31 := hX2_30.lt
          go_upto_region 11 with fail
          generalize (wr.alloc (.cells #[.bool rp, .int .i64 f, .int .i64 lt] 30)) = w31 at hX0_31 hX1_31 hX2_31 hX3_31 hb31 ⊢
          generalize wr.heap.size = g3 at hX3_31 lt0_31 lt1_31 lt2_31 ⊢
          have hne30 : g3 ≠ g0 := by omega
          have hne03 : g0 ≠ g3 := by omega
          have hne31 : g3 ≠ g1 := by omega
          have hne13 : g1 ≠ g3 := by omega
          have hne32 : g3 ≠ g2 := by omega
          have hne23 : g2 ≠ g3 := by omega
          have hle3 : g0 ≤ g3 := by omega
          clear lt0_31 lt1_31 lt2_31
          obtain ⟨_, _, _, _⟩ := hX0_31.frees
          obtain ⟨_, _, _, _⟩ := hX0_31.cells
          obtain ⟨_, _, _, _⟩ := hX1_31.frees
          obtain ⟨_, _, _, _⟩ := hX1_31.cells
          obtain ⟨_, _, _⟩ := hX2_31.frees
          obtain ⟨_, _, _⟩ := hX2_31.cells
          obtain ⟨_, _, _⟩ := hX3_31.frees
          obtain ⟨_, _, _⟩ := hX3_31.cells
          go_wp2_with fail
          refine (HS1.out _).mono ?_
          rintro e w32 ⟨rfl, hk32⟩
          have hX0_32 := hX0_31.later hk32
          have hX1_32 := hX1_31.later hk32
          have hX2_32 := hX2_31.later hk32
          have hX3_32 := hX3_31.later hk32
          have hb32 := hb31.trans (hk32.mono (by have := hX0_31.lt; omega))
          obtain ⟨_, _, _, _⟩ := hX0_32.frees
          obtain ⟨_, _, _, _⟩ := hX0_32.cells
          obtain ⟨_, _, _, _⟩ := hX1_32.frees
          obtain ⟨_, _, _, _⟩ := hX1_32.cells
          obtain ⟨_, _, _⟩ := hX2_32.frees
          obtain ⟨_, _, _⟩ := hX2_32.cells
          obtain ⟨_, _, _⟩ := hX3_32.frees
          obtain ⟨_, _, _⟩ := hX3_32.cells
          go_upto_region 13 with fail
          clear hnw
          go_wp2_with fail
          refine (HTk.out _).mono ?_
          rintro e w33 ⟨rfl, hk33⟩
          have hX0_33 := hX0_32.later hk33
          have hX1_33 := hX1_32.later hk33
          have hX2_33 := hX2_32.later hk33
          have hX3_33 := hX3_32.later hk33
          have hb33 := hb32.trans (hk33.mono (by have := hX0_32.lt; omega))
          obtain ⟨_, _, _, _⟩ := hX0_33.frees
          obtain ⟨_, _, _, _⟩ := hX0_33.cells
          obtain ⟨_, _, _, _⟩ := hX1_33.frees
          obtain ⟨_, _, _, _⟩ := hX1_33.cells
          obtain ⟨_, _, _⟩ := hX2_33.frees
          obtain ⟨_, _, _⟩ := hX2_33.cells
          obtain ⟨_, _, _⟩ := hX3_33.frees
          obtain ⟨_, _, _⟩ := hX3_33.cells
          have hX0_34 := hX0_33.alloc (.cells #[.int .i64 3, .int .i64 h, .int .i64 0] 28)
          have hX1_34 := hX1_33.alloc (.cells #[.int .i64 3, .int .i64 h, .int .i64 0] 28)
          have hX2_34 := hX2_33.alloc (.cells #[.int .i64 3, .int .i64 h, .int .i64 0] 28)
          have hX3_34 := hX3_33.alloc (.cells #[.int .i64 3, .int .i64 h, .int .i64 0] 28)
          have hb34 := hb33.alloc (by have := hX0_33.lt; omega) (.cells #[.int .i64 3, .int .i64 h, .int .i64 0] 28)
          have hX4_34 := at3_new 28 w33 _ (.int .i64 3) (.int .i64 h) (.int .i64 0) rfl
          have lt0_34 := hX0_33.lt
          have lt1_34 := hX1_33.lt
          have lt2_34 := hX2_33.lt
          have lt3_34 := hX3_33.lt
          go_upto_region 14 with fail
          generalize (w33.alloc (.cells #[.int .i64 3, .int .i64 h, .int .i64 0] 28)) = w34 at hX0_34 hX1_34 hX2_34 hX3_34 hX4_34 hb34 ⊢
          generalize w33.heap.size = g4 at hX4_34 lt0_34 lt1_34 lt2_34 lt3_34 ⊢
          have hne40 : g4 ≠ g0 := by omega
          have hne04 : g0 ≠ g4 := by omega
          have hne41 : g4 ≠ g1 := by omega
          have hne14 : g1 ≠ g4 := by omega
          have hne42 : g4 ≠ g2 := by omega
          have hne24 : g2 ≠ g4 := by omega
          have hne43 : g4 ≠ g3 := by omega
          have hne34 : g3 ≠ g4 := by omega
          have hle4 : g0 ≤ g4 := by omega
          clear lt0_34 lt1_34 lt2_34 lt3_34
          obtain ⟨_, _, _, _⟩ := hX0_34.frees
          obtain ⟨_, _, _, _⟩ := hX0_34.cells
          obtain ⟨_, _, _, _⟩ := hX1_34.frees
          obtain ⟨_, _, _, _⟩ := hX1_34.cells
          obtain ⟨_, _, _⟩ := hX2_34.frees
          obtain ⟨_, _, _⟩ := hX2_34.cells
          obtain ⟨_, _, _⟩ := hX3_34.frees
          obtain ⟨_, _, _⟩ := hX3_34.cells
          obtain ⟨_, _, _⟩ := hX4_34.frees
          obtain ⟨_, _, _⟩ := hX4_34.cells
          go_wp2_with fail
          refine (HSN.out _).mono ?_
          rintro e w35 ⟨rfl, hk35⟩
          have hX0_35 := hX0_34.later hk35
          have hX1_35 := hX1_34.later hk35
          have hX2_35 := hX2_34.later hk35
          have hX3_35 := hX3_34.later hk35
          have hX4_35 := hX4_34.later hk35
          have hb35 := hb34.trans (hk35.mono (by have := hX0_34.lt; omega))
          obtain ⟨_, _, _, _⟩ := hX0_35.frees
          obtain ⟨_, _, _, _⟩ := hX0_35.cells
          obtain ⟨_, _, _, _⟩ := hX1_35.frees
          obtain ⟨_, _, _, _⟩ := hX1_35.cells
          obtain ⟨_, _, _⟩ := hX2_35.frees
          obtain ⟨_, _, _⟩ := hX2_35.cells
          obtain ⟨_, _, _⟩ := hX3_35.frees
          obtain ⟨_, _, _⟩ := hX3_35.cells
          obtain ⟨_, _, _⟩ := hX4_35.frees
          obtain ⟨_, _, _⟩ := hX4_35.cells
          go_wp2_with fail
          refine (HSN.out _).mono ?_
          rintro e w36 ⟨rfl, hk36⟩
          have hX0_36 := hX0_35.later hk36
          have hX1_36 := hX1_35.later hk36
          have hX2_36 := hX2_35.later hk36
          have hX3_36 := hX3_35.later hk36
          have hX4_36 := hX4_35.later hk36
          have hb36 := hb35.trans (hk36.mono (by have := hX0_35.lt; omega))
          obtain ⟨_, _, _, _⟩ := hX0_36.frees
          obtain ⟨_, _, _, _⟩ := hX0_36.cells
          obtain ⟨_, _, _, _⟩ := hX1_36.frees
          obtain ⟨_, _, _, _⟩ := hX1_36.cells
          obtain ⟨_, _, _⟩ := hX2_36.frees
          obtain ⟨_, _, _⟩ := hX2_36.cells
          obtain ⟨_, _, _⟩ := hX3_36.frees
          obtain ⟨_, _, _⟩ := hX3_36.cells
          obtain ⟨_, _, _⟩ := hX4_36.frees
          obtain ⟨_, _, _⟩ := hX4_36.cells
          go_upto_region 16 with fail
          go_upto_region 17 with fail
          have hX2_37 := at3_store hX2_36 (.int .i64 3) (.int .i64 h) (.int .i64 0)
          have ho37 := store3_only w36 g2 (.int .i64 3) (.int .i64 h) (.int .i64 0)
          have hX0_37 := hX0_36.only hne02 ho37
          have hX1_37 := hX1_36.only hne12 ho37
          have hX3_37 := hX3_36.only hne32 ho37
          have hX4_37 := hX4_36.only hne42 ho37
          have hb37 := hb36.trans (ho37.below hle2)
          generalize (((w36.setCell ⟨g2, 0, none⟩ (.int .i64 3)).setCell ⟨g2, 1, none⟩ (.int .i64 h)).setCell ⟨g2, 2, none⟩ (.int .i64 0)) = w37 at hX0_37 hX1_37 hX2_37 hX3_37 hX4_37 hb37 ⊢
          clear ho37
          obtain ⟨_, _, _, _⟩ := hX0_37.frees
          obtain ⟨_, _, _, _⟩ := hX0_37.cells
          obtain ⟨_, _, _, _⟩ := hX1_37.frees
          obtain ⟨_, _, _, _⟩ := hX1_37.cells
          obtain ⟨_, _, _⟩ := hX2_37.frees
          obtain ⟨_, _, _⟩ := hX2_37.cells
          obtain ⟨_, _, _⟩ := hX3_37.frees
          obtain ⟨_, _, _⟩ := hX3_37.cells
          obtain ⟨_, _, _⟩ := hX4_37.frees
          obtain ⟨_, _, _⟩ := hX4_37.cells
          cases rp
          · skip
            go_wp2_with fail
            go_roundw
            case rel => exact ⟨k + 1, 3, h, 0, nw, row, by omega, by omega, by go_num, rfl, rfl, rfl, by omega, by omega, by omega, by omega, by omega, by omega, by omega, by omega, fun hh => by first | omega | exact hqr (by omega) | exact absurd rfl hh, hX0_37, hX1_37, hX2_37, hb37⟩
            case measure => simp [intOf]; omega
          · skip
            obtain ⟨ff, hff⟩ : ∃ z, f % 256 = z := ⟨_, rfl⟩
            have f0 : 0 ≤ ff := by omega
            have f1 : ff ≤ 255 := by omega
            have HS2 := Lib.hid (fun W => sends_of 3 h 0 false (by rfl) W)
            go_upto_region 19 with fail
            clear hff
            go_cut [12, 16] (fun y z wx => y = .bool false ∧ z = .int .i64 3 ∧ At4 23 wx g0 (.int .i64 c0) (.int .i64 c1) (.int .i64 c2) (.int .i64 c3) ∧ At4 23 wx g1 (.int .i64 T) (.int .i64 lo) (.int .i64 hi) (.int .i64 st) ∧ At3 28 wx g2 (.int .i64 3) (.int .i64 h) (.int .i64 0) ∧ Below g0 w wx)
            case first =>
              obtain ⟨_, _, _⟩ := hX2_37.drew.cells
              go_region_law (first | (go_simp; go_at_call 12; refine (HS2.out w37.drew).mono ?_; rintro e w40 ⟨rfl, hk40⟩; have hX0_40 := hX0_37.drew.later hk40; have hX1_40 := hX1_37.drew.later hk40; have hX2_40 := hX2_37.drew.later hk40; have hb40 : Below g0 w w40 := hb37.drew.trans (hk40.mono (by have := hX0_37.lt; show g0 ≤ w37.heap.size; omega)); obtain ⟨_, _, _⟩ := hX2_40.cells))
              all_goals
                go_wp2_with fail
                go_meet
                exact ⟨rfl, rfl, hX0_40, hX1_40, hX2_40, hb40⟩
            case rest =>
            obtain ⟨rfl, rfl, hX0_41, hX1_41, hX2_41, hb41⟩ := hcut
            clear hX0_37 hX1_37 hX2_37 hX3_37 hX4_37 hb37 HS2
            rename World => w41
            obtain ⟨_, _, _, _⟩ := hX0_41.frees
            obtain ⟨_, _, _, _⟩ := hX0_41.cells
            obtain ⟨_, _, _, _⟩ := hX1_41.frees
            obtain ⟨_, _, _, _⟩ := hX1_41.cells
            obtain ⟨_, _, _⟩ := hX2_41.frees
            obtain ⟨_, _, _⟩ := hX2_41.cells
            by_cases hf : ff ≤ lo
            · have hff2 : ff ≤ hi := by omega
              have HR := Lib.hid (fun (W : World) (hb : Below w.heap.size w W) => repI 3 h 0 ff nw T lo hi st hK ⟨by simp only; omega, by simp only; omega, by simp only; omega, by simp only; omega, by simp only; omega⟩ (by omega) (by omega) 0 0 (by simp [LL.rep, hf, bLow]) W (HTB.out W hb))
              have HS3 := Lib.hid (fun W => sends_of 0 nw 0 true (by rfl) W)
              go_upto_region 24 with fail
              go_wp2_with fail
              refine (HR.out _ (by rw [HG.out]; exact hb41)).mono ?_
              rintro e w42 ⟨rfl, hk42⟩
              have hX0_42 := hX0_41.later hk42
              have hX1_42 := hX1_41.later hk42
              have hX2_42 := hX2_41.later hk42
              have hb42 := hb41.trans (hk42.mono (by have := hX0_41.lt; omega))
              obtain ⟨_, _, _, _⟩ := hX0_42.frees
              obtain ⟨_, _, _, _⟩ := hX0_42.cells
              obtain ⟨_, _, _, _⟩ := hX1_42.frees
              obtain ⟨_, _, _, _⟩ := hX1_42.cells
              obtain ⟨_, _, _⟩ := hX2_42.frees
              obtain ⟨_, _, _⟩ := hX2_42.cells
              go_upto_region 25 with fail
              have hX2_43 := at3_store hX2_42 (.int .i64 0) (.int .i64 nw) (.int .i64 0)
              have ho43 := store3_only w42 g2 (.int .i64 0) (.int .i64 nw) (.int .i64 0)
              have hX0_43 := hX0_42.only hne02 ho43
              have hX1_43 := hX1_42.only hne12 ho43
              have hb43 := hb42.trans (ho43.below hle2)
              generalize (((w42.setCell ⟨g2, 0, none⟩ (.int .i64 0)).setCell ⟨g2, 1, none⟩ (.int .i64 nw)).setCell ⟨g2, 2, none⟩ (.int .i64 0)) = w43 at hX0_43 hX1_43 hX2_43 hb43 ⊢
              clear ho43
              obtain ⟨_, _, _, _⟩ := hX0_43.frees
              obtain ⟨_, _, _, _⟩ := hX0_43.cells
              obtain ⟨_, _, _, _⟩ := hX1_43.frees
              obtain ⟨_, _, _, _⟩ := hX1_43.cells
              obtain ⟨_, _, _⟩ := hX2_43.frees
              obtain ⟨_, _, _⟩ := hX2_43.cells
              go_upto_region 26 with fail
              go_wp2_with fail
              refine (HS3.out _).mono ?_
              rintro e w44 ⟨rfl, hk44⟩
              have hX0_44 := hX0_43.later hk44
              have hX1_44 := hX1_43.later hk44
              have hX2_44 := hX2_43.later hk44
              have hb44 := hb43.trans (hk44.mono (by have := hX0_43.lt; omega))
              obtain ⟨_, _, _, _⟩ := hX0_44.frees
              obtain ⟨_, _, _, _⟩ := hX0_44.cells
              obtain ⟨_, _, _, _⟩ := hX1_44.frees
              obtain ⟨_, _, _, _⟩ := hX1_44.cells
              obtain ⟨_, _, _⟩ := hX2_44.frees
              obtain ⟨_, _, _⟩ := hX2_44.cells
              go_upto_region 28 with fail
              go_wp2_with fail
              refine (HS3.out _).mono ?_
              rintro e w45 ⟨rfl, hk45⟩
              have hX0_45 := hX0_44.later hk45
              have hX1_45 := hX1_44.later hk45
              have hX2_45 := hX2_44.later hk45
              have hb45 := hb44.trans (hk45.mono (by have := hX0_44.lt; omega))
              obtain ⟨_, _, _, _⟩ := hX0_45.frees
              obtain ⟨_, _, _, _⟩ := hX0_45.cells
              obtain ⟨_, _, _, _⟩ := hX1_45.frees
              obtain ⟨_, _, _, _⟩ := hX1_45.cells
              obtain ⟨_, _, _⟩ := hX2_45.frees
              obtain ⟨_, _, _⟩ := hX2_45.cells
              go_wp2_with fail
              go_roundw
              case rel => exact ⟨k + 1, 0, nw, 0, nw, 0, by omega, by omega, by go_num, rfl, rfl, rfl, by omega, by omega, by omega, by omega, by omega, by omega, by omega, by omega, fun _ => by omega, hX0_45, hX1_45, hX2_45, hb45⟩
              case measure => simp [intOf]; omega
            have hlf : lo < ff := by omega
            by_cases hg : hi < ff
            · have hrw : IntKind.i64.wrap (row + 1) = row + 1 := IntWalk.i64_in _ ⟨by omega, by omega⟩
              have HR := Lib.hid (fun (W : World) (hb : Below w.heap.size w W) => repI 3 h 0 ff nw T lo hi st hK ⟨by simp only; omega, by simp only; omega, by simp only; omega, by simp only; omega, by simp only; omega⟩ (by omega) (by omega) 3 0 (by rw [LL.rep, if_neg (by simp only; omega), if_pos hg, if_pos (Or.inl rfl)]) W (HTB.out W hb))
              have HS3 := Lib.hid (fun W => sends_of 3 nw 0 false (by rfl) W)
              go_upto_region 24 with fail
              go_wp2_with fail
              refine (HR.out _ (by rw [HG.out]; exact hb41)).mono ?_
              rintro e w42 ⟨rfl, hk42⟩
              have hX0_42 := hX0_41.later hk42
              have hX1_42 := hX1_41.later hk42
              have hX2_42 := hX2_41.later hk42
              have hb42 := hb41.trans (hk42.mono (by have := hX0_41.lt; omega))
              obtain ⟨_, _, _, _⟩ := hX0_42.frees
              obtain ⟨_, _, _, _⟩ := hX0_42.cells
              obtain ⟨_, _, _, _⟩ := hX1_42.frees
              obtain ⟨_, _, _, _⟩ := hX1_42.cells
              obtain ⟨_, _, _⟩ := hX2_42.frees
              obtain ⟨_, _, _⟩ := hX2_42.cells
              go_upto_region 25 with fail
              have hX2_43 := at3_store hX2_42 (.int .i64 3) (.int .i64 nw) (.int .i64 0)
              have ho43 := store3_only w42 g2 (.int .i64 3) (.int .i64 nw) (.int .i64 0)
              have hX0_43 := hX0_42.only hne02 ho43
              have hX1_43 := hX1_42.only hne12 ho43
              have hb43 := hb42.trans (ho43.below hle2)
              generalize (((w42.setCell ⟨g2, 0, none⟩ (.int .i64 3)).setCell ⟨g2, 1, none⟩ (.int .i64 nw)).setCell ⟨g2, 2, none⟩ (.int .i64 0)) = w43 at hX0_43 hX1_43 hX2_43 hb43 ⊢
              clear ho43
              obtain ⟨_, _, _, _⟩ := hX0_43.frees
              obtain ⟨_, _, _, _⟩ := hX0_43.cells
              obtain ⟨_, _, _, _⟩ := hX1_43.frees
              obtain ⟨_, _, _, _⟩ := hX1_43.cells
              obtain ⟨_, _, _⟩ := hX2_43.frees
              obtain ⟨_, _, _⟩ := hX2_43.cells
              go_upto_region 26 with fail
              go_wp2_with fail
              refine (HS3.out _).mono ?_
              rintro e w44 ⟨rfl, hk44⟩
              have hX0_44 := hX0_43.later hk44
              have hX1_44 := hX1_43.later hk44
              have hX2_44 := hX2_43.later hk44
              have hb44 := hb43.trans (hk44.mono (by have := hX0_43.lt; omega))
              obtain ⟨_, _, _, _⟩ := hX0_44.frees
              obtain ⟨_, _, _, _⟩ := hX0_44.cells
              obtain ⟨_, _, _, _⟩ := hX1_44.frees
              obtain ⟨_, _, _, _⟩ := hX1_44.cells
              obtain ⟨_, _, _⟩ := hX2_44.frees
              obtain ⟨_, _, _⟩ := hX2_44.cells
              go_upto_region 28 with fail
              go_wp2_with fail
              refine (HS3.out _).mono ?_
              rintro e w45 ⟨rfl, hk45⟩
              have hX0_45 := hX0_44.later hk45
              have hX1_45 := hX1_44.later hk45
              have hX2_45 := hX2_44.later hk45
              have hb45 := hb44.trans (hk45.mono (by have := hX0_44.lt; omega))
              obtain ⟨_, _, _, _⟩ := hX0_45.frees
              obtain ⟨_, _, _, _⟩ := hX0_45.cells
              obtain ⟨_, _, _, _⟩ := hX1_45.frees
              obtain ⟨_, _, _, _⟩ := hX1_45.cells
              obtain ⟨_, _, _⟩ := hX2_45.frees
              obtain ⟨_, _, _⟩ := hX2_45.cells
              go_wp2_with fail
              go_roundw
              case rel => exact ⟨k + 1, 3, nw, 0, nw, 0, by omega, by omega, by go_num, rfl, rfl, rfl, by omega, by omega, by omega, by omega, by omega, by omega, by omega, by omega, fun h => absurd rfl h, hX0_45, hX1_45, hX2_45, hb45⟩
              case measure => simp [intOf]; omega
            · have hgh : ff ≤ hi := by omega
              have HR := Lib.hid (fun (W : World) (hb : Below w.heap.size w W) => repI 3 h 0 ff nw T lo hi st hK ⟨by simp only; omega, by simp only; omega, by simp only; omega, by simp only; omega, by simp only; omega⟩ (by omega) (by omega) 3 0 (by rw [LL.rep, if_neg (by simp only; omega), if_neg (by simp only; omega)]) W (HTB.out W hb))
              have HS3 := Lib.hid (fun W => sends_of 3 nw 0 false (by rfl) W)
              go_upto_region 24 with fail
              go_wp2_with fail
              refine (HR.out _ (by rw [HG.out]; exact hb41)).mono ?_
              rintro e w42 ⟨rfl, hk42⟩
              have hX0_42 := hX0_41.later hk42
              have hX1_42 := hX1_41.later hk42
              have hX2_42 := hX2_41.later hk42
              have hb42 := hb41.trans (hk42.mono (by have := hX0_41.lt; omega))
              obtain ⟨_, _, _, _⟩ := hX0_42.frees
              obtain ⟨_, _, _, _⟩ := hX0_42.cells
              obtain ⟨_, _, _, _⟩ := hX1_42.frees
              obtain ⟨_, _, _, _⟩ := hX1_42.cells
              obtain ⟨_, _, _⟩ := hX2_42.frees
              obtain ⟨_, _, _⟩ := hX2_42.cells
              go_upto_region 25 with fail
              have hX2_43 := at3_store hX2_42 (.int .i64 3) (.int .i64 nw) (.int .i64 0)
              have ho43 := store3_only w42 g2 (.int .i64 3) (.int .i64 nw) (.int .i64 0)
              have hX0_43 := hX0_42.only hne02 ho43
              have hX1_43 := hX1_42.only hne12 ho43
              have hb43 := hb42.trans (ho43.below hle2)
              generalize (((w42.setCell ⟨g2, 0, none⟩ (.int .i64 3)).setCell ⟨g2, 1, none⟩ (.int .i64 nw)).setCell ⟨g2, 2, none⟩ (.int .i64 0)) = w43 at hX0_43 hX1_43 hX2_43 hb43 ⊢
              clear ho43
              obtain ⟨_, _, _, _⟩ := hX0_43.frees
              obtain ⟨_, _, _, _⟩ := hX0_43.cells
              obtain ⟨_, _, _, _⟩ := hX1_43.frees
              obtain ⟨_, _, _, _⟩ := hX1_43.cells
              obtain ⟨_, _, _⟩ := hX2_43.frees
              obtain ⟨_, _, _⟩ := hX2_43.cells
              go_upto_region 26 with fail
              go_wp2_with fail
              refine (HS3.out _).mono ?_
              rintro e w44 ⟨rfl, hk44⟩
              have hX0_44 := hX0_43.later hk44
              have hX1_44 := hX1_43.later hk44
              have hX2_44 := hX2_43.later hk44
              have hb44 := hb43.trans (hk44.mono (by have := hX0_43.lt; omega))
              obtain ⟨_, _, _, _⟩ := hX0_44.frees
              obtain ⟨_, _, _, _⟩ := hX0_44.cells
              obtain ⟨_, _, _, _⟩ := hX1_44.frees
              obtain ⟨_, _, _, _⟩ := hX1_44.cells
              obtain ⟨_, _, _⟩ := hX2_44.frees
              obtain ⟨_, _, _⟩ := hX2_44.cells
              go_upto_region 28 with fail
              go_wp2_with fail
              refine (HS3.out _).mono ?_
              rintro e w45 ⟨rfl, hk45⟩
              have hX0_45 := hX0_44.later hk45
              have hX1_45 := hX1_44.later hk45
              have hX2_45 := hX2_44.later hk45
              have hb45 := hb44.trans (hk45.mono (by have := hX0_44.lt; omega))
              obtain ⟨_, _, _, _⟩ := hX0_45.frees
              obtain ⟨_, _, _, _⟩ := hX0_45.cells
              obtain ⟨_, _, _, _⟩ := hX1_45.frees
              obtain ⟨_, _, _, _⟩ := hX1_45.cells
              obtain ⟨_, _, _⟩ := hX2_45.frees
              obtain ⟨_, _, _⟩ := hX2_45.cells
              go_wp2_with fail
              go_roundw
              case rel => exact ⟨k + 1, 3, nw, 0, nw, 0, by omega, by omega, by go_num, rfl, rfl, rfl, by omega, by omega, by omega, by omega, by omega, by omega, by omega, by omega, fun h => absurd rfl h, hX0_45, hX1_45, hX2_45, hb45⟩
              case measure => simp [intOf]; omega
      have ht : nw - h ≤ T := by omega
      have hs4 : s = 0 ∨ s = 1 ∨ s = 2 := by omega
      rcases hs4 with rfl | rfl | rfl
      · skip
        as_aux_lemma =>
          have HS1 := Lib.hid (fun W => sends_of 0 h q true (by rfl) W)
          have HTk := Lib.hid (fun W => tickI 0 h q nw T lo hi st hK ⟨by simp only; omega, by simp only; omega, by simp only; omega, by simp only; omega, by simp only; omega⟩ (by omega) (by omega) 0 h q false (by rw [LL.tick, if_pos (Or.inr ht)]) (by rw [decide_eq_true (Or.inr ht)]; rfl) W)
          have HSN := Lib.hid (fun W => sends_of 0 h q true (by rfl) W)
          have hX0_31 := hX0_30.alloc (.cells #[.bool rp, .int .i64 f, .int .i64 lt] 30)
          have hX1_31 := hX1_30.alloc (.cells #[.bool rp, .int .i64 f, .int .i64 lt] 30)
          have hX2_31 := hX2_30.alloc (.cells #[.bool rp, .int .i64 f, .int .i64 lt] 30)
          have hb31 := hb30.alloc (by have := hX0_30.lt; omega) (.cells #[.bool rp, .int .i64 f, .int .i64 lt] 30)
          have hX3_31 := at3_new 30 wr _ (.bool rp) (.int .i64 f) (.int .i64 lt) rfl
          have lt0_31 := hX0_30.lt
          have lt1_31 := hX1_30.lt
          have lt2_31 := hX2_30.lt
          go_upto_region 11 with fail
          generalize (wr.alloc (.cells #[.bool rp, .int .i64 f, .int .i64 lt] 30)) = w31 at hX0_31 hX1_31 hX2_31 hX3_31 hb31 ⊢
          generalize wr.heap.size = g3 at hX3_31 lt0_31 lt1_31 lt2_31 ⊢
          have hne30 : g3 ≠ g0 := by omega
          have hne03 : g0 ≠ g3 := by omega
          have hne31 : g3 ≠ g1 := by omega
          have hne13 : g1 ≠ g3 := by omega
          have hne32 : g3 ≠ g2 := by omega
          have hne23 : g2 ≠ g3 := by omega
          have hle3 : g0 ≤ g3 := by omega
          clear lt0_31 lt1_31 lt2_31
          obtain ⟨_, _, _, _⟩ := hX0_31.frees
          obtain ⟨_, _, _, _⟩ := hX0_31.cells
          obtain ⟨_, _, _, _⟩ := hX1_31.frees
          obtain ⟨_, _, _, _⟩ := hX1_31.cells
          obtain ⟨_, _, _⟩ := hX2_31.frees
          obtain ⟨_, _, _⟩ := hX2_31.cells
          obtain ⟨_, _, _⟩ := hX3_31.frees
          obtain ⟨_, _, _⟩ := hX3_31.cells
          go_wp2_with fail
          refine (HS1.out _).mono ?_
          rintro e w32 ⟨rfl, hk32⟩
          have hX0_32 := hX0_31.later hk32
          have hX1_32 := hX1_31.later hk32
          have hX2_32 := hX2_31.later hk32
          have hX3_32 := hX3_31.later hk32
          have hb32 := hb31.trans (hk32.mono (by have := hX0_31.lt; omega))
          obtain ⟨_, _, _, _⟩ := hX0_32.frees
          obtain ⟨_, _, _, _⟩ := hX0_32.cells
          obtain ⟨_, _, _, _⟩ := hX1_32.frees
          obtain ⟨_, _, _, _⟩ := hX1_32.cells
          obtain ⟨_, _, _⟩ := hX2_32.frees
          obtain ⟨_, _, _⟩ := hX2_32.cells
          obtain ⟨_, _, _⟩ := hX3_32.frees
          obtain ⟨_, _, _⟩ := hX3_32.cells
          go_upto_region 13 with fail
          clear hnw
          go_wp2_with fail
          refine (HTk.out _).mono ?_
          rintro e w33 ⟨rfl, hk33⟩
          have hX0_33 := hX0_32.later hk33
          have hX1_33 := hX1_32.later hk33
          have hX2_33 := hX2_32.later hk33
          have hX3_33 := hX3_32.later hk33
          have hb33 := hb32.trans (hk33.mono (by have := hX0_32.lt; omega))
          obtain ⟨_, _, _, _⟩ := hX0_33.frees
          obtain ⟨_, _, _, _⟩ := hX0_33.cells
          obtain ⟨_, _, _, _⟩ := hX1_33.frees
          obtain ⟨_, _, _, _⟩ := hX1_33.cells
          obtain ⟨_, _, _⟩ := hX2_33.frees
          obtain ⟨_, _, _⟩ := hX2_33.cells
          obtain ⟨_, _, _⟩ := hX3_33.frees
          obtain ⟨_, _, _⟩ := hX3_33.cells
          have hX0_34 := hX0_33.alloc (.cells #[.int .i64 0, .int .i64 h, .int .i64 q] 28)
          have hX1_34 := hX1_33.alloc (.cells #[.int .i64 0, .int .i64 h, .int .i64 q] 28)
          have hX2_34 := hX2_33.alloc (.cells #[.int .i64 0, .int .i64 h, .int .i64 q] 28)
          have hX3_34 := hX3_33.alloc (.cells #[.int .i64 0, .int .i64 h, .int .i64 q] 28)
          have hb34 := hb33.alloc (by have := hX0_33.lt; omega) (.cells #[.int .i64 0, .int .i64 h, .int .i64 q] 28)
          have hX4_34 := at3_new 28 w33 _ (.int .i64 0) (.int .i64 h) (.int .i64 q) rfl
          have lt0_34 := hX0_33.lt
          have lt1_34 := hX1_33.lt
          have lt2_34 := hX2_33.lt
          have lt3_34 := hX3_33.lt
          go_upto_region 14 with fail
          generalize (w33.alloc (.cells #[.int .i64 0, .int .i64 h, .int .i64 q] 28)) = w34 at hX0_34 hX1_34 hX2_34 hX3_34 hX4_34 hb34 ⊢
          generalize w33.heap.size = g4 at hX4_34 lt0_34 lt1_34 lt2_34 lt3_34 ⊢
          have hne40 : g4 ≠ g0 := by omega
          have hne04 : g0 ≠ g4 := by omega
          have hne41 : g4 ≠ g1 := by omega
          have hne14 : g1 ≠ g4 := by omega
          have hne42 : g4 ≠ g2 := by omega
          have hne24 : g2 ≠ g4 := by omega
          have hne43 : g4 ≠ g3 := by omega
          have hne34 : g3 ≠ g4 := by omega
          have hle4 : g0 ≤ g4 := by omega
          clear lt0_34 lt1_34 lt2_34 lt3_34
          obtain ⟨_, _, _, _⟩ := hX0_34.frees
          obtain ⟨_, _, _, _⟩ := hX0_34.cells
          obtain ⟨_, _, _, _⟩ := hX1_34.frees
          obtain ⟨_, _, _, _⟩ := hX1_34.cells
          obtain ⟨_, _, _⟩ := hX2_34.frees
          obtain ⟨_, _, _⟩ := hX2_34.cells
          obtain ⟨_, _, _⟩ := hX3_34.frees
          obtain ⟨_, _, _⟩ := hX3_34.cells
          obtain ⟨_, _, _⟩ := hX4_34.frees
          obtain ⟨_, _, _⟩ := hX4_34.cells
          go_wp2_with fail
          refine (HSN.out _).mono ?_
          rintro e w35 ⟨rfl, hk35⟩
          have hX0_35 := hX0_34.later hk35
          have hX1_35 := hX1_34.later hk35
          have hX2_35 := hX2_34.later hk35
          have hX3_35 := hX3_34.later hk35
          have hX4_35 := hX4_34.later hk35
          have hb35 := hb34.trans (hk35.mono (by have := hX0_34.lt; omega))
          obtain ⟨_, _, _, _⟩ := hX0_35.frees
          obtain ⟨_, _, _, _⟩ := hX0_35.cells
          obtain ⟨_, _, _, _⟩ := hX1_35.frees
          obtain ⟨_, _, _, _⟩ := hX1_35.cells
          obtain ⟨_, _, _⟩ := hX2_35.frees
          obtain ⟨_, _, _⟩ := hX2_35.cells
          obtain ⟨_, _, _⟩ := hX3_35.frees
          obtain ⟨_, _, _⟩ := hX3_35.cells
          obtain ⟨_, _, _⟩ := hX4_35.frees
          obtain ⟨_, _, _⟩ := hX4_35.cells
          go_wp2_with fail
          refine (HSN.out _).mono ?_
          rintro e w36 ⟨rfl, hk36⟩
          have hX0_36 := hX0_35.later hk36
          have hX1_36 := hX1_35.later hk36
          have hX2_36 := hX2_35.later hk36
          have hX3_36 := hX3_35.later hk36
          have hX4_36 := hX4_35.later hk36
          have hb36 := hb35.trans (hk36.mono (by have := hX0_35.lt; omega))
          obtain ⟨_, _, _, _⟩ := hX0_36.frees
          obtain ⟨_, _, _, _⟩ := hX0_36.cells
          obtain ⟨_, _, _, _⟩ := hX1_36.frees
          obtain ⟨_, _, _, _⟩ := hX1_36.cells
          obtain ⟨_, _, _⟩ := hX2_36.frees
          obtain ⟨_, _, _⟩ := hX2_36.cells
          obtain ⟨_, _, _⟩ := hX3_36.frees
          obtain ⟨_, _, _⟩ := hX3_36.cells
          obtain ⟨_, _, _⟩ := hX4_36.frees
          obtain ⟨_, _, _⟩ := hX4_36.cells
          go_upto_region 16 with fail
          go_upto_region 17 with fail
          have hX2_37 := at3_store hX2_36 (.int .i64 0) (.int .i64 h) (.int .i64 q)
          have ho37 := store3_only w36 g2 (.int .i64 0) (.int .i64 h) (.int .i64 q)
          have hX0_37 := hX0_36.only hne02 ho37
          have hX1_37 := hX1_36.only hne12 ho37
          have hX3_37 := hX3_36.only hne32 ho37
          have hX4_37 := hX4_36.only hne42 ho37
          have hb37 := hb36.trans (ho37.below hle2)
          generalize (((w36.setCell ⟨g2, 0, none⟩ (.int .i64 0)).setCell ⟨g2, 1, none⟩ (.int .i64 h)).setCell ⟨g2, 2, none⟩ (.int .i64 q)) = w37 at hX0_37 hX1_37 hX2_37 hX3_37 hX4_37 hb37 ⊢
          clear ho37
          obtain ⟨_, _, _, _⟩ := hX0_37.frees
          obtain ⟨_, _, _, _⟩ := hX0_37.cells
          obtain ⟨_, _, _, _⟩ := hX1_37.frees
          obtain ⟨_, _, _, _⟩ := hX1_37.cells
          obtain ⟨_, _, _⟩ := hX2_37.frees
          obtain ⟨_, _, _⟩ := hX2_37.cells
          obtain ⟨_, _, _⟩ := hX3_37.frees
          obtain ⟨_, _, _⟩ := hX3_37.cells
          obtain ⟨_, _, _⟩ := hX4_37.frees
          obtain ⟨_, _, _⟩ := hX4_37.cells
          cases rp
          · skip
            go_wp2_with fail
            go_roundw
            case rel => exact ⟨k + 1, 0, h, q, nw, row, by omega, by omega, by go_num, rfl, rfl, rfl, by omega, by omega, by omega, by omega, by omega, by omega, by omega, by omega, fun hh => by first | omega | exact hqr (by omega) | exact absurd rfl hh, hX0_37, hX1_37, hX2_37, hb37⟩
            case measure => simp [intOf]; omega
          · skip
            obtain ⟨ff, hff⟩ : ∃ z, f % 256 = z := ⟨_, rfl⟩
            have f0 : 0 ≤ ff := by omega
            have f1 : ff ≤ 255 := by omega
            have HS2 := Lib.hid (fun W => sends_of 0 h q true (by rfl) W)
            go_upto_region 19 with fail
            clear hff
            go_cut [12, 16] (fun y z wx => y = .bool true ∧ z = .int .i64 0 ∧ At4 23 wx g0 (.int .i64 c0) (.int .i64 c1) (.int .i64 c2) (.int .i64 c3) ∧ At4 23 wx g1 (.int .i64 T) (.int .i64 lo) (.int .i64 hi) (.int .i64 st) ∧ At3 28 wx g2 (.int .i64 0) (.int .i64 h) (.int .i64 q) ∧ Below g0 w wx)
            case first =>
              obtain ⟨_, _, _⟩ := hX2_37.drew.cells
              go_region_law (first | (go_simp; go_at_call 12; refine (HS2.out w37.drew).mono ?_; rintro e w40 ⟨rfl, hk40⟩; have hX0_40 := hX0_37.drew.later hk40; have hX1_40 := hX1_37.drew.later hk40; have hX2_40 := hX2_37.drew.later hk40; have hb40 : Below g0 w w40 := hb37.drew.trans (hk40.mono (by have := hX0_37.lt; show g0 ≤ w37.heap.size; omega)); obtain ⟨_, _, _⟩ := hX2_40.cells))
              all_goals
                go_wp2_with fail
                go_meet
                exact ⟨rfl, rfl, hX0_40, hX1_40, hX2_40, hb40⟩
            case rest =>
            obtain ⟨rfl, rfl, hX0_41, hX1_41, hX2_41, hb41⟩ := hcut
            clear hX0_37 hX1_37 hX2_37 hX3_37 hX4_37 hb37 HS2
            rename World => w41
            obtain ⟨_, _, _, _⟩ := hX0_41.frees
            obtain ⟨_, _, _, _⟩ := hX0_41.cells
            obtain ⟨_, _, _, _⟩ := hX1_41.frees
            obtain ⟨_, _, _, _⟩ := hX1_41.cells
            obtain ⟨_, _, _⟩ := hX2_41.frees
            obtain ⟨_, _, _⟩ := hX2_41.cells
            by_cases hf : ff ≤ lo
            · have hff2 : ff ≤ hi := by omega
              have HR := Lib.hid (fun (W : World) (hb : Below w.heap.size w W) => repI 0 h q ff nw T lo hi st hK ⟨by simp only; omega, by simp only; omega, by simp only; omega, by simp only; omega, by simp only; omega⟩ (by omega) (by omega) 1 0 (by simp [LL.rep, hf, bLow]) W (HTB.out W hb))
              have HS3 := Lib.hid (fun W => sends_of 1 nw 0 true (by rfl) W)
              go_upto_region 24 with fail
              go_wp2_with fail
              refine (HR.out _ (by rw [HG.out]; exact hb41)).mono ?_
              rintro e w42 ⟨rfl, hk42⟩
              have hX0_42 := hX0_41.later hk42
              have hX1_42 := hX1_41.later hk42
              have hX2_42 := hX2_41.later hk42
              have hb42 := hb41.trans (hk42.mono (by have := hX0_41.lt; omega))
              obtain ⟨_, _, _, _⟩ := hX0_42.frees
              obtain ⟨_, _, _, _⟩ := hX0_42.cells
              obtain ⟨_, _, _, _⟩ := hX1_42.frees
              obtain ⟨_, _, _, _⟩ := hX1_42.cells
              obtain ⟨_, _, _⟩ := hX2_42.frees
              obtain ⟨_, _, _⟩ := hX2_42.cells
              go_upto_region 25 with fail
              have hX2_43 := at3_store hX2_42 (.int .i64 1) (.int .i64 nw) (.int .i64 0)
              have ho43 := store3_only w42 g2 (.int .i64 1) (.int .i64 nw) (.int .i64 0)
              have hX0_43 := hX0_42.only hne02 ho43
              have hX1_43 := hX1_42.only hne12 ho43
              have hb43 := hb42.trans (ho43.below hle2)
              generalize (((w42.setCell ⟨g2, 0, none⟩ (.int .i64 1)).setCell ⟨g2, 1, none⟩ (.int .i64 nw)).setCell ⟨g2, 2, none⟩ (.int .i64 0)) = w43 at hX0_43 hX1_43 hX2_43 hb43 ⊢
              clear ho43
              obtain ⟨_, _, _, _⟩ := hX0_43.frees
              obtain ⟨_, _, _, _⟩ := hX0_43.cells
              obtain ⟨_, _, _, _⟩ := hX1_43.frees
              obtain ⟨_, _, _, _⟩ := hX1_43.cells
              obtain ⟨_, _, _⟩ := hX2_43.frees
              obtain ⟨_, _, _⟩ := hX2_43.cells
              go_upto_region 26 with fail
              go_wp2_with fail
              refine (HS3.out _).mono ?_
              rintro e w44 ⟨rfl, hk44⟩
              have hX0_44 := hX0_43.later hk44
              have hX1_44 := hX1_43.later hk44
              have hX2_44 := hX2_43.later hk44
              have hb44 := hb43.trans (hk44.mono (by have := hX0_43.lt; omega))
              obtain ⟨_, _, _, _⟩ := hX0_44.frees
              obtain ⟨_, _, _, _⟩ := hX0_44.cells
              obtain ⟨_, _, _, _⟩ := hX1_44.frees
              obtain ⟨_, _, _, _⟩ := hX1_44.cells
              obtain ⟨_, _, _⟩ := hX2_44.frees
              obtain ⟨_, _, _⟩ := hX2_44.cells
              go_upto_region 28 with fail
              go_wp2_with fail
              refine (HS3.out _).mono ?_
              rintro e w45 ⟨rfl, hk45⟩
              have hX0_45 := hX0_44.later hk45
              have hX1_45 := hX1_44.later hk45
              have hX2_45 := hX2_44.later hk45
              have hb45 := hb44.trans (hk45.mono (by have := hX0_44.lt; omega))
              obtain ⟨_, _, _, _⟩ := hX0_45.frees
              obtain ⟨_, _, _, _⟩ := hX0_45.cells
              obtain ⟨_, _, _, _⟩ := hX1_45.frees
              obtain ⟨_, _, _, _⟩ := hX1_45.cells
              obtain ⟨_, _, _⟩ := hX2_45.frees
              obtain ⟨_, _, _⟩ := hX2_45.cells
              go_wp2_with fail
              go_roundw
              case rel => exact ⟨k + 1, 1, nw, 0, nw, 0, by omega, by omega, by go_num, rfl, rfl, rfl, by omega, by omega, by omega, by omega, by omega, by omega, by omega, by omega, fun _ => by omega, hX0_45, hX1_45, hX2_45, hb45⟩
              case measure => simp [intOf]; omega
            have hlf : lo < ff := by omega
            by_cases hg : hi < ff
            · have hrw : IntKind.i64.wrap (row + 1) = row + 1 := IntWalk.i64_in _ ⟨by omega, by omega⟩
              by_cases hkk : st - 1 ≤ q
              · have hst : st ≤ row + 1 := by omega
                have HR := Lib.hid (fun (W : World) (hb : Below w.heap.size w W) => repI 0 h q ff nw T lo hi st hK ⟨by simp only; omega, by simp only; omega, by simp only; omega, by simp only; omega, by simp only; omega⟩ (by omega) (by omega) 3 0 (by rw [LL.rep, if_neg (by simp only; omega), if_pos hg, if_pos (Or.inr hkk)]) W (HTB.out W hb))
                have HS3 := Lib.hid (fun W => sends_of 3 nw 0 false (by rfl) W)
                go_upto_region 24 with fail
                go_wp2_with fail
                refine (HR.out _ (by rw [HG.out]; exact hb41)).mono ?_
                rintro e w42 ⟨rfl, hk42⟩
                have hX0_42 := hX0_41.later hk42
                have hX1_42 := hX1_41.later hk42
                have hX2_42 := hX2_41.later hk42
                have hb42 := hb41.trans (hk42.mono (by have := hX0_41.lt; omega))
                obtain ⟨_, _, _, _⟩ := hX0_42.frees
                obtain ⟨_, _, _, _⟩ := hX0_42.cells
                obtain ⟨_, _, _, _⟩ := hX1_42.frees
                obtain ⟨_, _, _, _⟩ := hX1_42.cells
                obtain ⟨_, _, _⟩ := hX2_42.frees
                obtain ⟨_, _, _⟩ := hX2_42.cells
                go_upto_region 25 with fail
                have hX2_43 := at3_store hX2_42 (.int .i64 3) (.int .i64 nw) (.int .i64 0)
                have ho43 := store3_only w42 g2 (.int .i64 3) (.int .i64 nw) (.int .i64 0)
                have hX0_43 := hX0_42.only hne02 ho43
                have hX1_43 := hX1_42.only hne12 ho43
                have hb43 := hb42.trans (ho43.below hle2)
                generalize (((w42.setCell ⟨g2, 0, none⟩ (.int .i64 3)).setCell ⟨g2, 1, none⟩ (.int .i64 nw)).setCell ⟨g2, 2, none⟩ (.int .i64 0)) = w43 at hX0_43 hX1_43 hX2_43 hb43 ⊢
                clear ho43
                obtain ⟨_, _, _, _⟩ := hX0_43.frees
                obtain ⟨_, _, _, _⟩ := hX0_43.cells
                obtain ⟨_, _, _, _⟩ := hX1_43.frees
                obtain ⟨_, _, _, _⟩ := hX1_43.cells
                obtain ⟨_, _, _⟩ := hX2_43.frees
                obtain ⟨_, _, _⟩ := hX2_43.cells
                go_upto_region 26 with fail
                go_wp2_with fail
                refine (HS3.out _).mono ?_
                rintro e w44 ⟨rfl, hk44⟩
                have hX0_44 := hX0_43.later hk44
                have hX1_44 := hX1_43.later hk44
                have hX2_44 := hX2_43.later hk44
                have hb44 := hb43.trans (hk44.mono (by have := hX0_43.lt; omega))
                obtain ⟨_, _, _, _⟩ := hX0_44.frees
                obtain ⟨_, _, _, _⟩ := hX0_44.cells
                obtain ⟨_, _, _, _⟩ := hX1_44.frees
                obtain ⟨_, _, _, _⟩ := hX1_44.cells
                obtain ⟨_, _, _⟩ := hX2_44.frees
                obtain ⟨_, _, _⟩ := hX2_44.cells
                go_upto_region 28 with fail
                go_wp2_with fail
                refine (HS3.out _).mono ?_
                rintro e w45 ⟨rfl, hk45⟩
                have hX0_45 := hX0_44.later hk45
                have hX1_45 := hX1_44.later hk45
                have hX2_45 := hX2_44.later hk45
                have hb45 := hb44.trans (hk45.mono (by have := hX0_44.lt; omega))
                obtain ⟨_, _, _, _⟩ := hX0_45.frees
                obtain ⟨_, _, _, _⟩ := hX0_45.cells
                obtain ⟨_, _, _, _⟩ := hX1_45.frees
                obtain ⟨_, _, _, _⟩ := hX1_45.cells
                obtain ⟨_, _, _⟩ := hX2_45.frees
                obtain ⟨_, _, _⟩ := hX2_45.cells
                go_wp2_with fail
                go_roundw
                case rel => exact ⟨k + 1, 3, nw, 0, nw, 0, by omega, by omega, by go_num, rfl, rfl, rfl, by omega, by omega, by omega, by omega, by omega, by omega, by omega, by omega, fun h => absurd rfl h, hX0_45, hX1_45, hX2_45, hb45⟩
                case measure => simp [intOf]; omega
              · skip
                have HR := Lib.hid (fun (W : World) (hb : Below w.heap.size w W) => repI 0 h q ff nw T lo hi st hK ⟨by simp only; omega, by simp only; omega, by simp only; omega, by simp only; omega, by simp only; omega⟩ (by omega) (by omega) 0 (q + 1) (by rw [LL.rep, if_neg (by simp only; omega), if_pos hg, if_neg (by simp only; omega)]; rfl) W (HTB.out W hb))
                have HS3 := Lib.hid (fun W => sends_of 0 nw (q + 1) true (by rfl) W)
                go_upto_region 24 with fail
                go_wp2_with fail
                refine (HR.out _ (by rw [HG.out]; exact hb41)).mono ?_
                rintro e w42 ⟨rfl, hk42⟩
                have hX0_42 := hX0_41.later hk42
                have hX1_42 := hX1_41.later hk42
                have hX2_42 := hX2_41.later hk42
                have hb42 := hb41.trans (hk42.mono (by have := hX0_41.lt; omega))
                obtain ⟨_, _, _, _⟩ := hX0_42.frees
                obtain ⟨_, _, _, _⟩ := hX0_42.cells
                obtain ⟨_, _, _, _⟩ := hX1_42.frees
                obtain ⟨_, _, _, _⟩ := hX1_42.cells
                obtain ⟨_, _, _⟩ := hX2_42.frees
                obtain ⟨_, _, _⟩ := hX2_42.cells
                go_upto_region 25 with fail
                have hX2_43 := at3_store hX2_42 (.int .i64 0) (.int .i64 nw) (.int .i64 (q + 1))
                have ho43 := store3_only w42 g2 (.int .i64 0) (.int .i64 nw) (.int .i64 (q + 1))
                have hX0_43 := hX0_42.only hne02 ho43
                have hX1_43 := hX1_42.only hne12 ho43
                have hb43 := hb42.trans (ho43.below hle2)
                generalize (((w42.setCell ⟨g2, 0, none⟩ (.int .i64 0)).setCell ⟨g2, 1, none⟩ (.int .i64 nw)).setCell ⟨g2, 2, none⟩ (.int .i64 (q + 1))) = w43 at hX0_43 hX1_43 hX2_43 hb43 ⊢
                clear ho43
                obtain ⟨_, _, _, _⟩ := hX0_43.frees
                obtain ⟨_, _, _, _⟩ := hX0_43.cells
                obtain ⟨_, _, _, _⟩ := hX1_43.frees
                obtain ⟨_, _, _, _⟩ := hX1_43.cells
                obtain ⟨_, _, _⟩ := hX2_43.frees
                obtain ⟨_, _, _⟩ := hX2_43.cells
                go_upto_region 26 with fail
                go_wp2_with fail
                refine (HS3.out _).mono ?_
                rintro e w44 ⟨rfl, hk44⟩
                have hX0_44 := hX0_43.later hk44
                have hX1_44 := hX1_43.later hk44
                have hX2_44 := hX2_43.later hk44
                have hb44 := hb43.trans (hk44.mono (by have := hX0_43.lt; omega))
                obtain ⟨_, _, _, _⟩ := hX0_44.frees
                obtain ⟨_, _, _, _⟩ := hX0_44.cells
                obtain ⟨_, _, _, _⟩ := hX1_44.frees
                obtain ⟨_, _, _, _⟩ := hX1_44.cells
                obtain ⟨_, _, _⟩ := hX2_44.frees
                obtain ⟨_, _, _⟩ := hX2_44.cells
                go_upto_region 28 with fail
                go_wp2_with fail
                refine (HS3.out _).mono ?_
                rintro e w45 ⟨rfl, hk45⟩
                have hX0_45 := hX0_44.later hk45
                have hX1_45 := hX1_44.later hk45
                have hX2_45 := hX2_44.later hk45
                have hb45 := hb44.trans (hk45.mono (by have := hX0_44.lt; omega))
                obtain ⟨_, _, _, _⟩ := hX0_45.frees
                obtain ⟨_, _, _, _⟩ := hX0_45.cells
                obtain ⟨_, _, _, _⟩ := hX1_45.frees
                obtain ⟨_, _, _, _⟩ := hX1_45.cells
                obtain ⟨_, _, _⟩ := hX2_45.frees
                obtain ⟨_, _, _⟩ := hX2_45.cells
                go_wp2_with fail
                go_roundw
                case rel => exact ⟨k + 1, 0, nw, (q + 1), nw, (row + 1), by omega, by omega, by go_num, rfl, rfl, rfl, by omega, by omega, by omega, by omega, by omega, by omega, by omega, by omega, fun _ => by omega, hX0_45, hX1_45, hX2_45, hb45⟩
                case measure => simp [intOf]; omega
            · have hgh : ff ≤ hi := by omega
              have HR := Lib.hid (fun (W : World) (hb : Below w.heap.size w W) => repI 0 h q ff nw T lo hi st hK ⟨by simp only; omega, by simp only; omega, by simp only; omega, by simp only; omega, by simp only; omega⟩ (by omega) (by omega) 0 q (by rw [LL.rep, if_neg (by simp only; omega), if_neg (by simp only; omega)]) W (HTB.out W hb))
              have HS3 := Lib.hid (fun W => sends_of 0 nw q true (by rfl) W)
              go_upto_region 24 with fail
              go_wp2_with fail
              refine (HR.out _ (by rw [HG.out]; exact hb41)).mono ?_
              rintro e w42 ⟨rfl, hk42⟩
              have hX0_42 := hX0_41.later hk42
              have hX1_42 := hX1_41.later hk42
              have hX2_42 := hX2_41.later hk42
              have hb42 := hb41.trans (hk42.mono (by have := hX0_41.lt; omega))
              obtain ⟨_, _, _, _⟩ := hX0_42.frees
              obtain ⟨_, _, _, _⟩ := hX0_42.cells
              obtain ⟨_, _, _, _⟩ := hX1_42.frees
              obtain ⟨_, _, _, _⟩ := hX1_42.cells
              obtain ⟨_, _, _⟩ := hX2_42.frees
              obtain ⟨_, _, _⟩ := hX2_42.cells
              go_upto_region 25 with fail
              have hX2_43 := at3_store hX2_42 (.int .i64 0) (.int .i64 nw) (.int .i64 q)
              have ho43 := store3_only w42 g2 (.int .i64 0) (.int .i64 nw) (.int .i64 q)
              have hX0_43 := hX0_42.only hne02 ho43
              have hX1_43 := hX1_42.only hne12 ho43
              have hb43 := hb42.trans (ho43.below hle2)
              generalize (((w42.setCell ⟨g2, 0, none⟩ (.int .i64 0)).setCell ⟨g2, 1, none⟩ (.int .i64 nw)).setCell ⟨g2, 2, none⟩ (.int .i64 q)) = w43 at hX0_43 hX1_43 hX2_43 hb43 ⊢
              clear ho43
              obtain ⟨_, _, _, _⟩ := hX0_43.frees
              obtain ⟨_, _, _, _⟩ := hX0_43.cells
              obtain ⟨_, _, _, _⟩ := hX1_43.frees
              obtain ⟨_, _, _, _⟩ := hX1_43.cells
              obtain ⟨_, _, _⟩ := hX2_43.frees
              obtain ⟨_, _, _⟩ := hX2_43.cells
              go_upto_region 26 with fail
              go_wp2_with fail
              refine (HS3.out _).mono ?_
              rintro e w44 ⟨rfl, hk44⟩
              have hX0_44 := hX0_43.later hk44
              have hX1_44 := hX1_43.later hk44
              have hX2_44 := hX2_43.later hk44
              have hb44 := hb43.trans (hk44.mono (by have := hX0_43.lt; omega))
              obtain ⟨_, _, _, _⟩ := hX0_44.frees
              obtain ⟨_, _, _, _⟩ := hX0_44.cells
              obtain ⟨_, _, _, _⟩ := hX1_44.frees
              obtain ⟨_, _, _, _⟩ := hX1_44.cells
              obtain ⟨_, _, _⟩ := hX2_44.frees
              obtain ⟨_, _, _⟩ := hX2_44.cells
              go_upto_region 28 with fail
              go_wp2_with fail
              refine (HS3.out _).mono ?_
              rintro e w45 ⟨rfl, hk45⟩
              have hX0_45 := hX0_44.later hk45
              have hX1_45 := hX1_44.later hk45
              have hX2_45 := hX2_44.later hk45
              have hb45 := hb44.trans (hk45.mono (by have := hX0_44.lt; omega))
              obtain ⟨_, _, _, _⟩ := hX0_45.frees
              obtain ⟨_, _, _, _⟩ := hX0_45.cells
              obtain ⟨_, _, _, _⟩ := hX1_45.frees
              obtain ⟨_, _, _, _⟩ := hX1_45.cells
              obtain ⟨_, _, _⟩ := hX2_45.frees
              obtain ⟨_, _, _⟩ := hX2_45.cells
              go_wp2_with fail
              go_roundw
              case rel => exact ⟨k + 1, 0, nw, q, nw, row, by omega, by omega, by go_num, rfl, rfl, rfl, by omega, by omega, by omega, by omega, by omega, by omega, by omega, by omega, fun _ => by omega, hX0_45, hX1_45, hX2_45, hb45⟩
              case measure => simp [intOf]; omega
      · skip
        as_aux_lemma =>
          have HS1 := Lib.hid (fun W => sends_of 1 h q true (by rfl) W)
          have HTk := Lib.hid (fun W => tickI 1 h q nw T lo hi st hK ⟨by simp only; omega, by simp only; omega, by simp only; omega, by simp only; omega, by simp only; omega⟩ (by omega) (by omega) 1 h q false (by rw [LL.tick, if_pos (Or.inr ht)]) (by rw [decide_eq_true (Or.inr ht)]; rfl) W)
          have HSN := Lib.hid (fun W => sends_of 1 h q true (by rfl) W)
          have hX0_31 := hX0_30.alloc (.cells #[.bool rp, .int .i64 f, .int .i64 lt] 30)
          have hX1_31 := hX1_30.alloc (.cells #[.bool rp, .int .i64 f, .int .i64 lt] 30)
          have hX2_31 := hX2_30.alloc (.cells #[.bool rp, .int .i64 f, .int .i64 lt] 30)
          have hb31 := hb30.alloc (by have := hX0_30.lt; omega) (.cells #[.bool rp, .int .i64 f, .int .i64 lt] 30)
          have hX3_31 := at3_new 30 wr _ (.bool rp) (.int .i64 f) (.int .i64 lt) rfl
          have lt0_31 := hX0_30.lt
          have lt1_31 := hX1_30.lt
          have lt2_31 := hX2_30.lt
          go_upto_region 11 with fail
          generalize (wr.alloc (.cells #[.bool rp, .int .i64 f, .int .i64 lt] 30)) = w31 at hX0_31 hX1_31 hX2_31 hX3_31 hb31 ⊢
          generalize wr.heap.size = g3 at hX3_31 lt0_31 lt1_31 lt2_31 ⊢
          have hne30 : g3 ≠ g0 := by omega
          have hne03 : g0 ≠ g3 := by omega
          have hne31 : g3 ≠ g1 := by omega
          have hne13 : g1 ≠ g3 := by omega
          have hne32 : g3 ≠ g2 := by omega
          have hne23 : g2 ≠ g3 := by omega
          have hle3 : g0 ≤ g3 := by omega
          clear lt0_31 lt1_31 lt2_31
          obtain ⟨_, _, _, _⟩ := hX0_31.frees
          obtain ⟨_, _, _, _⟩ := hX0_31.cells
          obtain ⟨_, _, _, _⟩ := hX1_31.frees
          obtain ⟨_, _, _, _⟩ := hX1_31.cells
          obtain ⟨_, _, _⟩ := hX2_31.frees
          obtain ⟨_, _, _⟩ := hX2_31.cells
          obtain ⟨_, _, _⟩ := hX3_31.frees
          obtain ⟨_, _, _⟩ := hX3_31.cells
          go_wp2_with fail
          refine (HS1.out _).mono ?_
          rintro e w32 ⟨rfl, hk32⟩
          have hX0_32 := hX0_31.later hk32
          have hX1_32 := hX1_31.later hk32
          have hX2_32 := hX2_31.later hk32
          have hX3_32 := hX3_31.later hk32
          have hb32 := hb31.trans (hk32.mono (by have := hX0_31.lt; omega))
          obtain ⟨_, _, _, _⟩ := hX0_32.frees
          obtain ⟨_, _, _, _⟩ := hX0_32.cells
          obtain ⟨_, _, _, _⟩ := hX1_32.frees
          obtain ⟨_, _, _, _⟩ := hX1_32.cells
          obtain ⟨_, _, _⟩ := hX2_32.frees
          obtain ⟨_, _, _⟩ := hX2_32.cells
          obtain ⟨_, _, _⟩ := hX3_32.frees
          obtain ⟨_, _, _⟩ := hX3_32.cells
          go_upto_region 13 with fail
          clear hnw
          go_wp2_with fail
          refine (HTk.out _).mono ?_
          rintro e w33 ⟨rfl, hk33⟩
          have hX0_33 := hX0_32.later hk33
          have hX1_33 := hX1_32.later hk33
          have hX2_33 := hX2_32.later hk33
          have hX3_33 := hX3_32.later hk33
          have hb33 := hb32.trans (hk33.mono (by have := hX0_32.lt; omega))
          obtain ⟨_, _, _, _⟩ := hX0_33.frees
          obtain ⟨_, _, _, _⟩ := hX0_33.cells
          obtain ⟨_, _, _, _⟩ := hX1_33.frees
          obtain ⟨_, _, _, _⟩ := hX1_33.cells
          obtain ⟨_, _, _⟩ := hX2_33.frees
          obtain ⟨_, _, _⟩ := hX2_33.cells
          obtain ⟨_, _, _⟩ := hX3_33.frees
          obtain ⟨_, _, _⟩ := hX3_33.cells
          have hX0_34 := hX0_33.alloc (.cells #[.int .i64 1, .int .i64 h, .int .i64 q] 28)
          have hX1_34 := hX1_33.alloc (.cells #[.int .i64 1, .int .i64 h, .int .i64 q] 28)
          have hX2_34 := hX2_33.alloc (.cells #[.int .i64 1, .int .i64 h, .int .i64 q] 28)
          have hX3_34 := hX3_33.alloc (.cells #[.int .i64 1, .int .i64 h, .int .i64 q] 28)
          have hb34 := hb33.alloc (by have := hX0_33.lt; omega) (.cells #[.int .i64 1, .int .i64 h, .int .i64 q] 28)
          have hX4_34 := at3_new 28 w33 _ (.int .i64 1) (.int .i64 h) (.int .i64 q) rfl
          have lt0_34 := hX0_33.lt
          have lt1_34 := hX1_33.lt
          have lt2_34 := hX2_33.lt
          have lt3_34 := hX3_33.lt
          go_upto_region 14 with fail
          generalize (w33.alloc (.cells #[.int .i64 1, .int .i64 h, .int .i64 q] 28)) = w34 at hX0_34 hX1_34 hX2_34 hX3_34 hX4_34 hb34 ⊢
          generalize w33.heap.size = g4 at hX4_34 lt0_34 lt1_34 lt2_34 lt3_34 ⊢
          have hne40 : g4 ≠ g0 := by omega
          have hne04 : g0 ≠ g4 := by omega
          have hne41 : g4 ≠ g1 := by omega
          have hne14 : g1 ≠ g4 := by omega
          have hne42 : g4 ≠ g2 := by omega
          have hne24 : g2 ≠ g4 := by omega
          have hne43 : g4 ≠ g3 := by omega
          have hne34 : g3 ≠ g4 := by omega
          have hle4 : g0 ≤ g4 := by omega
          clear lt0_34 lt1_34 lt2_34 lt3_34
          obtain ⟨_, _, _, _⟩ := hX0_34.frees
          obtain ⟨_, _, _, _⟩ := hX0_34.cells
          obtain ⟨_, _, _, _⟩ := hX1_34.frees
          obtain ⟨_, _, _, _⟩ := hX1_34.cells
          obtain ⟨_, _, _⟩ := hX2_34.frees
          obtain ⟨_, _, _⟩ := hX2_34.cells
          obtain ⟨_, _, _⟩ := hX3_34.frees
          obtain ⟨_, _, _⟩ := hX3_34.cells
          obtain ⟨_, _, _⟩ := hX4_34.frees
          obtain ⟨_, _, _⟩ := hX4_34.cells
          go_wp2_with fail
          refine (HSN.out _).mono ?_
          rintro e w35 ⟨rfl, hk35⟩
          have hX0_35 := hX0_34.later hk35
          have hX1_35 := hX1_34.later hk35
          have hX2_35 := hX2_34.later hk35
          have hX3_35 := hX3_34.later hk35
          have hX4_35 := hX4_34.later hk35
          have hb35 := hb34.trans (hk35.mono (by have := hX0_34.lt; omega))
          obtain ⟨_, _, _, _⟩ := hX0_35.frees
          obtain ⟨_, _, _, _⟩ := hX0_35.cells
          obtain ⟨_, _, _, _⟩ := hX1_35.frees
          obtain ⟨_, _, _, _⟩ := hX1_35.cells
          obtain ⟨_, _, _⟩ := hX2_35.frees
          obtain ⟨_, _, _⟩ := hX2_35.cells
          obtain ⟨_, _, _⟩ := hX3_35.frees
          obtain ⟨_, _, _⟩ := hX3_35.cells
          obtain ⟨_, _, _⟩ := hX4_35.frees
          obtain ⟨_, _, _⟩ := hX4_35.cells
          go_wp2_with fail
          refine (HSN.out _).mono ?_
          rintro e w36 ⟨rfl, hk36⟩
          have hX0_36 := hX0_35.later hk36
          have hX1_36 := hX1_35.later hk36
          have hX2_36 := hX2_35.later hk36
          have hX3_36 := hX3_35.later hk36
          have hX4_36 := hX4_35.later hk36
          have hb36 := hb35.trans (hk36.mono (by have := hX0_35.lt; omega))
          obtain ⟨_, _, _, _⟩ := hX0_36.frees
          obtain ⟨_, _, _, _⟩ := hX0_36.cells
          obtain ⟨_, _, _, _⟩ := hX1_36.frees
          obtain ⟨_, _, _, _⟩ := hX1_36.cells
          obtain ⟨_, _, _⟩ := hX2_36.frees
          obtain ⟨_, _, _⟩ := hX2_36.cells
          obtain ⟨_, _, _⟩ := hX3_36.frees
          obtain ⟨_, _, _⟩ := hX3_36.cells
          obtain ⟨_, _, _⟩ := hX4_36.frees
          obtain ⟨_, _, _⟩ := hX4_36.cells
          go_upto_region 16 with fail
          go_upto_region 17 with fail
          have hX2_37 := at3_store hX2_36 (.int .i64 1) (.int .i64 h) (.int .i64 q)
          have ho37 := store3_only w36 g2 (.int .i64 1) (.int .i64 h) (.int .i64 q)
          have hX0_37 := hX0_36.only hne02 ho37
          have hX1_37 := hX1_36.only hne12 ho37
          have hX3_37 := hX3_36.only hne32 ho37
          have hX4_37 := hX4_36.only hne42 ho37
          have hb37 := hb36.trans (ho37.below hle2)
          generalize (((w36.setCell ⟨g2, 0, none⟩ (.int .i64 1)).setCell ⟨g2, 1, none⟩ (.int .i64 h)).setCell ⟨g2, 2, none⟩ (.int .i64 q)) = w37 at hX0_37 hX1_37 hX2_37 hX3_37 hX4_37 hb37 ⊢
          clear ho37
          obtain ⟨_, _, _, _⟩ := hX0_37.frees
          obtain ⟨_, _, _, _⟩ := hX0_37.cells
          obtain ⟨_, _, _, _⟩ := hX1_37.frees
          obtain ⟨_, _, _, _⟩ := hX1_37.cells
          obtain ⟨_, _, _⟩ := hX2_37.frees
          obtain ⟨_, _, _⟩ := hX2_37.cells
          obtain ⟨_, _, _⟩ := hX3_37.frees
          obtain ⟨_, _, _⟩ := hX3_37.cells
          obtain ⟨_, _, _⟩ := hX4_37.frees
          obtain ⟨_, _, _⟩ := hX4_37.cells
          cases rp
          · skip
            go_wp2_with fail
            go_roundw
            case rel => exact ⟨k + 1, 1, h, q, nw, row, by omega, by omega, by go_num, rfl, rfl, rfl, by omega, by omega, by omega, by omega, by omega, by omega, by omega, by omega, fun hh => by first | omega | exact hqr (by omega) | exact absurd rfl hh, hX0_37, hX1_37, hX2_37, hb37⟩
            case measure => simp [intOf]; omega
          · skip
            obtain ⟨ff, hff⟩ : ∃ z, f % 256 = z := ⟨_, rfl⟩
            have f0 : 0 ≤ ff := by omega
            have f1 : ff ≤ 255 := by omega
            have HS2 := Lib.hid (fun W => sends_of 1 h q true (by rfl) W)
            go_upto_region 19 with fail
            clear hff
            go_cut [12, 16] (fun y z wx => y = .bool true ∧ z = .int .i64 1 ∧ At4 23 wx g0 (.int .i64 c0) (.int .i64 c1) (.int .i64 c2) (.int .i64 c3) ∧ At4 23 wx g1 (.int .i64 T) (.int .i64 lo) (.int .i64 hi) (.int .i64 st) ∧ At3 28 wx g2 (.int .i64 1) (.int .i64 h) (.int .i64 q) ∧ Below g0 w wx)
            case first =>
              obtain ⟨_, _, _⟩ := hX2_37.drew.cells
              go_region_law (first | (go_simp; go_at_call 12; refine (HS2.out w37.drew).mono ?_; rintro e w40 ⟨rfl, hk40⟩; have hX0_40 := hX0_37.drew.later hk40; have hX1_40 := hX1_37.drew.later hk40; have hX2_40 := hX2_37.drew.later hk40; have hb40 : Below g0 w w40 := hb37.drew.trans (hk40.mono (by have := hX0_37.lt; show g0 ≤ w37.heap.size; omega)); obtain ⟨_, _, _⟩ := hX2_40.cells))
              all_goals
                go_wp2_with fail
                go_meet
                exact ⟨rfl, rfl, hX0_40, hX1_40, hX2_40, hb40⟩
            case rest =>
            obtain ⟨rfl, rfl, hX0_41, hX1_41, hX2_41, hb41⟩ := hcut
            clear hX0_37 hX1_37 hX2_37 hX3_37 hX4_37 hb37 HS2
            rename World => w41
            obtain ⟨_, _, _, _⟩ := hX0_41.frees
            obtain ⟨_, _, _, _⟩ := hX0_41.cells
            obtain ⟨_, _, _, _⟩ := hX1_41.frees
            obtain ⟨_, _, _, _⟩ := hX1_41.cells
            obtain ⟨_, _, _⟩ := hX2_41.frees
            obtain ⟨_, _, _⟩ := hX2_41.cells
            by_cases hf : ff ≤ lo
            · have hff2 : ff ≤ hi := by omega
              have HR := Lib.hid (fun (W : World) (hb : Below w.heap.size w W) => repI 1 h q ff nw T lo hi st hK ⟨by simp only; omega, by simp only; omega, by simp only; omega, by simp only; omega, by simp only; omega⟩ (by omega) (by omega) 1 0 (by simp [LL.rep, hf, bLow]) W (HTB.out W hb))
              have HS3 := Lib.hid (fun W => sends_of 1 nw 0 true (by rfl) W)
              go_upto_region 24 with fail
              go_wp2_with fail
              refine (HR.out _ (by rw [HG.out]; exact hb41)).mono ?_
              rintro e w42 ⟨rfl, hk42⟩
              have hX0_42 := hX0_41.later hk42
              have hX1_42 := hX1_41.later hk42
              have hX2_42 := hX2_41.later hk42
              have hb42 := hb41.trans (hk42.mono (by have := hX0_41.lt; omega))
              obtain ⟨_, _, _, _⟩ := hX0_42.frees
              obtain ⟨_, _, _, _⟩ := hX0_42.cells
              obtain ⟨_, _, _, _⟩ := hX1_42.frees
              obtain ⟨_, _, _, _⟩ := hX1_42.cells
              obtain ⟨_, _, _⟩ := hX2_42.frees
              obtain ⟨_, _, _⟩ := hX2_42.cells
              go_upto_region 25 with fail
              have hX2_43 := at3_store hX2_42 (.int .i64 1) (.int .i64 nw) (.int .i64 0)
              have ho43 := store3_only w42 g2 (.int .i64 1) (.int .i64 nw) (.int .i64 0)
              have hX0_43 := hX0_42.only hne02 ho43
              have hX1_43 := hX1_42.only hne12 ho43
              have hb43 := hb42.trans (ho43.below hle2)
              generalize (((w42.setCell ⟨g2, 0, none⟩ (.int .i64 1)).setCell ⟨g2, 1, none⟩ (.int .i64 nw)).setCell ⟨g2, 2, none⟩ (.int .i64 0)) = w43 at hX0_43 hX1_43 hX2_43 hb43 ⊢
              clear ho43
              obtain ⟨_, _, _, _⟩ := hX0_43.frees
              obtain ⟨_, _, _, _⟩ := hX0_43.cells
              obtain ⟨_, _, _, _⟩ := hX1_43.frees
              obtain ⟨_, _, _, _⟩ := hX1_43.cells
              obtain ⟨_, _, _⟩ := hX2_43.frees
              obtain ⟨_, _, _⟩ := hX2_43.cells
              go_upto_region 26 with fail
              go_wp2_with fail
              refine (HS3.out _).mono ?_
              rintro e w44 ⟨rfl, hk44⟩
              have hX0_44 := hX0_43.later hk44
              have hX1_44 := hX1_43.later hk44
              have hX2_44 := hX2_43.later hk44
              have hb44 := hb43.trans (hk44.mono (by have := hX0_43.lt; omega))
              obtain ⟨_, _, _, _⟩ := hX0_44.frees
              obtain ⟨_, _, _, _⟩ := hX0_44.cells
              obtain ⟨_, _, _, _⟩ := hX1_44.frees
              obtain ⟨_, _, _, _⟩ := hX1_44.cells
              obtain ⟨_, _, _⟩ := hX2_44.frees
              obtain ⟨_, _, _⟩ := hX2_44.cells
              go_upto_region 28 with fail
              go_wp2_with fail
              refine (HS3.out _).mono ?_
              rintro e w45 ⟨rfl, hk45⟩
              have hX0_45 := hX0_44.later hk45
              have hX1_45 := hX1_44.later hk45
              have hX2_45 := hX2_44.later hk45
              have hb45 := hb44.trans (hk45.mono (by have := hX0_44.lt; omega))
              obtain ⟨_, _, _, _⟩ := hX0_45.frees
              obtain ⟨_, _, _, _⟩ := hX0_45.cells
              obtain ⟨_, _, _, _⟩ := hX1_45.frees
              obtain ⟨_, _, _, _⟩ := hX1_45.cells
              obtain ⟨_, _, _⟩ := hX2_45.frees
              obtain ⟨_, _, _⟩ := hX2_45.cells
              go_wp2_with fail
              go_roundw
              case rel => exact ⟨k + 1, 1, nw, 0, nw, 0, by omega, by omega, by go_num, rfl, rfl, rfl, by omega, by omega, by omega, by omega, by omega, by omega, by omega, by omega, fun _ => by omega, hX0_45, hX1_45, hX2_45, hb45⟩
              case measure => simp [intOf]; omega
            have hlf : lo < ff := by omega
            by_cases hg : hi < ff
            · have hrw : IntKind.i64.wrap (row + 1) = row + 1 := IntWalk.i64_in _ ⟨by omega, by omega⟩
              by_cases hkk : st - 1 ≤ q
              · have hst : st ≤ row + 1 := by omega
                have HR := Lib.hid (fun (W : World) (hb : Below w.heap.size w W) => repI 1 h q ff nw T lo hi st hK ⟨by simp only; omega, by simp only; omega, by simp only; omega, by simp only; omega, by simp only; omega⟩ (by omega) (by omega) 3 0 (by rw [LL.rep, if_neg (by simp only; omega), if_pos hg, if_pos (Or.inr hkk)]) W (HTB.out W hb))
                have HS3 := Lib.hid (fun W => sends_of 3 nw 0 false (by rfl) W)
                go_upto_region 24 with fail
                go_wp2_with fail
                refine (HR.out _ (by rw [HG.out]; exact hb41)).mono ?_
                rintro e w42 ⟨rfl, hk42⟩
                have hX0_42 := hX0_41.later hk42
                have hX1_42 := hX1_41.later hk42
                have hX2_42 := hX2_41.later hk42
                have hb42 := hb41.trans (hk42.mono (by have := hX0_41.lt; omega))
                obtain ⟨_, _, _, _⟩ := hX0_42.frees
                obtain ⟨_, _, _, _⟩ := hX0_42.cells
                obtain ⟨_, _, _, _⟩ := hX1_42.frees
                obtain ⟨_, _, _, _⟩ := hX1_42.cells
                obtain ⟨_, _, _⟩ := hX2_42.frees
                obtain ⟨_, _, _⟩ := hX2_42.cells
                go_upto_region 25 with fail
                have hX2_43 := at3_store hX2_42 (.int .i64 3) (.int .i64 nw) (.int .i64 0)
                have ho43 := store3_only w42 g2 (.int .i64 3) (.int .i64 nw) (.int .i64 0)
                have hX0_43 := hX0_42.only hne02 ho43
                have hX1_43 := hX1_42.only hne12 ho43
                have hb43 := hb42.trans (ho43.below hle2)
                generalize (((w42.setCell ⟨g2, 0, none⟩ (.int .i64 3)).setCell ⟨g2, 1, none⟩ (.int .i64 nw)).setCell ⟨g2, 2, none⟩ (.int .i64 0)) = w43 at hX0_43 hX1_43 hX2_43 hb43 ⊢
                clear ho43
                obtain ⟨_, _, _, _⟩ := hX0_43.frees
                obtain ⟨_, _, _, _⟩ := hX0_43.cells
                obtain ⟨_, _, _, _⟩ := hX1_43.frees
                obtain ⟨_, _, _, _⟩ := hX1_43.cells
                obtain ⟨_, _, _⟩ := hX2_43.frees
                obtain ⟨_, _, _⟩ := hX2_43.cells
                go_upto_region 26 with fail
                go_wp2_with fail
                refine (HS3.out _).mono ?_
                rintro e w44 ⟨rfl, hk44⟩
                have hX0_44 := hX0_43.later hk44
                have hX1_44 := hX1_43.later hk44
                have hX2_44 := hX2_43.later hk44
                have hb44 := hb43.trans (hk44.mono (by have := hX0_43.lt; omega))
                obtain ⟨_, _, _, _⟩ := hX0_44.frees
                obtain ⟨_, _, _, _⟩ := hX0_44.cells
                obtain ⟨_, _, _, _⟩ := hX1_44.frees
                obtain ⟨_, _, _, _⟩ := hX1_44.cells
                obtain ⟨_, _, _⟩ := hX2_44.frees
                obtain ⟨_, _, _⟩ := hX2_44.cells
                go_upto_region 28 with fail
                go_wp2_with fail
                refine (HS3.out _).mono ?_
                rintro e w45 ⟨rfl, hk45⟩
                have hX0_45 := hX0_44.later hk45
                have hX1_45 := hX1_44.later hk45
                have hX2_45 := hX2_44.later hk45
                have hb45 := hb44.trans (hk45.mono (by have := hX0_44.lt; omega))
                obtain ⟨_, _, _, _⟩ := hX0_45.frees
                obtain ⟨_, _, _, _⟩ := hX0_45.cells
                obtain ⟨_, _, _, _⟩ := hX1_45.frees
                obtain ⟨_, _, _, _⟩ := hX1_45.cells
                obtain ⟨_, _, _⟩ := hX2_45.frees
                obtain ⟨_, _, _⟩ := hX2_45.cells
                go_wp2_with fail
                go_roundw
                case rel => exact ⟨k + 1, 3, nw, 0, nw, 0, by omega, by omega, by go_num, rfl, rfl, rfl, by omega, by omega, by omega, by omega, by omega, by omega, by omega, by omega, fun h => absurd rfl h, hX0_45, hX1_45, hX2_45, hb45⟩
                case measure => simp [intOf]; omega
              · skip
                have HR := Lib.hid (fun (W : World) (hb : Below w.heap.size w W) => repI 1 h q ff nw T lo hi st hK ⟨by simp only; omega, by simp only; omega, by simp only; omega, by simp only; omega, by simp only; omega⟩ (by omega) (by omega) 2 (q + 1) (by rw [LL.rep, if_neg (by simp only; omega), if_pos hg, if_neg (by simp only; omega)]; rfl) W (HTB.out W hb))
                have HS3 := Lib.hid (fun W => sends_of 2 nw (q + 1) true (by rfl) W)
                go_upto_region 24 with fail
                go_wp2_with fail
                refine (HR.out _ (by rw [HG.out]; exact hb41)).mono ?_
                rintro e w42 ⟨rfl, hk42⟩
                have hX0_42 := hX0_41.later hk42
                have hX1_42 := hX1_41.later hk42
                have hX2_42 := hX2_41.later hk42
                have hb42 := hb41.trans (hk42.mono (by have := hX0_41.lt; omega))
                obtain ⟨_, _, _, _⟩ := hX0_42.frees
                obtain ⟨_, _, _, _⟩ := hX0_42.cells
                obtain ⟨_, _, _, _⟩ := hX1_42.frees
                obtain ⟨_, _, _, _⟩ := hX1_42.cells
                obtain ⟨_, _, _⟩ := hX2_42.frees
                obtain ⟨_, _, _⟩ := hX2_42.cells
                go_upto_region 25 with fail
                have hX2_43 := at3_store hX2_42 (.int .i64 2) (.int .i64 nw) (.int .i64 (q + 1))
                have ho43 := store3_only w42 g2 (.int .i64 2) (.int .i64 nw) (.int .i64 (q + 1))
                have hX0_43 := hX0_42.only hne02 ho43
                have hX1_43 := hX1_42.only hne12 ho43
                have hb43 := hb42.trans (ho43.below hle2)
                generalize (((w42.setCell ⟨g2, 0, none⟩ (.int .i64 2)).setCell ⟨g2, 1, none⟩ (.int .i64 nw)).setCell ⟨g2, 2, none⟩ (.int .i64 (q + 1))) = w43 at hX0_43 hX1_43 hX2_43 hb43 ⊢
                clear ho43
                obtain ⟨_, _, _, _⟩ := hX0_43.frees
                obtain ⟨_, _, _, _⟩ := hX0_43.cells
                obtain ⟨_, _, _, _⟩ := hX1_43.frees
                obtain ⟨_, _, _, _⟩ := hX1_43.cells
                obtain ⟨_, _, _⟩ := hX2_43.frees
                obtain ⟨_, _, _⟩ := hX2_43.cells
                go_upto_region 26 with fail
                go_wp2_with fail
                refine (HS3.out _).mono ?_
                rintro e w44 ⟨rfl, hk44⟩
                have hX0_44 := hX0_43.later hk44
                have hX1_44 := hX1_43.later hk44
                have hX2_44 := hX2_43.later hk44
                have hb44 := hb43.trans (hk44.mono (by have := hX0_43.lt; omega))
                obtain ⟨_, _, _, _⟩ := hX0_44.frees
                obtain ⟨_, _, _, _⟩ := hX0_44.cells
                obtain ⟨_, _, _, _⟩ := hX1_44.frees
                obtain ⟨_, _, _, _⟩ := hX1_44.cells
                obtain ⟨_, _, _⟩ := hX2_44.frees
                obtain ⟨_, _, _⟩ := hX2_44.cells
                go_upto_region 28 with fail
                go_wp2_with fail
                refine (HS3.out _).mono ?_
                rintro e w45 ⟨rfl, hk45⟩
                have hX0_45 := hX0_44.later hk45
                have hX1_45 := hX1_44.later hk45
                have hX2_45 := hX2_44.later hk45
                have hb45 := hb44.trans (hk45.mono (by have := hX0_44.lt; omega))
                obtain ⟨_, _, _, _⟩ := hX0_45.frees
                obtain ⟨_, _, _, _⟩ := hX0_45.cells
                obtain ⟨_, _, _, _⟩ := hX1_45.frees
                obtain ⟨_, _, _, _⟩ := hX1_45.cells
                obtain ⟨_, _, _⟩ := hX2_45.frees
                obtain ⟨_, _, _⟩ := hX2_45.cells
                go_wp2_with fail
                go_roundw
                case rel => exact ⟨k + 1, 2, nw, (q + 1), nw, (row + 1), by omega, by omega, by go_num, rfl, rfl, rfl, by omega, by omega, by omega, by omega, by omega, by omega, by omega, by omega, fun _ => by omega, hX0_45, hX1_45, hX2_45, hb45⟩
                case measure => simp [intOf]; omega
            · have hgh : ff ≤ hi := by omega
              have HR := Lib.hid (fun (W : World) (hb : Below w.heap.size w W) => repI 1 h q ff nw T lo hi st hK ⟨by simp only; omega, by simp only; omega, by simp only; omega, by simp only; omega, by simp only; omega⟩ (by omega) (by omega) 1 q (by rw [LL.rep, if_neg (by simp only; omega), if_neg (by simp only; omega)]) W (HTB.out W hb))
              have HS3 := Lib.hid (fun W => sends_of 1 nw q true (by rfl) W)
              go_upto_region 24 with fail
              go_wp2_with fail
              refine (HR.out _ (by rw [HG.out]; exact hb41)).mono ?_
              rintro e w42 ⟨rfl, hk42⟩
              have hX0_42 := hX0_41.later hk42
              have hX1_42 := hX1_41.later hk42
              have hX2_42 := hX2_41.later hk42
              have hb42 := hb41.trans (hk42.mono (by have := hX0_41.lt; omega))
              obtain ⟨_, _, _, _⟩ := hX0_42.frees
              obtain ⟨_, _, _, _⟩ := hX0_42.cells
              obtain ⟨_, _, _, _⟩ := hX1_42.frees
              obtain ⟨_, _, _, _⟩ := hX1_42.cells
              obtain ⟨_, _, _⟩ := hX2_42.frees
              obtain ⟨_, _, _⟩ := hX2_42.cells
              go_upto_region 25 with fail
              have hX2_43 := at3_store hX2_42 (.int .i64 1) (.int .i64 nw) (.int .i64 q)
              have ho43 := store3_only w42 g2 (.int .i64 1) (.int .i64 nw) (.int .i64 q)
              have hX0_43 := hX0_42.only hne02 ho43
              have hX1_43 := hX1_42.only hne12 ho43
              have hb43 := hb42.trans (ho43.below hle2)
              generalize (((w42.setCell ⟨g2, 0, none⟩ (.int .i64 1)).setCell ⟨g2, 1, none⟩ (.int .i64 nw)).setCell ⟨g2, 2, none⟩ (.int .i64 q)) = w43 at hX0_43 hX1_43 hX2_43 hb43 ⊢
              clear ho43
              obtain ⟨_, _, _, _⟩ := hX0_43.frees
              obtain ⟨_, _, _, _⟩ := hX0_43.cells
              obtain ⟨_, _, _, _⟩ := hX1_43.frees
              obtain ⟨_, _, _, _⟩ := hX1_43.cells
              obtain ⟨_, _, _⟩ := hX2_43.frees
              obtain ⟨_, _, _⟩ := hX2_43.cells
              go_upto_region 26 with fail
              go_wp2_with fail
              refine (HS3.out _).mono ?_
              rintro e w44 ⟨rfl, hk44⟩
              have hX0_44 := hX0_43.later hk44
              have hX1_44 := hX1_43.later hk44
              have hX2_44 := hX2_43.later hk44
              have hb44 := hb43.trans (hk44.mono (by have := hX0_43.lt; omega))
              obtain ⟨_, _, _, _⟩ := hX0_44.frees
              obtain ⟨_, _, _, _⟩ := hX0_44.cells
              obtain ⟨_, _, _, _⟩ := hX1_44.frees
              obtain ⟨_, _, _, _⟩ := hX1_44.cells
              obtain ⟨_, _, _⟩ := hX2_44.frees
              obtain ⟨_, _, _⟩ := hX2_44.cells
              go_upto_region 28 with fail
              go_wp2_with fail
              refine (HS3.out _).mono ?_
              rintro e w45 ⟨rfl, hk45⟩
              have hX0_45 := hX0_44.later hk45
              have hX1_45 := hX1_44.later hk45
              have hX2_45 := hX2_44.later hk45
              have hb45 := hb44.trans (hk45.mono (by have := hX0_44.lt; omega))
              obtain ⟨_, _, _, _⟩ := hX0_45.frees
              obtain ⟨_, _, _, _⟩ := hX0_45.cells
              obtain ⟨_, _, _, _⟩ := hX1_45.frees
              obtain ⟨_, _, _, _⟩ := hX1_45.cells
              obtain ⟨_, _, _⟩ := hX2_45.frees
              obtain ⟨_, _, _⟩ := hX2_45.cells
              go_wp2_with fail
              go_roundw
              case rel => exact ⟨k + 1, 1, nw, q, nw, row, by omega, by omega, by go_num, rfl, rfl, rfl, by omega, by omega, by omega, by omega, by omega, by omega, by omega, by omega, fun _ => by omega, hX0_45, hX1_45, hX2_45, hb45⟩
              case measure => simp [intOf]; omega
      · skip
        as_aux_lemma =>
          have HS1 := Lib.hid (fun W => sends_of 2 h q true (by rfl) W)
          have HTk := Lib.hid (fun W => tickI 2 h q nw T lo hi st hK ⟨by simp only; omega, by simp only; omega, by simp only; omega, by simp only; omega, by simp only; omega⟩ (by omega) (by omega) 2 h q false (by rw [LL.tick, if_pos (Or.inr ht)]) (by rw [decide_eq_true (Or.inr ht)]; rfl) W)
          have HSN := Lib.hid (fun W => sends_of 2 h q true (by rfl) W)
          have hX0_31 := hX0_30.alloc (.cells #[.bool rp, .int .i64 f, .int .i64 lt] 30)
          have hX1_31 := hX1_30.alloc (.cells #[.bool rp, .int .i64 f, .int .i64 lt] 30)
          have hX2_31 := hX2_30.alloc (.cells #[.bool rp, .int .i64 f, .int .i64 lt] 30)
          have hb31 := hb30.alloc (by have := hX0_30.lt; omega) (.cells #[.bool rp, .int .i64 f, .int .i64 lt] 30)
          have hX3_31 := at3_new 30 wr _ (.bool rp) (.int .i64 f) (.int .i64 lt) rfl
          have lt0_31 := hX0_30.lt
          have lt1_31 := hX1_30.lt
          have lt2_31 := hX2_30.lt
          go_upto_region 11 with fail
          generalize (wr.alloc (.cells #[.bool rp, .int .i64 f, .int .i64 lt] 30)) = w31 at hX0_31 hX1_31 hX2_31 hX3_31 hb31 ⊢
          generalize wr.heap.size = g3 at hX3_31 lt0_31 lt1_31 lt2_31 ⊢
          have hne30 : g3 ≠ g0 := by omega
          have hne03 : g0 ≠ g3 := by omega
          have hne31 : g3 ≠ g1 := by omega
          have hne13 : g1 ≠ g3 := by omega
          have hne32 : g3 ≠ g2 := by omega
          have hne23 : g2 ≠ g3 := by omega
          have hle3 : g0 ≤ g3 := by omega
          clear lt0_31 lt1_31 lt2_31
          obtain ⟨_, _, _, _⟩ := hX0_31.frees
          obtain ⟨_, _, _, _⟩ := hX0_31.cells
          obtain ⟨_, _, _, _⟩ := hX1_31.frees
          obtain ⟨_, _, _, _⟩ := hX1_31.cells
          obtain ⟨_, _, _⟩ := hX2_31.frees
          obtain ⟨_, _, _⟩ := hX2_31.cells
          obtain ⟨_, _, _⟩ := hX3_31.frees
          obtain ⟨_, _, _⟩ := hX3_31.cells
          go_wp2_with fail
          refine (HS1.out _).mono ?_
          rintro e w32 ⟨rfl, hk32⟩
          have hX0_32 := hX0_31.later hk32
          have hX1_32 := hX1_31.later hk32
          have hX2_32 := hX2_31.later hk32
          have hX3_32 := hX3_31.later hk32
          have hb32 := hb31.trans (hk32.mono (by have := hX0_31.lt; omega))
          obtain ⟨_, _, _, _⟩ := hX0_32.frees
          obtain ⟨_, _, _, _⟩ := hX0_32.cells
          obtain ⟨_, _, _, _⟩ := hX1_32.frees
          obtain ⟨_, _, _, _⟩ := hX1_32.cells
          obtain ⟨_, _, _⟩ := hX2_32.frees
          obtain ⟨_, _, _⟩ := hX2_32.cells
          obtain ⟨_, _, _⟩ := hX3_32.frees
          obtain ⟨_, _, _⟩ := hX3_32.cells
          go_upto_region 13 with fail
          clear hnw
          go_wp2_with fail
          refine (HTk.out _).mono ?_
          rintro e w33 ⟨rfl, hk33⟩
          have hX0_33 := hX0_32.later hk33
          have hX1_33 := hX1_32.later hk33
          have hX2_33 := hX2_32.later hk33
          have hX3_33 := hX3_32.later hk33
          have hb33 := hb32.trans (hk33.mono (by have := hX0_32.lt; omega))
          obtain ⟨_, _, _, _⟩ := hX0_33.frees
          obtain ⟨_, _, _, _⟩ := hX0_33.cells
          obtain ⟨_, _, _, _⟩ := hX1_33.frees
          obtain ⟨_, _, _, _⟩ := hX1_33.cells
          obtain ⟨_, _, _⟩ := hX2_33.frees
          obtain ⟨_, _, _⟩ := hX2_33.cells
          obtain ⟨_, _, _⟩ := hX3_33.frees
          obtain ⟨_, _, _⟩ := hX3_33.cells
          have hX0_34 := hX0_33.alloc (.cells #[.int .i64 2, .int .i64 h, .int .i64 q] 28)
          have hX1_34 := hX1_33.alloc (.cells #[.int .i64 2, .int .i64 h, .int .i64 q] 28)
          have hX2_34 := hX2_33.alloc (.cells #[.int .i64 2, .int .i64 h, .int .i64 q] 28)
          have hX3_34 := hX3_33.alloc (.cells #[.int .i64 2, .int .i64 h, .int .i64 q] 28)
          have hb34 := hb33.alloc (by have := hX0_33.lt; omega) (.cells #[.int .i64 2, .int .i64 h, .int .i64 q] 28)
          have hX4_34 := at3_new 28 w33 _ (.int .i64 2) (.int .i64 h) (.int .i64 q) rfl
          have lt0_34 := hX0_33.lt
          have lt1_34 := hX1_33.lt
          have lt2_34 := hX2_33.lt
          have lt3_34 := hX3_33.lt
          go_upto_region 14 with fail
          generalize (w33.alloc (.cells #[.int .i64 2, .int .i64 h, .int .i64 q] 28)) = w34 at hX0_34 hX1_34 hX2_34 hX3_34 hX4_34 hb34 ⊢
          generalize w33.heap.size = g4 at hX4_34 lt0_34 lt1_34 lt2_34 lt3_34 ⊢
          have hne40 : g4 ≠ g0 := by omega
          have hne04 : g0 ≠ g4 := by omega
          have hne41 : g4 ≠ g1 := by omega
          have hne14 : g1 ≠ g4 := by omega
          have hne42 : g4 ≠ g2 := by omega
          have hne24 : g2 ≠ g4 := by omega
          have hne43 : g4 ≠ g3 := by omega
          have hne34 : g3 ≠ g4 := by omega
          have hle4 : g0 ≤ g4 := by omega
          clear lt0_34 lt1_34 lt2_34 lt3_34
          obtain ⟨_, _, _, _⟩ := hX0_34.frees
          obtain ⟨_, _, _, _⟩ := hX0_34.cells
          obtain ⟨_, _, _, _⟩ := hX1_34.frees
          obtain ⟨_, _, _, _⟩ := hX1_34.cells
          obtain ⟨_, _, _⟩ := hX2_34.frees
          obtain ⟨_, _, _⟩ := hX2_34.cells
          obtain ⟨_, _, _⟩ := hX3_34.frees
          obtain ⟨_, _, _⟩ := hX3_34.cells
          obtain ⟨_, _, _⟩ := hX4_34.frees
          obtain ⟨_, _, _⟩ := hX4_34.cells
          go_wp2_with fail
          refine (HSN.out _).mono ?_
          rintro e w35 ⟨rfl, hk35⟩
          have hX0_35 := hX0_34.later hk35
          have hX1_35 := hX1_34.later hk35
          have hX2_35 := hX2_34.later hk35
          have hX3_35 := hX3_34.later hk35
          have hX4_35 := hX4_34.later hk35
          have hb35 := hb34.trans (hk35.mono (by have := hX0_34.lt; omega))
          obtain ⟨_, _, _, _⟩ := hX0_35.frees
          obtain ⟨_, _, _, _⟩ := hX0_35.cells
          obtain ⟨_, _, _, _⟩ := hX1_35.frees
          obtain ⟨_, _, _, _⟩ := hX1_35.cells
          obtain ⟨_, _, _⟩ := hX2_35.frees
          obtain ⟨_, _, _⟩ := hX2_35.cells
          obtain ⟨_, _, _⟩ := hX3_35.frees
          obtain ⟨_, _, _⟩ := hX3_35.cells
          obtain ⟨_, _, _⟩ := hX4_35.frees
          obtain ⟨_, _, _⟩ := hX4_35.cells
          go_wp2_with fail
          refine (HSN.out _).mono ?_
          rintro e w36 ⟨rfl, hk36⟩
          have hX0_36 := hX0_35.later hk36
          have hX1_36 := hX1_35.later hk36
          have hX2_36 := hX2_35.later hk36
          have hX3_36 := hX3_35.later hk36
          have hX4_36 := hX4_35.later hk36
          have hb36 := hb35.trans (hk36.mono (by have := hX0_35.lt; omega))
          obtain ⟨_, _, _, _⟩ := hX0_36.frees
          obtain ⟨_, _, _, _⟩ := hX0_36.cells
          obtain ⟨_, _, _, _⟩ := hX1_36.frees
          obtain ⟨_, _, _, _⟩ := hX1_36.cells
          obtain ⟨_, _, _⟩ := hX2_36.frees
          obtain ⟨_, _, _⟩ := hX2_36.cells
          obtain ⟨_, _, _⟩ := hX3_36.frees
          obtain ⟨_, _, _⟩ := hX3_36.cells
          obtain ⟨_, _, _⟩ := hX4_36.frees
          obtain ⟨_, _, _⟩ := hX4_36.cells
          go_upto_region 16 with fail
          go_upto_region 17 with fail
          have hX2_37 := at3_store hX2_36 (.int .i64 2) (.int .i64 h) (.int .i64 q)
          have ho37 := store3_only w36 g2 (.int .i64 2) (.int .i64 h) (.int .i64 q)
          have hX0_37 := hX0_36.only hne02 ho37
          have hX1_37 := hX1_36.only hne12 ho37
          have hX3_37 := hX3_36.only hne32 ho37
          have hX4_37 := hX4_36.only hne42 ho37
          have hb37 := hb36.trans (ho37.below hle2)
          generalize (((w36.setCell ⟨g2, 0, none⟩ (.int .i64 2)).setCell ⟨g2, 1, none⟩ (.int .i64 h)).setCell ⟨g2, 2, none⟩ (.int .i64 q)) = w37 at hX0_37 hX1_37 hX2_37 hX3_37 hX4_37 hb37 ⊢
          clear ho37
          obtain ⟨_, _, _, _⟩ := hX0_37.frees
          obtain ⟨_, _, _, _⟩ := hX0_37.cells
          obtain ⟨_, _, _, _⟩ := hX1_37.frees
          obtain ⟨_, _, _, _⟩ := hX1_37.cells
          obtain ⟨_, _, _⟩ := hX2_37.frees
          obtain ⟨_, _, _⟩ := hX2_37.cells
          obtain ⟨_, _, _⟩ := hX3_37.frees
          obtain ⟨_, _, _⟩ := hX3_37.cells
          obtain ⟨_, _, _⟩ := hX4_37.frees
          obtain ⟨_, _, _⟩ := hX4_37.cells
          cases rp
          · skip
            go_wp2_with fail
            go_roundw
            case rel => exact ⟨k + 1, 2, h, q, nw, row, by omega, by omega, by go_num, rfl, rfl, rfl, by omega, by omega, by omega, by omega, by omega, by omega, by omega, by omega, fun hh => by first | omega | exact hqr (by omega) | exact absurd rfl hh, hX0_37, hX1_37, hX2_37, hb37⟩
            case measure => simp [intOf]; omega
          · skip
            obtain ⟨ff, hff⟩ : ∃ z, f % 256 = z := ⟨_, rfl⟩
            have f0 : 0 ≤ ff := by omega
            have f1 : ff ≤ 255 := by omega
            have HS2 := Lib.hid (fun W => sends_of 2 h q true (by rfl) W)
            go_upto_region 19 with fail
            clear hff
            go_cut [12, 16] (fun y z wx => y = .bool true ∧ z = .int .i64 2 ∧ At4 23 wx g0 (.int .i64 c0) (.int .i64 c1) (.int .i64 c2) (.int .i64 c3) ∧ At4 23 wx g1 (.int .i64 T) (.int .i64 lo) (.int .i64 hi) (.int .i64 st) ∧ At3 28 wx g2 (.int .i64 2) (.int .i64 h) (.int .i64 q) ∧ Below g0 w wx)
            case first =>
              obtain ⟨_, _, _⟩ := hX2_37.drew.cells
              go_region_law (first | (go_simp; go_at_call 12; refine (HS2.out w37.drew).mono ?_; rintro e w40 ⟨rfl, hk40⟩; have hX0_40 := hX0_37.drew.later hk40; have hX1_40 := hX1_37.drew.later hk40; have hX2_40 := hX2_37.drew.later hk40; have hb40 : Below g0 w w40 := hb37.drew.trans (hk40.mono (by have := hX0_37.lt; show g0 ≤ w37.heap.size; omega)); obtain ⟨_, _, _⟩ := hX2_40.cells))
              all_goals
                go_wp2_with fail
                go_meet
                exact ⟨rfl, rfl, hX0_40, hX1_40, hX2_40, hb40⟩
            case rest =>
            obtain ⟨rfl, rfl, hX0_41, hX1_41, hX2_41, hb41⟩ := hcut
            clear hX0_37 hX1_37 hX2_37 hX3_37 hX4_37 hb37 HS2
            rename World => w41
            obtain ⟨_, _, _, _⟩ := hX0_41.frees
            obtain ⟨_, _, _, _⟩ := hX0_41.cells
            obtain ⟨_, _, _, _⟩ := hX1_41.frees
            obtain ⟨_, _, _, _⟩ := hX1_41.cells
            obtain ⟨_, _, _⟩ := hX2_41.frees
            obtain ⟨_, _, _⟩ := hX2_41.cells
            by_cases hf : ff ≤ lo
            · have hff2 : ff ≤ hi := by omega
              have HR := Lib.hid (fun (W : World) (hb : Below w.heap.size w W) => repI 2 h q ff nw T lo hi st hK ⟨by simp only; omega, by simp only; omega, by simp only; omega, by simp only; omega, by simp only; omega⟩ (by omega) (by omega) 1 0 (by simp [LL.rep, hf, bLow]) W (HTB.out W hb))
              have HS3 := Lib.hid (fun W => sends_of 1 nw 0 true (by rfl) W)
              go_upto_region 24 with fail
              go_wp2_with fail
              refine (HR.out _ (by rw [HG.out]; exact hb41)).mono ?_
              rintro e w42 ⟨rfl, hk42⟩
              have hX0_42 := hX0_41.later hk42
              have hX1_42 := hX1_41.later hk42
              have hX2_42 := hX2_41.later hk42
              have hb42 := hb41.trans (hk42.mono (by have := hX0_41.lt; omega))
              obtain ⟨_, _, _, _⟩ := hX0_42.frees
              obtain ⟨_, _, _, _⟩ := hX0_42.cells
              obtain ⟨_, _, _, _⟩ := hX1_42.frees
              obtain ⟨_, _, _, _⟩ := hX1_42.cells
              obtain ⟨_, _, _⟩ := hX2_42.frees
              obtain ⟨_, _, _⟩ := hX2_42.cells
              go_upto_region 25 with fail
              have hX2_43 := at3_store hX2_42 (.int .i64 1) (.int .i64 nw) (.int .i64 0)
              have ho43 := store3_only w42 g2 (.int .i64 1) (.int .i64 nw) (.int .i64 0)
              have hX0_43 := hX0_42.only hne02 ho43
              have hX1_43 := hX1_42.only hne12 ho43
              have hb43 := hb42.trans (ho43.below hle2)
              generalize (((w42.setCell ⟨g2, 0, none⟩ (.int .i64 1)).setCell ⟨g2, 1, none⟩ (.int .i64 nw)).setCell ⟨g2, 2, none⟩ (.int .i64 0)) = w43 at hX0_43 hX1_43 hX2_43 hb43 ⊢
              clear ho43
              obtain ⟨_, _, _, _⟩ := hX0_43.frees
              obtain ⟨_, _, _, _⟩ := hX0_43.cells
              obtain ⟨_, _, _, _⟩ := hX1_43.frees
              obtain ⟨_, _, _, _⟩ := hX1_43.cells
              obtain ⟨_, _, _⟩ := hX2_43.frees
              obtain ⟨_, _, _⟩ := hX2_43.cells
              go_upto_region 26 with fail
              go_wp2_with fail
              refine (HS3.out _).mono ?_
              rintro e w44 ⟨rfl, hk44⟩
              have hX0_44 := hX0_43.later hk44
              have hX1_44 := hX1_43.later hk44
              have hX2_44 := hX2_43.later hk44
              have hb44 := hb43.trans (hk44.mono (by have := hX0_43.lt; omega))
              obtain ⟨_, _, _, _⟩ := hX0_44.frees
              obtain ⟨_, _, _, _⟩ := hX0_44.cells
              obtain ⟨_, _, _, _⟩ := hX1_44.frees
              obtain ⟨_, _, _, _⟩ := hX1_44.cells
              obtain ⟨_, _, _⟩ := hX2_44.frees
              obtain ⟨_, _, _⟩ := hX2_44.cells
              go_upto_region 28 with fail
              go_wp2_with fail
              refine (HS3.out _).mono ?_
              rintro e w45 ⟨rfl, hk45⟩
              have hX0_45 := hX0_44.later hk45
              have hX1_45 := hX1_44.later hk45
              have hX2_45 := hX2_44.later hk45
              have hb45 := hb44.trans (hk45.mono (by have := hX0_44.lt; omega))
              obtain ⟨_, _, _, _⟩ := hX0_45.frees
              obtain ⟨_, _, _, _⟩ := hX0_45.cells
              obtain ⟨_, _, _, _⟩ := hX1_45.frees
              obtain ⟨_, _, _, _⟩ := hX1_45.cells
              obtain ⟨_, _, _⟩ := hX2_45.frees
              obtain ⟨_, _, _⟩ := hX2_45.cells
              go_wp2_with fail
              go_roundw
              case rel => exact ⟨k + 1, 1, nw, 0, nw, 0, by omega, by omega, by go_num, rfl, rfl, rfl, by omega, by omega, by omega, by omega, by omega, by omega, by omega, by omega, fun _ => by omega, hX0_45, hX1_45, hX2_45, hb45⟩
              case measure => simp [intOf]; omega
            have hlf : lo < ff := by omega
            by_cases hg : hi < ff
            · have hrw : IntKind.i64.wrap (row + 1) = row + 1 := IntWalk.i64_in _ ⟨by omega, by omega⟩
              by_cases hkk : st - 1 ≤ q
              · have hst : st ≤ row + 1 := by omega
                have HR := Lib.hid (fun (W : World) (hb : Below w.heap.size w W) => repI 2 h q ff nw T lo hi st hK ⟨by simp only; omega, by simp only; omega, by simp only; omega, by simp only; omega, by simp only; omega⟩ (by omega) (by omega) 3 0 (by rw [LL.rep, if_neg (by simp only; omega), if_pos hg, if_pos (Or.inr hkk)]) W (HTB.out W hb))
                have HS3 := Lib.hid (fun W => sends_of 3 nw 0 false (by rfl) W)
                go_upto_region 24 with fail
                go_wp2_with fail
                refine (HR.out _ (by rw [HG.out]; exact hb41)).mono ?_
                rintro e w42 ⟨rfl, hk42⟩
                have hX0_42 := hX0_41.later hk42
                have hX1_42 := hX1_41.later hk42
                have hX2_42 := hX2_41.later hk42
                have hb42 := hb41.trans (hk42.mono (by have := hX0_41.lt; omega))
                obtain ⟨_, _, _, _⟩ := hX0_42.frees
                obtain ⟨_, _, _, _⟩ := hX0_42.cells
                obtain ⟨_, _, _, _⟩ := hX1_42.frees
                obtain ⟨_, _, _, _⟩ := hX1_42.cells
                obtain ⟨_, _, _⟩ := hX2_42.frees
                obtain ⟨_, _, _⟩ := hX2_42.cells
                go_upto_region 25 with fail
                have hX2_43 := at3_store hX2_42 (.int .i64 3) (.int .i64 nw) (.int .i64 0)
                have ho43 := store3_only w42 g2 (.int .i64 3) (.int .i64 nw) (.int .i64 0)
                have hX0_43 := hX0_42.only hne02 ho43
                have hX1_43 := hX1_42.only hne12 ho43
                have hb43 := hb42.trans (ho43.below hle2)
                generalize (((w42.setCell ⟨g2, 0, none⟩ (.int .i64 3)).setCell ⟨g2, 1, none⟩ (.int .i64 nw)).setCell ⟨g2, 2, none⟩ (.int .i64 0)) = w43 at hX0_43 hX1_43 hX2_43 hb43 ⊢
                clear ho43
                obtain ⟨_, _, _, _⟩ := hX0_43.frees
                obtain ⟨_, _, _, _⟩ := hX0_43.cells
                obtain ⟨_, _, _, _⟩ := hX1_43.frees
                obtain ⟨_, _, _, _⟩ := hX1_43.cells
                obtain ⟨_, _, _⟩ := hX2_43.frees
                obtain ⟨_, _, _⟩ := hX2_43.cells
                go_upto_region 26 with fail
                go_wp2_with fail
                refine (HS3.out _).mono ?_
                rintro e w44 ⟨rfl, hk44⟩
                have hX0_44 := hX0_43.later hk44
                have hX1_44 := hX1_43.later hk44
                have hX2_44 := hX2_43.later hk44
                have hb44 := hb43.trans (hk44.mono (by have := hX0_43.lt; omega))
                obtain ⟨_, _, _, _⟩ := hX0_44.frees
                obtain ⟨_, _, _, _⟩ := hX0_44.cells
                obtain ⟨_, _, _, _⟩ := hX1_44.frees
                obtain ⟨_, _, _, _⟩ := hX1_44.cells
                obtain ⟨_, _, _⟩ := hX2_44.frees
                obtain ⟨_, _, _⟩ := hX2_44.cells
                go_upto_region 28 with fail
                go_wp2_with fail
                refine (HS3.out _).mono ?_
                rintro e w45 ⟨rfl, hk45⟩
                have hX0_45 := hX0_44.later hk45
                have hX1_45 := hX1_44.later hk45
                have hX2_45 := hX2_44.later hk45
                have hb45 := hb44.trans (hk45.mono (by have := hX0_44.lt; omega))
                obtain ⟨_, _, _, _⟩ := hX0_45.frees
                obtain ⟨_, _, _, _⟩ := hX0_45.cells
                obtain ⟨_, _, _, _⟩ := hX1_45.frees
                obtain ⟨_, _, _, _⟩ := hX1_45.cells
                obtain ⟨_, _, _⟩ := hX2_45.frees
                obtain ⟨_, _, _⟩ := hX2_45.cells
                go_wp2_with fail
                go_roundw
                case rel => exact ⟨k + 1, 3, nw, 0, nw, 0, by omega, by omega, by go_num, rfl, rfl, rfl, by omega, by omega, by omega, by omega, by omega, by omega, by omega, by omega, fun h => absurd rfl h, hX0_45, hX1_45, hX2_45, hb45⟩
                case measure => simp [intOf]; omega
              · skip
                have HR := Lib.hid (fun (W : World) (hb : Below w.heap.size w W) => repI 2 h q ff nw T lo hi st hK ⟨by simp only; omega, by simp only; omega, by simp only; omega, by simp only; omega, by simp only; omega⟩ (by omega) (by omega) 2 (q + 1) (by rw [LL.rep, if_neg (by simp only; omega), if_pos hg, if_neg (by simp only; omega)]; rfl) W (HTB.out W hb))
                have HS3 := Lib.hid (fun W => sends_of 2 nw (q + 1) true (by rfl) W)
                go_upto_region 24 with fail
                go_wp2_with fail
                refine (HR.out _ (by rw [HG.out]; exact hb41)).mono ?_
                rintro e w42 ⟨rfl, hk42⟩
                have hX0_42 := hX0_41.later hk42
                have hX1_42 := hX1_41.later hk42
                have hX2_42 := hX2_41.later hk42
                have hb42 := hb41.trans (hk42.mono (by have := hX0_41.lt; omega))
                obtain ⟨_, _, _, _⟩ := hX0_42.frees
                obtain ⟨_, _, _, _⟩ := hX0_42.cells
                obtain ⟨_, _, _, _⟩ := hX1_42.frees
                obtain ⟨_, _, _, _⟩ := hX1_42.cells
                obtain ⟨_, _, _⟩ := hX2_42.frees
                obtain ⟨_, _, _⟩ := hX2_42.cells
                go_upto_region 25 with fail
                have hX2_43 := at3_store hX2_42 (.int .i64 2) (.int .i64 nw) (.int .i64 (q + 1))
                have ho43 := store3_only w42 g2 (.int .i64 2) (.int .i64 nw) (.int .i64 (q + 1))
                have hX0_43 := hX0_42.only hne02 ho43
                have hX1_43 := hX1_42.only hne12 ho43
                have hb43 := hb42.trans (ho43.below hle2)
                generalize (((w42.setCell ⟨g2, 0, none⟩ (.int .i64 2)).setCell ⟨g2, 1, none⟩ (.int .i64 nw)).setCell ⟨g2, 2, none⟩ (.int .i64 (q + 1))) = w43 at hX0_43 hX1_43 hX2_43 hb43 ⊢
                clear ho43
                obtain ⟨_, _, _, _⟩ := hX0_43.frees
                obtain ⟨_, _, _, _⟩ := hX0_43.cells
                obtain ⟨_, _, _, _⟩ := hX1_43.frees
                obtain ⟨_, _, _, _⟩ := hX1_43.cells
                obtain ⟨_, _, _⟩ := hX2_43.frees
                obtain ⟨_, _, _⟩ := hX2_43.cells
                go_upto_region 26 with fail
                go_wp2_with fail
                refine (HS3.out _).mono ?_
                rintro e w44 ⟨rfl, hk44⟩
                have hX0_44 := hX0_43.later hk44
                have hX1_44 := hX1_43.later hk44
                have hX2_44 := hX2_43.later hk44
                have hb44 := hb43.trans (hk44.mono (by have := hX0_43.lt; omega))
                obtain ⟨_, _, _, _⟩ := hX0_44.frees
                obtain ⟨_, _, _, _⟩ := hX0_44.cells
                obtain ⟨_, _, _, _⟩ := hX1_44.frees
                obtain ⟨_, _, _, _⟩ := hX1_44.cells
                obtain ⟨_, _, _⟩ := hX2_44.frees
                obtain ⟨_, _, _⟩ := hX2_44.cells
                go_upto_region 28 with fail
                go_wp2_with fail
                refine (HS3.out _).mono ?_
                rintro e w45 ⟨rfl, hk45⟩
                have hX0_45 := hX0_44.later hk45
                have hX1_45 := hX1_44.later hk45
                have hX2_45 := hX2_44.later hk45
                have hb45 := hb44.trans (hk45.mono (by have := hX0_44.lt; omega))
                obtain ⟨_, _, _, _⟩ := hX0_45.frees
                obtain ⟨_, _, _, _⟩ := hX0_45.cells
                obtain ⟨_, _, _, _⟩ := hX1_45.frees
                obtain ⟨_, _, _, _⟩ := hX1_45.cells
                obtain ⟨_, _, _⟩ := hX2_45.frees
                obtain ⟨_, _, _⟩ := hX2_45.cells
                go_wp2_with fail
                go_roundw
                case rel => exact ⟨k + 1, 2, nw, (q + 1), nw, (row + 1), by omega, by omega, by go_num, rfl, rfl, rfl, by omega, by omega, by omega, by omega, by omega, by omega, by omega, by omega, fun _ => by omega, hX0_45, hX1_45, hX2_45, hb45⟩
                case measure => simp [intOf]; omega
            · have hgh : ff ≤ hi := by omega
              have HR := Lib.hid (fun (W : World) (hb : Below w.heap.size w W) => repI 2 h q ff nw T lo hi st hK ⟨by simp only; omega, by simp only; omega, by simp only; omega, by simp only; omega, by simp only; omega⟩ (by omega) (by omega) 2 q (by rw [LL.rep, if_neg (by simp only; omega), if_neg (by simp only; omega)]) W (HTB.out W hb))
              have HS3 := Lib.hid (fun W => sends_of 2 nw q true (by rfl) W)
              go_upto_region 24 with fail
              go_wp2_with fail
              refine (HR.out _ (by rw [HG.out]; exact hb41)).mono ?_
              rintro e w42 ⟨rfl, hk42⟩
              have hX0_42 := hX0_41.later hk42
              have hX1_42 := hX1_41.later hk42
              have hX2_42 := hX2_41.later hk42
              have hb42 := hb41.trans (hk42.mono (by have := hX0_41.lt; omega))
              obtain ⟨_, _, _, _⟩ := hX0_42.frees
              obtain ⟨_, _, _, _⟩ := hX0_42.cells
              obtain ⟨_, _, _, _⟩ := hX1_42.frees
              obtain ⟨_, _, _, _⟩ := hX1_42.cells
              obtain ⟨_, _, _⟩ := hX2_42.frees
              obtain ⟨_, _, _⟩ := hX2_42.cells
              go_upto_region 25 with fail
              have hX2_43 := at3_store hX2_42 (.int .i64 2) (.int .i64 nw) (.int .i64 q)
              have ho43 := store3_only w42 g2 (.int .i64 2) (.int .i64 nw) (.int .i64 q)
              have hX0_43 := hX0_42.only hne02 ho43
              have hX1_43 := hX1_42.only hne12 ho43
              have hb43 := hb42.trans (ho43.below hle2)
              generalize (((w42.setCell ⟨g2, 0, none⟩ (.int .i64 2)).setCell ⟨g2, 1, none⟩ (.int .i64 nw)).setCell ⟨g2, 2, none⟩ (.int .i64 q)) = w43 at hX0_43 hX1_43 hX2_43 hb43 ⊢
              clear ho43
              obtain ⟨_, _, _, _⟩ := hX0_43.frees
              obtain ⟨_, _, _, _⟩ := hX0_43.cells
              obtain ⟨_, _, _, _⟩ := hX1_43.frees
              obtain ⟨_, _, _, _⟩ := hX1_43.cells
              obtain ⟨_, _, _⟩ := hX2_43.frees
              obtain ⟨_, _, _⟩ := hX2_43.cells
              go_upto_region 26 with fail
              go_wp2_with fail
              refine (HS3.out _).mono ?_
              rintro e w44 ⟨rfl, hk44⟩
              have hX0_44 := hX0_43.later hk44
              have hX1_44 := hX1_43.later hk44
              have hX2_44 := hX2_43.later hk44
              have hb44 := hb43.trans (hk44.mono (by have := hX0_43.lt; omega))
              obtain ⟨_, _, _, _⟩ := hX0_44.frees
              obtain ⟨_, _, _, _⟩ := hX0_44.cells
              obtain ⟨_, _, _, _⟩ := hX1_44.frees
              obtain ⟨_, _, _, _⟩ := hX1_44.cells
              obtain ⟨_, _, _⟩ := hX2_44.frees
              obtain ⟨_, _, _⟩ := hX2_44.cells
              go_upto_region 28 with fail
              go_wp2_with fail
              refine (HS3.out _).mono ?_
              rintro e w45 ⟨rfl, hk45⟩
              have hX0_45 := hX0_44.later hk45
              have hX1_45 := hX1_44.later hk45
              have hX2_45 := hX2_44.later hk45
              have hb45 := hb44.trans (hk45.mono (by have := hX0_44.lt; omega))
              obtain ⟨_, _, _, _⟩ := hX0_45.frees
              obtain ⟨_, _, _, _⟩ := hX0_45.cells
              obtain ⟨_, _, _, _⟩ := hX1_45.frees
              obtain ⟨_, _, _, _⟩ := hX1_45.cells
              obtain ⟨_, _, _⟩ := hX2_45.frees
              obtain ⟨_, _, _⟩ := hX2_45.cells
              go_wp2_with fail
              go_roundw
              case rel => exact ⟨k + 1, 2, nw, q, nw, row, by omega, by omega, by go_num, rfl, rfl, rfl, by omega, by omega, by omega, by omega, by omega, by omega, by omega, by omega, fun _ => by omega, hX0_45, hX1_45, hX2_45, hb45⟩
              case measure => simp [intOf]; omega
    · by_cases hk1 : k < len2
      · have hk2 : k = 60 := by omega
        subst hk2
        have HR1 := Lib.hid (fun (W : World) (hb : Below w.heap.size w W) => repI 3 h q 0 now T lo hi st hK ⟨by simp only; omega, by simp only; omega, by simp only; omega, by simp only; omega, by simp only; omega⟩ (by omega) (by omega) 0 0 (by simp [LL.rep, q3, bLow]) W (HTB.out W hb))
        have HR2 := Lib.hid (fun (W : World) (hb : Below w.heap.size w W) => repI 0 now 0 0 now T lo hi st hK ⟨by simp only; omega, by simp only; omega, by simp only; omega, by simp only; omega, by simp only; omega⟩ (by omega) (by omega) 1 0 (by simp [LL.rep, q3, bLow]) W (HTB.out W hb))
        go_upto_region 30 with fail
        obtain ⟨_, _, _, _⟩ := hX0_30.frees
        obtain ⟨_, _, _, _⟩ := hX0_30.cells
        obtain ⟨_, _, _, _⟩ := hX1_30.frees
        obtain ⟨_, _, _, _⟩ := hX1_30.cells
        obtain ⟨_, _, _⟩ := hX2_30.frees
        obtain ⟨_, _, _⟩ := hX2_30.cells
        go_upto_region 31 with fail
        have hX2_31 := (at3_set0 hX2_30 (.int .i64 3))
        have ho31 := ((Only.refl g2 wr).setCell 0 (.int .i64 3))
        have hX0_31 := hX0_30.only hne02 ho31
        have hX1_31 := hX1_30.only hne12 ho31
        have hb31 := hb30.trans (ho31.below hle2)
        generalize (wr.setCell ⟨g2, 0, none⟩ (.int .i64 3)) = w31 at hX0_31 hX1_31 hX2_31 hb31 ⊢
        clear ho31
        obtain ⟨_, _, _, _⟩ := hX0_31.frees
        obtain ⟨_, _, _, _⟩ := hX0_31.cells
        obtain ⟨_, _, _, _⟩ := hX1_31.frees
        obtain ⟨_, _, _, _⟩ := hX1_31.cells
        obtain ⟨_, _, _⟩ := hX2_31.frees
        obtain ⟨_, _, _⟩ := hX2_31.cells
        go_wp2_with fail
        refine (HR1.out _ (by rw [HG.out]; exact hb31)).mono ?_
        rintro e w32 ⟨rfl, hk32⟩
        have hX0_32 := hX0_31.later hk32
        have hX1_32 := hX1_31.later hk32
        have hX2_32 := hX2_31.later hk32
        have hb32 := hb31.trans (hk32.mono (by have := hX0_31.lt; omega))
        obtain ⟨_, _, _, _⟩ := hX0_32.frees
        obtain ⟨_, _, _, _⟩ := hX0_32.cells
        obtain ⟨_, _, _, _⟩ := hX1_32.frees
        obtain ⟨_, _, _, _⟩ := hX1_32.cells
        obtain ⟨_, _, _⟩ := hX2_32.frees
        obtain ⟨_, _, _⟩ := hX2_32.cells
        go_upto_region 32 with fail
        have hX2_33 := at3_store hX2_32 (.int .i64 0) (.int .i64 now) (.int .i64 0)
        have ho33 := store3_only w32 g2 (.int .i64 0) (.int .i64 now) (.int .i64 0)
        have hX0_33 := hX0_32.only hne02 ho33
        have hX1_33 := hX1_32.only hne12 ho33
        have hb33 := hb32.trans (ho33.below hle2)
        generalize (((w32.setCell ⟨g2, 0, none⟩ (.int .i64 0)).setCell ⟨g2, 1, none⟩ (.int .i64 now)).setCell ⟨g2, 2, none⟩ (.int .i64 0)) = w33 at hX0_33 hX1_33 hX2_33 hb33 ⊢
        clear ho33
        obtain ⟨_, _, _, _⟩ := hX0_33.frees
        obtain ⟨_, _, _, _⟩ := hX0_33.cells
        obtain ⟨_, _, _, _⟩ := hX1_33.frees
        obtain ⟨_, _, _, _⟩ := hX1_33.cells
        obtain ⟨_, _, _⟩ := hX2_33.frees
        obtain ⟨_, _, _⟩ := hX2_33.cells
        go_upto_region 33 with fail
        go_wp2_with fail
        refine (HR2.out _ (by rw [HG.out]; exact hb33)).mono ?_
        rintro e w34 ⟨rfl, hk34⟩
        have hX0_34 := hX0_33.later hk34
        have hX1_34 := hX1_33.later hk34
        have hX2_34 := hX2_33.later hk34
        have hb34 := hb33.trans (hk34.mono (by have := hX0_33.lt; omega))
        obtain ⟨_, _, _, _⟩ := hX0_34.frees
        obtain ⟨_, _, _, _⟩ := hX0_34.cells
        obtain ⟨_, _, _, _⟩ := hX1_34.frees
        obtain ⟨_, _, _, _⟩ := hX1_34.cells
        obtain ⟨_, _, _⟩ := hX2_34.frees
        obtain ⟨_, _, _⟩ := hX2_34.cells
        go_upto_region 34 with fail
        have hX2_35 := at3_store hX2_34 (.int .i64 1) (.int .i64 now) (.int .i64 0)
        have ho35 := store3_only w34 g2 (.int .i64 1) (.int .i64 now) (.int .i64 0)
        have hX0_35 := hX0_34.only hne02 ho35
        have hX1_35 := hX1_34.only hne12 ho35
        have hb35 := hb34.trans (ho35.below hle2)
        generalize (((w34.setCell ⟨g2, 0, none⟩ (.int .i64 1)).setCell ⟨g2, 1, none⟩ (.int .i64 now)).setCell ⟨g2, 2, none⟩ (.int .i64 0)) = w35 at hX0_35 hX1_35 hX2_35 hb35 ⊢
        clear ho35
        obtain ⟨_, _, _, _⟩ := hX0_35.frees
        obtain ⟨_, _, _, _⟩ := hX0_35.cells
        obtain ⟨_, _, _, _⟩ := hX1_35.frees
        obtain ⟨_, _, _, _⟩ := hX1_35.cells
        obtain ⟨_, _, _⟩ := hX2_35.frees
        obtain ⟨_, _, _⟩ := hX2_35.cells
        go_wp2_with fail
        go_ret
        exact ⟨by first | rfl | simp, by rw [HG.out]; exact hb35⟩
      · have hk2 : k = len2 := by omega
        subst hk2
        have HR1 := Lib.hid (fun (W : World) (hb : Below w.heap.size w W) => repI 3 h q 0 now T lo hi st hK ⟨by simp only; omega, by simp only; omega, by simp only; omega, by simp only; omega, by simp only; omega⟩ (by omega) (by omega) 0 0 (by simp [LL.rep, q3, bLow]) W (HTB.out W hb))
        have HR2 := Lib.hid (fun (W : World) (hb : Below w.heap.size w W) => repI 0 now 0 0 now T lo hi st hK ⟨by simp only; omega, by simp only; omega, by simp only; omega, by simp only; omega, by simp only; omega⟩ (by omega) (by omega) 1 0 (by simp [LL.rep, q3, bLow]) W (HTB.out W hb))
        go_upto_region 30 with fail
        obtain ⟨_, _, _, _⟩ := hX0_30.frees
        obtain ⟨_, _, _, _⟩ := hX0_30.cells
        obtain ⟨_, _, _, _⟩ := hX1_30.frees
        obtain ⟨_, _, _, _⟩ := hX1_30.cells
        obtain ⟨_, _, _⟩ := hX2_30.frees
        obtain ⟨_, _, _⟩ := hX2_30.cells
        go_upto_region 31 with fail
        have hX2_31 := (at3_set0 hX2_30 (.int .i64 3))
        have ho31 := ((Only.refl g2 wr).setCell 0 (.int .i64 3))
        have hX0_31 := hX0_30.only hne02 ho31
        have hX1_31 := hX1_30.only hne12 ho31
        have hb31 := hb30.trans (ho31.below hle2)
        generalize (wr.setCell ⟨g2, 0, none⟩ (.int .i64 3)) = w31 at hX0_31 hX1_31 hX2_31 hb31 ⊢
        clear ho31
        obtain ⟨_, _, _, _⟩ := hX0_31.frees
        obtain ⟨_, _, _, _⟩ := hX0_31.cells
        obtain ⟨_, _, _, _⟩ := hX1_31.frees
        obtain ⟨_, _, _, _⟩ := hX1_31.cells
        obtain ⟨_, _, _⟩ := hX2_31.frees
        obtain ⟨_, _, _⟩ := hX2_31.cells
        go_wp2_with fail
        refine (HR1.out _ (by rw [HG.out]; exact hb31)).mono ?_
        rintro e w32 ⟨rfl, hk32⟩
        have hX0_32 := hX0_31.later hk32
        have hX1_32 := hX1_31.later hk32
        have hX2_32 := hX2_31.later hk32
        have hb32 := hb31.trans (hk32.mono (by have := hX0_31.lt; omega))
        obtain ⟨_, _, _, _⟩ := hX0_32.frees
        obtain ⟨_, _, _, _⟩ := hX0_32.cells
        obtain ⟨_, _, _, _⟩ := hX1_32.frees
        obtain ⟨_, _, _, _⟩ := hX1_32.cells
        obtain ⟨_, _, _⟩ := hX2_32.frees
        obtain ⟨_, _, _⟩ := hX2_32.cells
        go_upto_region 32 with fail
        have hX2_33 := at3_store hX2_32 (.int .i64 0) (.int .i64 now) (.int .i64 0)
        have ho33 := store3_only w32 g2 (.int .i64 0) (.int .i64 now) (.int .i64 0)
        have hX0_33 := hX0_32.only hne02 ho33
        have hX1_33 := hX1_32.only hne12 ho33
        have hb33 := hb32.trans (ho33.below hle2)
        generalize (((w32.setCell ⟨g2, 0, none⟩ (.int .i64 0)).setCell ⟨g2, 1, none⟩ (.int .i64 now)).setCell ⟨g2, 2, none⟩ (.int .i64 0)) = w33 at hX0_33 hX1_33 hX2_33 hb33 ⊢
        clear ho33
        obtain ⟨_, _, _, _⟩ := hX0_33.frees
        obtain ⟨_, _, _, _⟩ := hX0_33.cells
        obtain ⟨_, _, _, _⟩ := hX1_33.frees
        obtain ⟨_, _, _, _⟩ := hX1_33.cells
        obtain ⟨_, _, _⟩ := hX2_33.frees
        obtain ⟨_, _, _⟩ := hX2_33.cells
        go_upto_region 33 with fail
        go_wp2_with fail
        refine (HR2.out _ (by rw [HG.out]; exact hb33)).mono ?_
        rintro e w34 ⟨rfl, hk34⟩
        have hX0_34 := hX0_33.later hk34
        have hX1_34 := hX1_33.later hk34
        have hX2_34 := hX2_33.later hk34
        have hb34 := hb33.trans (hk34.mono (by have := hX0_33.lt; omega))
        obtain ⟨_, _, _, _⟩ := hX0_34.frees
        obtain ⟨_, _, _, _⟩ := hX0_34.cells
        obtain ⟨_, _, _, _⟩ := hX1_34.frees
        obtain ⟨_, _, _, _⟩ := hX1_34.cells
        obtain ⟨_, _, _⟩ := hX2_34.frees
        obtain ⟨_, _, _⟩ := hX2_34.cells
        go_upto_region 34 with fail
        have hX2_35 := at3_store hX2_34 (.int .i64 1) (.int .i64 now) (.int .i64 0)
        have ho35 := store3_only w34 g2 (.int .i64 1) (.int .i64 now) (.int .i64 0)
        have hX0_35 := hX0_34.only hne02 ho35
        have hX1_35 := hX1_34.only hne12 ho35
        have hb35 := hb34.trans (ho35.below hle2)
        generalize (((w34.setCell ⟨g2, 0, none⟩ (.int .i64 1)).setCell ⟨g2, 1, none⟩ (.int .i64 now)).setCell ⟨g2, 2, none⟩ (.int .i64 0)) = w35 at hX0_35 hX1_35 hX2_35 hb35 ⊢
        clear ho35
        obtain ⟨_, _, _, _⟩ := hX0_35.frees
        obtain ⟨_, _, _, _⟩ := hX0_35.cells
        obtain ⟨_, _, _, _⟩ := hX1_35.frees
        obtain ⟨_, _, _, _⟩ := hX1_35.cells
        obtain ⟨_, _, _⟩ := hX2_35.frees
        obtain ⟨_, _, _⟩ := hX2_35.cells
        go_wp2_with fail
        go_ret
        exact ⟨by first | rfl | simp, by rw [HG.out]; exact hb35⟩
end lifeTimes
end Go.Proofs.YtggcfoegpadepaaDoor
