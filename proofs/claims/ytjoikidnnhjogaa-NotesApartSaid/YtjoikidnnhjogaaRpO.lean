/- report.readBlock, readSent. -/
import Derived.Test.YtjoikidnnhjogaaRpC
namespace Go.Proofs.Ytjoikidnnhjogaa
open Go.RowKit
set_option linter.unusedVariables false
def sgn (n : Int) : Int := if 8388607 < n then n - 16777216 else n
theorem signed_any (n : Int) (w : World) (h0 : 0 ≤ n) (h1 : n ≤ 16777215) : Calls Try.prog 126 #[.int .i64 n] w fun e w' => e = .returned (.int .i64 (sgn n)) ∧ w = w' := by
  by_cases h : 8388607 < n
  · have e : sgn n = n - 16777216 := by unfold sgn; rw [if_pos h]
    rw [e]
    clear e
    have hw : IntKind.i64.wrap (n - 16777216) = n - 16777216 := IntWalk.i64_in _ ⟨by omega, by omega⟩
    go_enter Try.func126, Try.ntmps126
    go_wp2
    go_ret
    exact ⟨rfl, rfl⟩
  · have e : sgn n = n := by unfold sgn; rw [if_neg h]
    rw [e]
    clear e
    go_enter Try.func126, Try.ntmps126
    go_wp2
    go_ret
    exact ⟨rfl, rfl⟩
/-- Reads of so many bytes each, one behind the other. -/
theorem rdl_dead : ∀ l : List Nat, l.foldl (fun st m => rd st (m : Nat)) dead = dead
  | [] => rfl
  | m :: l => by rw [List.foldl_cons, rd_dead, rdl_dead l]
theorem rdl_st (s : ByteArray) : ∀ (l : List Nat) (a : Nat), a ≤ s.size → l.foldl (fun st m => rd st (m : Nat)) (stA s a) = if s.size < a + l.sum then dead else stA s (a + l.sum)
  | [], a, h => by rw [if_neg (by simp; omega)]; rfl
  | m :: l, a, h => by
    rw [List.foldl_cons, rd_st s a m h, List.sum_cons]
    by_cases h1 : s.size < a + m
    · rw [if_pos h1, rdl_dead, if_pos (by omega)]
    · rw [if_neg h1, rdl_st s l (a + m) (by omega), Nat.add_assoc]
theorem rd_at (s : ByteArray) (a m : Nat) (h : a + m ≤ s.size) : rd (stA s a) (m : Nat) = stA s (a + m) := by rw [rd_st s a m (by omega), if_neg (by omega)]
theorem rawT_at (s : ByteArray) (a m : Nat) (h : a + m ≤ s.size) : getN (by_ (rawT (stA s a).1 (m : Nat))) = gN s a (a + m) := by
  have := rawT_st s a m h
  unfold gN
  rw [← this]
  rfl
def bkAt (s : ByteArray) (a : Nat) : BK := ⟨gN s a (a + 4), gN s (a + 4) (a + 4 + 1), sgn (gN s (a + 4 + 1) (a + 4 + 1 + 3)), gN s (a + 4 + 1 + 3) (a + 4 + 1 + 3 + 4), gN s (a + 4 + 1 + 3 + 4) (a + 4 + 1 + 3 + 4 + 4), gN s (a + 4 + 1 + 3 + 4 + 4) (a + 4 + 1 + 3 + 4 + 4 + 4), gN s (a + 4 + 1 + 3 + 4 + 4 + 4) (a + 4 + 1 + 3 + 4 + 4 + 4 + 4)⟩
theorem u24_st (b : Nat) (st : ByteArray × Int) (W : World) (h : InAt W b st.1 st.2) (hs : st.1.size ≤ 9223372036854775807) : Calls Try.prog 118 #[.pointer (some ⟨b, 0, none⟩)] W (Took b (.int .i64 (getN (by_ (rawT st.1 3)) : Int)) (rd st 3).1 (rd st 3).2 W) := inU24_any b st.1 st.2 W h hs
theorem u32_st (b : Nat) (st : ByteArray × Int) (W : World) (h : InAt W b st.1 st.2) (hs : st.1.size ≤ 9223372036854775807) : Calls Try.prog 94 #[.pointer (some ⟨b, 0, none⟩)] W (Took b (.int .u32 (getN (by_ (rawT st.1 4)) : Int)) (rd st 4).1 (rd st 4).2 W) := inU32_any b st.1 st.2 W h hs
theorem u32ok_raw (s : ByteArray) : u32ok (getN (by_ (rawT s 4)) : Int) := by
  have h := getN_raw s 4
  rw [show (((4 : Nat) : Int)) = 4 from rfl] at h
  unfold u32ok
  omega
/-- What readBlock leaves. -/
def RdBlk (b : Nat) (s : ByteArray) (a : Nat) (w : World) (e : Ending) (w' : World) : Prop :=
  ∃ p : BK, p.ok ∧ e = .returned (.agg #[.int .u32 p.src, .int .i64 p.frac, .int .i64 p.lost, .int .u32 p.high, .int .u32 p.jit, .int .u32 p.last, .int .u32 p.delay]) ∧ Ex b w w' ∧ ((a + 24 ≤ s.size ∧ p = bkAt s a ∧ InAt w' b (stA s (a + 24)).1 (stA s (a + 24)).2) ∨ (s.size < a + 24 ∧ InAt w' b dead.1 dead.2))
set_option maxRecDepth 100000 in
set_option maxHeartbeats 1600000 in
theorem readBlock_any (b : Nat) (s : ByteArray) (a : Nat) (w : World) (hI : InAt w b (stA s a).1 (stA s a).2) (ha : a ≤ s.size) (hs : s.size ≤ 1099511627776) :
    Calls Try.prog 111 #[.pointer (some ⟨b, 0, none⟩)] w (RdBlk b s a w) := by
  obtain ⟨st1, h1⟩ : ∃ st, rd (stA s a) 4 = st := ⟨_, rfl⟩
  obtain ⟨st2, h2⟩ : ∃ st, rd st1 1 = st := ⟨_, rfl⟩
  obtain ⟨st3, h3⟩ : ∃ st, rd st2 3 = st := ⟨_, rfl⟩
  obtain ⟨st4, h4⟩ : ∃ st, rd st3 4 = st := ⟨_, rfl⟩
  obtain ⟨st5, h5⟩ : ∃ st, rd st4 4 = st := ⟨_, rfl⟩
  obtain ⟨st6, h6⟩ : ∃ st, rd st5 4 = st := ⟨_, rfl⟩
  obtain ⟨st7, h7⟩ : ∃ st, rd st6 4 = st := ⟨_, rfl⟩
  have l0 : (stA s a).1.size ≤ 9223372036854775807 := by show (s.extract a s.size).size ≤ _; rw [ext_size]; omega
  have le : ∀ (st : ByteArray × Int) (n : Int), st.1.size ≤ 9223372036854775807 → (rd st n).1.size ≤ 9223372036854775807 := fun st n h => Nat.le_trans (rawS_le _ _ _) h
  have l1 := le _ 4 l0
  rw [h1] at l1
  have l2 := le _ 1 l1
  rw [h2] at l2
  have l3 := le _ 3 l2
  rw [h3] at l3
  have l4 := le _ 4 l3
  rw [h4] at l4
  have l5 := le _ 4 l4
  rw [h5] at l5
  have l6 := le _ 4 l5
  rw [h6] at l6
  have H1 := fun W h => u32_st b (stA s a) W h l0
  have H2 := fun W h => u8_st b st1 W h l1
  have H3 := fun W h => u24_st b st2 W h l2
  have H4 := fun W h => u32_st b st3 W h l3
  have H5 := fun W h => u32_st b st4 W h l4
  have H6 := fun W h => u32_st b st5 W h l5
  have H7 := fun W h => u32_st b st6 W h l6
  rw [h1] at H1
  rw [h2] at H2
  rw [h3] at H3
  rw [h4] at H4
  rw [h5] at H5
  rw [h6] at H6
  rw [h7] at H7
  have o1 := u32ok_raw (stA s a).1
  have o4 := u32ok_raw st3.1
  have o5 := u32ok_raw st4.1
  have o6 := u32ok_raw st5.1
  have o7 := u32ok_raw st6.1
  have g3 : getN (by_ (rawT st2.1 3)) < 16777216 := getN_raw st2.1 3
  have hall : (a + 24 ≤ s.size ∧ (⟨getN (by_ (rawT (stA s a).1 4)), getN (by_ (rawT st1.1 1)), sgn (getN (by_ (rawT st2.1 3))), getN (by_ (rawT st3.1 4)), getN (by_ (rawT st4.1 4)), getN (by_ (rawT st5.1 4)), getN (by_ (rawT st6.1 4))⟩ : BK) = bkAt s a ∧ st7 = stA s (a + 24)) ∨ (s.size < a + 24 ∧ st7 = dead) := by
    by_cases hsz : s.size < a + 24
    · right
      refine ⟨hsz, ?_⟩
      have h := rdl_st s [4, 1, 3, 4, 4, 4, 4] a ha
      rw [if_pos (by simpa using hsz)] at h
      rw [← h, ← h7, ← h6, ← h5, ← h4, ← h3, ← h2, ← h1]
      rfl
    · left
      have e1 : st1 = stA s (a + 4) := by rw [← h1]; exact rd_at s a 4 (by omega)
      have e2 : st2 = stA s (a + 4 + 1) := by rw [← h2, e1]; exact rd_at s _ 1 (by omega)
      have e3 : st3 = stA s (a + 4 + 1 + 3) := by rw [← h3, e2]; exact rd_at s _ 3 (by omega)
      have e4 : st4 = stA s (a + 4 + 1 + 3 + 4) := by rw [← h4, e3]; exact rd_at s _ 4 (by omega)
      have e5 : st5 = stA s (a + 4 + 1 + 3 + 4 + 4) := by rw [← h5, e4]; exact rd_at s _ 4 (by omega)
      have e6 : st6 = stA s (a + 4 + 1 + 3 + 4 + 4 + 4) := by rw [← h6, e5]; exact rd_at s _ 4 (by omega)
      have e7 : st7 = stA s (a + 4 + 1 + 3 + 4 + 4 + 4 + 4) := by rw [← h7, e6]; exact rd_at s _ 4 (by omega)
      refine ⟨by omega, ?_, e7⟩
      unfold bkAt
      have r1 : getN (by_ (rawT (stA s a).1 4)) = _ := rawT_at s a 4 (by omega)
      have r2 : getN (by_ (rawT (stA s (a + 4)).1 1)) = _ := rawT_at s (a + 4) 1 (by omega)
      have r3 : getN (by_ (rawT (stA s (a + 4 + 1)).1 3)) = _ := rawT_at s (a + 4 + 1) 3 (by omega)
      have r4 : getN (by_ (rawT (stA s (a + 4 + 1 + 3)).1 4)) = _ := rawT_at s (a + 4 + 1 + 3) 4 (by omega)
      have r5 : getN (by_ (rawT (stA s (a + 4 + 1 + 3 + 4)).1 4)) = _ := rawT_at s (a + 4 + 1 + 3 + 4) 4 (by omega)
      have r6 : getN (by_ (rawT (stA s (a + 4 + 1 + 3 + 4 + 4)).1 4)) = _ := rawT_at s (a + 4 + 1 + 3 + 4 + 4) 4 (by omega)
      have r7 : getN (by_ (rawT (stA s (a + 4 + 1 + 3 + 4 + 4 + 4)).1 4)) = _ := rawT_at s (a + 4 + 1 + 3 + 4 + 4 + 4) 4 (by omega)
      rw [e1, e2, e3, e4, e5, e6, r1, r2, r3, r4, r5, r6, r7]
  clear h1 h2 h3 h4 h5 h6 h7 l0 l1 l2 l3 l4 l5 l6 le
  generalize getN (by_ (rawT (stA s a).1 4)) = v1 at H1 o1 hall
  generalize getN (by_ (rawT st1.1 1)) = v2 at H2 hall
  generalize getN (by_ (rawT st2.1 3)) = v3 at H3 g3 hall
  generalize getN (by_ (rawT st3.1 4)) = v4 at H4 o4 hall
  generalize getN (by_ (rawT st4.1 4)) = v5 at H5 o5 hall
  generalize getN (by_ (rawT st5.1 4)) = v6 at H6 o6 hall
  generalize getN (by_ (rawT st6.1 4)) = v7 at H7 o7 hall
  have HS := Lib.hid (fun W => signed_any (v3 : Int) W (by omega) (by omega))
  have HA := Lib.hid hall
  have HO : Hid (u32ok v1 ∧ u32ok v4 ∧ u32ok v5 ∧ u32ok v6 ∧ u32ok v7) := Lib.hid ⟨o1, o4, o5, o6, o7⟩
  clear hall o1 o4 o5 o6 o7
  generalize sgn (v3 : Int) = sv at HS HA
  generalize hst0 : stA s a = st0 at hI H1
  clear hst0
  have K1 := Lib.hid H1
  have K2 := Lib.hid H2
  have K3 := Lib.hid H3
  have K4 := Lib.hid H4
  have K5 := Lib.hid H5
  have K6 := Lib.hid H6
  have K7 := Lib.hid H7
  clear H1 H2 H3 H4 H5 H6 H7
  have hX0 := at7_new 153 w (.int .u32 0) (.int .i64 0) (.int .i64 0) (.int .u32 0) (.int .u32 0) (.int .u32 0) (.int .u32 0)
  have hI0 := hI.alloc (.cells #[.int .u32 0, .int .i64 0, .int .i64 0, .int .u32 0, .int .u32 0, .int .u32 0, .int .u32 0] 153)
  have hx0 := (Ex.refl b w).alloc (.cells #[.int .u32 0, .int .i64 0, .int .i64 0, .int .u32 0, .int .u32 0, .int .u32 0, .int .u32 0] 153)
  have hgb : w.heap.size ≠ b := by have := hI.lt; omega
  go_enter Try.func111, Try.ntmps111
  go_wp2_with fail
  generalize w.alloc (.cells #[.int .u32 0, .int .i64 0, .int .i64 0, .int .u32 0, .int .u32 0, .int .u32 0, .int .u32 0] 153) = w1 at hX0 hI0 hx0 ⊢
  have hgn : w.heap.size ≤ w.heap.size := Nat.le_refl _
  generalize hgg : w.heap.size = g at hX0 hgb ⊢
  have HG := Lib.hid hgg
  clear hgg hI hgn
  refine (K1.out _ hI0).mono ?_
  rintro e w2 ⟨rfl, hI1, ho1⟩
  have hx1 := hx0.trans ho1.ex
  have hX1 := hX0.only hgb ho1
  clear hI0 hx0 hX0 ho1
  go_wp2_with fail
  refine (K2.out _ hI1).mono ?_
  rintro e w3 ⟨rfl, hI2, ho2⟩
  have hx2 := hx1.trans ho2.ex
  have hX2 := hX1.only hgb ho2
  clear hI1 hx1 hX1 ho2
  go_wp2_with fail
  refine (K3.out _ hI2).mono ?_
  rintro e w4 ⟨rfl, hI3, ho3⟩
  have hx3 := hx2.trans ho3.ex
  have hX3 := hX2.only hgb ho3
  clear hI2 hx2 hX2 ho3
  go_wp2_with fail
  refine (HS.out _).mono ?_
  rintro e w' ⟨rfl, rfl⟩
  go_wp2_with fail
  refine (K4.out _ hI3).mono ?_
  rintro e w5 ⟨rfl, hI4, ho4⟩
  have hx4 := hx3.trans ho4.ex
  have hX4 := hX3.only hgb ho4
  clear hI3 hx3 hX3 ho4
  go_wp2_with fail
  refine (K5.out _ hI4).mono ?_
  rintro e w6 ⟨rfl, hI5, ho5⟩
  have hx5 := hx4.trans ho5.ex
  have hX5 := hX4.only hgb ho5
  clear hI4 hx4 hX4 ho5
  go_wp2_with fail
  refine (K6.out _ hI5).mono ?_
  rintro e w7 ⟨rfl, hI6, ho6⟩
  have hx6 := hx5.trans ho6.ex
  have hX6 := hX5.only hgb ho6
  clear hI5 hx5 hX5 ho6
  go_wp2_with fail
  refine (K7.out _ hI6).mono ?_
  rintro e w8 ⟨rfl, hI7, ho7⟩
  have hx7 := hx6.trans ho7.ex
  have hX7 := hX6.only hgb ho7
  clear hI6 hx6 hX6 ho7 K1 K2 K3 K4 K5 K6 K7 HS
  obtain ⟨c0, c1, c2, c3, c4, c5, c6⟩ := hX7.cells
  obtain ⟨f0, f1, f2, f3, f4, f5, f6⟩ := hX7.frees
  have hXz := at7_store (.int .u32 (v1 : Int)) (.int .i64 (v2 : Int)) (.int .i64 sv) (.int .u32 (v4 : Int)) (.int .u32 (v5 : Int)) (.int .u32 (v6 : Int)) (.int .u32 (v7 : Int)) hX7
  have hoz := store7_only w8 g (.int .u32 (v1 : Int)) (.int .i64 (v2 : Int)) (.int .i64 sv) (.int .u32 (v4 : Int)) (.int .u32 (v5 : Int)) (.int .u32 (v6 : Int)) (.int .u32 (v7 : Int))
  have hIz := hI7.only hgb.symm hoz
  have hxz := Only.exNew hx7 (by rw [HG.out]; exact Nat.le_refl _) hoz
  go_wp2_with fail
  generalize (((((((w8.setCell ⟨g, 0, none⟩ (.int .u32 (v1 : Int))).setCell ⟨g, 1, none⟩ (.int .i64 (v2 : Int))).setCell ⟨g, 2, none⟩ (.int .i64 sv)).setCell ⟨g, 3, none⟩ (.int .u32 (v4 : Int))).setCell ⟨g, 4, none⟩ (.int .u32 (v5 : Int))).setCell ⟨g, 5, none⟩ (.int .u32 (v6 : Int))).setCell ⟨g, 6, none⟩ (.int .u32 (v7 : Int))) = wz at hXz hoz hIz hxz ⊢
  clear c0 c1 c2 c3 c4 c5 c6 f0 f1 f2 f3 f4 f5 f6 hX7 hI7 hx7 hoz
  obtain ⟨d0, d1, d2, d3, d4, d5, d6⟩ := hXz.cells
  obtain ⟨o1, o4, o5, o6, o7⟩ := HO.out
  refine bodyPost_ret (v := .agg #[.int .u32 v1, .int .i64 v2, .int .i64 sv, .int .u32 v4, .int .u32 v5, .int .u32 v6, .int .u32 v7]) (by simp [results, Try.results111, go_sem, d0, d1, d2, d3, d4, d5, d6]) rfl ⟨⟨v1, v2, sv, v4, v5, v6, v7⟩, ⟨o1, o4, o5, o6, o7⟩, rfl, hxz, ?_⟩
  rcases HA.out with ⟨q1, q2, q3⟩ | ⟨q1, q3⟩
  · exact .inl ⟨q1, q2, by rw [q3] at hIz; exact hIz⟩
  · exact .inr ⟨q1, by rw [q3] at hIz; exact hIz⟩
end Go.Proofs.Ytjoikidnnhjogaa

