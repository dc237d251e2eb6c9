/- report.readSent. -/
import Derived.Test.YtkchhiiomahbaaaMRpO
namespace Go.Proofs.Ytkchhiiomahbaaa
open Go.RowKit
set_option linter.unusedVariables false
theorem clk_or (h l : Nat) (hh : h < 4294967296) (hl : l < 4294967296) : bits .or .i64 (IntKind.i64.wrap ((h : Int) * 4294967296)) (l : Int) = IntKind.i64.wrap (((h * 4294967296 + l : Nat) : Int)) := by
  have e1 : (BitVec.ofInt 64 (IntKind.i64.wrap ((h : Int) * 4294967296))).toNat = h * 4294967296 := by
    rw [BitVec.toNat_ofInt]
    simp [IntKind.wrap, IntKind.bits, IntKind.signed]
    omega
  have e2 : (BitVec.ofInt 64 (l : Int)).toNat = l := by
    rw [BitVec.toNat_ofInt]
    omega
  show IntKind.i64.wrap ((BitVec.ofInt 64 (IntKind.i64.wrap ((h : Int) * 4294967296)) ||| BitVec.ofInt 64 (l : Int)).toNat : Int) = _
  rw [BitVec.toNat_or, e1, e2]
  have := Nat.two_pow_add_eq_or_of_lt (i := 32) (b := l) (by omega) h
  rw [show h * 4294967296 = 2 ^ 32 * h from by omega, ← this]
/-- Nothing but two blocks has turned. -/
structure Only2 (b g : Nat) (w w' : World) : Prop where
  os : w'.os = w.os
  tape : w'.tape = w.tape
  output : w'.output = w.output
  size : w'.heap.size = w.heap.size
  block : ∀ k, k ≠ b → k ≠ g → w'.heap[k]? = w.heap[k]?
theorem Only2.refl (b g : Nat) (w : World) : Only2 b g w w := ⟨rfl, rfl, rfl, rfl, fun _ _ _ => rfl⟩
theorem Only2.onlyB {b g : Nat} {w w' w'' : World} (h : Only2 b g w w') (k : Only b w' w'') : Only2 b g w w'' := ⟨k.os.trans h.os, k.tape.trans h.tape, k.output.trans h.output, k.size.trans h.size, fun i h1 h2 => (k.block i h1).trans (h.block i h1 h2)⟩
theorem Only2.onlyG {b g : Nat} {w w' w'' : World} (h : Only2 b g w w') (k : Only g w' w'') : Only2 b g w w'' := ⟨k.os.trans h.os, k.tape.trans h.tape, k.output.trans h.output, k.size.trans h.size, fun i h1 h2 => (k.block i h2).trans (h.block i h1 h2)⟩
theorem Only2.below {b g B : Nat} {w w' : World} (h : Only2 b g w w') (hb : B ≤ b) (hg : B ≤ g) : Below B w w' := ⟨h.os, h.tape, h.output, by rw [h.size]; exact Nat.le_refl _, fun k hk => h.block k (by omega) (by omega)⟩
/-- What readSent leaves. -/
def RdSent (b g : Nat) (s : ByteArray) (a : Nat) (c0 c1 c6 : Value) (w : World) (e : Ending) (w' : World) : Prop :=
  e = .returned (.tuple #[]) ∧ Only2 b g w w' ∧ ∃ ck t p y : Int, u32ok t ∧ u32ok p ∧ u32ok y ∧ At7 31 w' g c0 c1 (.int .i64 ck) (.int .u32 t) (.int .u32 p) (.int .u32 y) c6 ∧
    ((a + 20 ≤ s.size ∧ ck = IntKind.i64.wrap (((gN s a (a + 4) * 4294967296 + gN s (a + 4) (a + 4 + 4) : Nat) : Int)) ∧ t = gN s (a + 4 + 4) (a + 4 + 4 + 4) ∧ p = gN s (a + 4 + 4 + 4) (a + 4 + 4 + 4 + 4) ∧ y = gN s (a + 4 + 4 + 4 + 4) (a + 4 + 4 + 4 + 4 + 4) ∧ InAt w' b (stA s (a + 20)).1 (stA s (a + 20)).2) ∨ (s.size < a + 20 ∧ InAt w' b dead.1 dead.2))
set_option maxRecDepth 100000 in
set_option maxHeartbeats 1600000 in
theorem readSent_any (b g : Nat) (s : ByteArray) (a : Nat) (c0 c1 c2 c3 c4 c5 c6 : Value) (w : World) (hX : At7 31 w g c0 c1 c2 c3 c4 c5 c6) (hgb : g ≠ b) (hI : InAt w b (stA s a).1 (stA s a).2) (ha : a ≤ s.size) (hs : s.size ≤ 1099511627776) :
    Calls Try.prog 61 #[.pointer (some ⟨g, 2, none⟩), .pointer (some ⟨b, 0, none⟩)] w (RdSent b g s a c0 c1 c6 w) := by
  obtain ⟨st1, h1⟩ : ∃ st, rd (stA s a) 4 = st := ⟨_, rfl⟩
  obtain ⟨st2, h2⟩ : ∃ st, rd st1 4 = st := ⟨_, rfl⟩
  obtain ⟨st3, h3⟩ : ∃ st, rd st2 4 = st := ⟨_, rfl⟩
  obtain ⟨st4, h4⟩ : ∃ st, rd st3 4 = st := ⟨_, rfl⟩
  obtain ⟨st5, h5⟩ : ∃ st, rd st4 4 = st := ⟨_, rfl⟩
  have l0 : (stA s a).1.size ≤ 9223372036854775807 := by show (s.extract a s.size).size ≤ _; rw [ext_size]; omega
  have le : ∀ (st : ByteArray × Int) (n : Int), st.1.size ≤ 9223372036854775807 → (rd st n).1.size ≤ 9223372036854775807 := fun st n h => Nat.le_trans (rawS_le _ _ _) h
  have l1 := le _ 4 l0
  rw [h1] at l1
  have l2 := le _ 4 l1
  rw [h2] at l2
  have l3 := le _ 4 l2
  rw [h3] at l3
  have l4 := le _ 4 l3
  rw [h4] at l4
  have H1 := fun W h => u32_st b (stA s a) W h l0
  have H2 := fun W h => u32_st b st1 W h l1
  have H3 := fun W h => u32_st b st2 W h l2
  have H4 := fun W h => u32_st b st3 W h l3
  have H5 := fun W h => u32_st b st4 W h l4
  rw [h1] at H1
  rw [h2] at H2
  rw [h3] at H3
  rw [h4] at H4
  rw [h5] at H5
  have o3 := u32ok_raw st2.1
  have o4 := u32ok_raw st3.1
  have o5 := u32ok_raw st4.1
  have g1 : getN (by_ (rawT (stA s a).1 4)) < 4294967296 := getN_raw (stA s a).1 4
  have g2 : getN (by_ (rawT st1.1 4)) < 4294967296 := getN_raw st1.1 4
  have hall : (a + 20 ≤ s.size ∧ getN (by_ (rawT (stA s a).1 4)) = gN s a (a + 4) ∧ getN (by_ (rawT st1.1 4)) = gN s (a + 4) (a + 4 + 4) ∧ getN (by_ (rawT st2.1 4)) = gN s (a + 4 + 4) (a + 4 + 4 + 4) ∧ getN (by_ (rawT st3.1 4)) = gN s (a + 4 + 4 + 4) (a + 4 + 4 + 4 + 4) ∧ getN (by_ (rawT st4.1 4)) = gN s (a + 4 + 4 + 4 + 4) (a + 4 + 4 + 4 + 4 + 4) ∧ st5 = stA s (a + 20)) ∨ (s.size < a + 20 ∧ st5 = dead) := by
    by_cases hsz : s.size < a + 20
    · right
      refine ⟨hsz, ?_⟩
      have h := rdl_st s [4, 4, 4, 4, 4] a ha
      rw [if_pos (by simpa using hsz)] at h
      rw [← h, ← h5, ← h4, ← h3, ← h2, ← h1]
      rfl
    · left
      have e1 : st1 = stA s (a + 4) := by rw [← h1]; exact rd_at s a 4 (by omega)
      have e2 : st2 = stA s (a + 4 + 4) := by rw [← h2, e1]; exact rd_at s _ 4 (by omega)
      have e3 : st3 = stA s (a + 4 + 4 + 4) := by rw [← h3, e2]; exact rd_at s _ 4 (by omega)
      have e4 : st4 = stA s (a + 4 + 4 + 4 + 4) := by rw [← h4, e3]; exact rd_at s _ 4 (by omega)
      have e5 : st5 = stA s (a + 4 + 4 + 4 + 4 + 4) := by rw [← h5, e4]; exact rd_at s _ 4 (by omega)
      have r1 : getN (by_ (rawT (stA s a).1 4)) = _ := rawT_at s a 4 (by omega)
      have r2 : getN (by_ (rawT (stA s (a + 4)).1 4)) = _ := rawT_at s (a + 4) 4 (by omega)
      have r3 : getN (by_ (rawT (stA s (a + 4 + 4)).1 4)) = _ := rawT_at s (a + 4 + 4) 4 (by omega)
      have r4 : getN (by_ (rawT (stA s (a + 4 + 4 + 4)).1 4)) = _ := rawT_at s (a + 4 + 4 + 4) 4 (by omega)
      have r5 : getN (by_ (rawT (stA s (a + 4 + 4 + 4 + 4)).1 4)) = _ := rawT_at s (a + 4 + 4 + 4 + 4) 4 (by omega)
      rw [e1, e2, e3, e4]
      exact ⟨by omega, r1, r2, r3, r4, r5, e5⟩
  clear h1 h2 h3 h4 h5 l0 l1 l2 l3 l4 le
  generalize getN (by_ (rawT (stA s a).1 4)) = v1 at H1 g1 hall
  generalize getN (by_ (rawT st1.1 4)) = v2 at H2 g2 hall
  generalize getN (by_ (rawT st2.1 4)) = v3 at H3 o3 hall
  generalize getN (by_ (rawT st3.1 4)) = v4 at H4 o4 hall
  generalize getN (by_ (rawT st4.1 4)) = v5 at H5 o5 hall
  have hck := clk_or v1 v2 g1 g2
  have HA := Lib.hid hall
  have HO : Hid (u32ok v3 ∧ u32ok v4 ∧ u32ok v5) := Lib.hid ⟨o3, o4, o5⟩
  clear hall o3 o4 o5
  generalize hst0 : stA s a = st0 at hI H1
  clear hst0
  obtain ⟨ck, hckd⟩ : ∃ ck, IntKind.i64.wrap (((v1 * 4294967296 + v2 : Nat) : Int)) = ck := ⟨_, rfl⟩
  rw [hckd] at hck
  have HK := Lib.hid hckd
  have HCK : Hid (bits .or .i64 (wrap64 ((v1 : Int) * 4294967296)) (v2 : Int) = ck) := Lib.hid (by rw [← IntWalk.i64_left]; exact hck)
  clear hckd hck
  have hv1 : IntKind.i64.wrap (v1 : Int) = (v1 : Int) := IntWalk.i64_in _ ⟨by omega, by omega⟩
  have hv2 : IntKind.i64.wrap (v2 : Int) = (v2 : Int) := IntWalk.i64_in _ ⟨by omega, by omega⟩
  have K1 := Lib.hid H1
  have K2 := Lib.hid H2
  have K3 := Lib.hid H3
  have K4 := Lib.hid H4
  have K5 := Lib.hid H5
  clear H1 H2 H3 H4 H5
  go_enter Try.func61, Try.ntmps61
  go_wp2_with fail
  refine (K1.out _ hI).mono ?_
  rintro e w2 ⟨rfl, hI1, ho1⟩
  have hx1 := (Only2.refl b g w).onlyB ho1
  have hX1 := hX.only hgb ho1
  clear hI hX ho1
  go_wp2_with fail
  refine (K2.out _ hI1).mono ?_
  rintro e w3 ⟨rfl, hI2, ho2⟩
  have hx2 := hx1.onlyB ho2
  have hX2 := hX1.only hgb ho2
  clear hI1 hx1 hX1 ho2
  obtain ⟨x0, x1, x2, x3, x4, x5, x6⟩ := hX2.cells
  obtain ⟨f0, f1, f2, f3, f4, f5, f6⟩ := hX2.frees
  have hI3 := inAt_set (i := 2) (u := .int .i64 ck) hI2 hgb
  have hx3 := hx2.onlyG ((Only.refl g w3).setCell 2 (.int .i64 ck))
  have hX3 : At7 31 (w3.setCell ⟨g, 2, none⟩ (.int .i64 ck)) g c0 c1 (.int .i64 ck) c3 c4 c5 c6 := block_setCell hX2
  go_upto_region 2 with fail
  rw [HCK.out]
  generalize w3.setCell ⟨g, 2, none⟩ (.int .i64 ck) = w4 at hI3 hx3 hX3 ⊢
  clear hI2 hx2 hX2 x0 x1 x2 x3 x4 x5 x6 f0 f1 f2 f3 f4 f5 f6
  go_wp2_with fail
  refine (K3.out _ hI3).mono ?_
  rintro e w5 ⟨rfl, hI5, ho5⟩
  have hx5 := hx3.onlyB ho5
  have hX5 := hX3.only hgb ho5
  clear hI3 hx3 hX3 ho5
  go_wp2_with fail
  refine (K4.out _ hI5).mono ?_
  rintro e w6 ⟨rfl, hI6, ho6⟩
  have hx6 := hx5.onlyB ho6
  have hX6 := hX5.only hgb ho6
  clear hI5 hx5 hX5 ho6
  go_wp2_with fail
  refine (K5.out _ hI6).mono ?_
  rintro e w7 ⟨rfl, hI7, ho7⟩
  have hx7 := hx6.onlyB ho7
  have hX7 := hX6.only hgb ho7
  clear hI6 hx6 hX6 ho7 K1 K2 K3 K4 K5
  obtain ⟨x0, x1, x2, x3, x4, x5, x6⟩ := hX7.cells
  obtain ⟨f0, f1, f2, f3, f4, f5, f6⟩ := hX7.frees
  have hIz := inAt_set (i := 5) (u := .int .u32 (v5 : Int)) (inAt_set (i := 4) (u := .int .u32 (v4 : Int)) (inAt_set (i := 3) (u := .int .u32 (v3 : Int)) hI7 hgb) hgb) hgb
  have hxz := hx7.onlyG ((((Only.refl g w7).setCell 3 (.int .u32 (v3 : Int))).setCell 4 (.int .u32 (v4 : Int))).setCell 5 (.int .u32 (v5 : Int)))
  have hXa : At7 31 (w7.setCell ⟨g, 3, none⟩ (.int .u32 (v3 : Int))) g c0 c1 (.int .i64 ck) (.int .u32 (v3 : Int)) c4 c5 c6 := block_setCell hX7
  have hXb : At7 31 ((w7.setCell ⟨g, 3, none⟩ (.int .u32 (v3 : Int))).setCell ⟨g, 4, none⟩ (.int .u32 (v4 : Int))) g c0 c1 (.int .i64 ck) (.int .u32 (v3 : Int)) (.int .u32 (v4 : Int)) c5 c6 := block_setCell hXa
  have hXc : At7 31 (((w7.setCell ⟨g, 3, none⟩ (.int .u32 (v3 : Int))).setCell ⟨g, 4, none⟩ (.int .u32 (v4 : Int))).setCell ⟨g, 5, none⟩ (.int .u32 (v5 : Int))) g c0 c1 (.int .i64 ck) (.int .u32 (v3 : Int)) (.int .u32 (v4 : Int)) (.int .u32 (v5 : Int)) c6 := block_setCell hXb
  clear hXa hXb
  go_wp2
  go_end0
  obtain ⟨o3, o4, o5⟩ := HO.out
  refine ⟨rfl, hxz, ck, v3, v4, v5, o3, o4, o5, hXc, ?_⟩
  rcases HA.out with ⟨q0, q1, q2, q3, q4, q5, q6⟩ | ⟨q1, q3⟩
  · exact .inl ⟨q0, by rw [← HK.out, q1, q2], by rw [q3], by rw [q4], by rw [q5], by rw [q6] at hIz; exact hIz⟩
  · exact .inr ⟨q1, by rw [q3] at hIz; exact hIz⟩
end Go.Proofs.Ytkchhiiomahbaaa

