/- subflow: reading lines. -/
import Derived.Test.YtjoikidnnhjogaaMSfK
import Derived.Test.YtjoikidnnhjogaaMSfQ
import Derived.Test.YtjoikidnnhjogaaMb
namespace Go.Proofs.Ytjoikidnnhjogaa
open Go.RowKit
set_option linter.unusedVariables false
def sgnS (n : Int) : Int := if 8388607 < n then n - 16777216 else n
def gR (st : ByteArray × Int) (n : Int) : Int := ((getN (by_ (rawT st.1 n)) : Nat) : Int)
def liN (k : Nat) : Int := match k with
  | 0 => 1
  | 1 => 1
  | 2 => 2
  | 3 => 3
  | 4 => 1
  | _ => 4
def liS (st : ByteArray × Int) : Nat → ByteArray × Int
  | 0 => st
  | k + 1 => rd (liS st k) (liN k)
def liNx (st : ByteArray × Int) : ByteArray × Int := liS st 10
def liRd (st : ByteArray × Int) : LI := ⟨gR (liS st 0) 1, gR (liS st 1) 1, sgnS (gR (liS st 3) 3), gR (liS st 5) 4, gR (liS st 6) 4, gR (liS st 7) 4, gR (liS st 8) 4, gR (liS st 9) 4⟩
theorem signedS_any (n : Int) (w : World) (h0 : 0 ≤ n) (h1 : n ≤ 16777215) : Calls Try.prog 117 #[.int .i64 n] w fun e w' => e = .returned (.int .i64 (sgnS n)) ∧ w = w' := by
  by_cases h : 8388607 < n
  · have e : sgnS n = n - 16777216 := by unfold sgnS; rw [if_pos h]
    rw [e]
    clear e
    go_enter Try.func117, Try.ntmps117
    go_wp2
    go_ret
    exact ⟨rfl, rfl⟩
  · have e : sgnS n = n := by unfold sgnS; rw [if_neg h]
    rw [e]
    clear e
    go_enter Try.func117, Try.ntmps117
    go_wp2
    go_ret
    exact ⟨rfl, rfl⟩
/-- What readLine leaves. -/
def RdLi (b : Nat) (st : ByteArray × Int) (w : World) (e : Ending) (w' : World) : Prop :=
  e = .returned (.agg #[.int .i64 (liRd st).path, .int .i64 (liRd st).frac, .int .i64 (liRd st).lost, .int .u32 (liRd st).high, .int .u32 (liRd st).jit, .int .u32 (liRd st).bytes, .int .u32 (liRd st).last, .int .u32 (liRd st).delay]) ∧ Ex b w w' ∧ InAt w' b (liNx st).1 (liNx st).2
theorem liS_le (st : ByteArray × Int) : ∀ k, (liS st k).1.size ≤ st.1.size
  | 0 => Nat.le_refl _
  | k + 1 => Nat.le_trans (rawS_le _ _ _) (liS_le st k)
theorem tk8 (b : Nat) (x : ByteArray × Int) (W : World) (h : InAt W b x.1 x.2) (hs : x.1.size ≤ 9223372036854775807) : Calls Try.prog 108 #[.pointer (some ⟨b, 0, none⟩)] W (Took b (.int .i64 (gR x 1)) (rd x 1).1 (rd x 1).2 W) := inU8_any b x.1 x.2 W h hs
theorem tk16 (b : Nat) (x : ByteArray × Int) (W : World) (h : InAt W b x.1 x.2) (hs : x.1.size ≤ 9223372036854775807) : Calls Try.prog 96 #[.pointer (some ⟨b, 0, none⟩)] W (Took b (.int .i64 (gR x 2)) (rd x 2).1 (rd x 2).2 W) := inU16_any b x.1 x.2 W h hs
theorem tk24 (b : Nat) (x : ByteArray × Int) (W : World) (h : InAt W b x.1 x.2) (hs : x.1.size ≤ 9223372036854775807) : Calls Try.prog 118 #[.pointer (some ⟨b, 0, none⟩)] W (Took b (.int .i64 (gR x 3)) (rd x 3).1 (rd x 3).2 W) := inU24_any b x.1 x.2 W h hs
theorem tk32 (b : Nat) (x : ByteArray × Int) (W : World) (h : InAt W b x.1 x.2) (hs : x.1.size ≤ 9223372036854775807) : Calls Try.prog 94 #[.pointer (some ⟨b, 0, none⟩)] W (Took b (.int .u32 (gR x 4)) (rd x 4).1 (rd x 4).2 W) := inU32_any b x.1 x.2 W h hs
theorem gR_u32 (st : ByteArray × Int) : 0 ≤ gR st 4 ∧ gR st 4 ≤ 4294967295 := by
  have h := getN_raw st.1 4
  rw [show (((4 : Nat) : Int)) = 4 from rfl] at h
  unfold gR
  omega
set_option maxRecDepth 100000 in
set_option maxHeartbeats 3200000 in
theorem readLine_any (b : Nat) (st : ByteArray × Int) (w : World) (hI : InAt w b st.1 st.2) (hs : st.1.size ≤ 9223372036854775807) :
    Calls Try.prog 98 #[.pointer (some ⟨b, 0, none⟩)] w (RdLi b st w) := by
  have hle : ∀ k, (liS st k).1.size ≤ 9223372036854775807 := fun k => Nat.le_trans (liS_le st k) hs
  have H0 : ∀ W, InAt W b (liS st 0).1 (liS st 0).2 → Calls Try.prog 108 #[.pointer (some ⟨b, 0, none⟩)] W (Took b (.int .i64 (gR (liS st 0) 1)) (liS st 1).1 (liS st 1).2 W) := by
    intro W h
    rw [show liS st 1 = rd (liS st 0) 1 from rfl]
    exact tk8 b _ W h (hle 0)
  have H1 : ∀ W, InAt W b (liS st 1).1 (liS st 1).2 → Calls Try.prog 108 #[.pointer (some ⟨b, 0, none⟩)] W (Took b (.int .i64 (gR (liS st 1) 1)) (liS st 2).1 (liS st 2).2 W) := by
    intro W h
    rw [show liS st 2 = rd (liS st 1) 1 from rfl]
    exact tk8 b _ W h (hle 1)
  have H2 : ∀ W, InAt W b (liS st 2).1 (liS st 2).2 → Calls Try.prog 96 #[.pointer (some ⟨b, 0, none⟩)] W (Took b (.int .i64 (gR (liS st 2) 2)) (liS st 3).1 (liS st 3).2 W) := by
    intro W h
    rw [show liS st 3 = rd (liS st 2) 2 from rfl]
    exact tk16 b _ W h (hle 2)
  have H3 : ∀ W, InAt W b (liS st 3).1 (liS st 3).2 → Calls Try.prog 118 #[.pointer (some ⟨b, 0, none⟩)] W (Took b (.int .i64 (gR (liS st 3) 3)) (liS st 4).1 (liS st 4).2 W) := by
    intro W h
    rw [show liS st 4 = rd (liS st 3) 3 from rfl]
    exact tk24 b _ W h (hle 3)
  have H4 : ∀ W, InAt W b (liS st 4).1 (liS st 4).2 → Calls Try.prog 108 #[.pointer (some ⟨b, 0, none⟩)] W (Took b (.int .i64 (gR (liS st 4) 1)) (liS st 5).1 (liS st 5).2 W) := by
    intro W h
    rw [show liS st 5 = rd (liS st 4) 1 from rfl]
    exact tk8 b _ W h (hle 4)
  have H5 : ∀ W, InAt W b (liS st 5).1 (liS st 5).2 → Calls Try.prog 94 #[.pointer (some ⟨b, 0, none⟩)] W (Took b (.int .u32 (gR (liS st 5) 4)) (liS st 6).1 (liS st 6).2 W) := by
    intro W h
    rw [show liS st 6 = rd (liS st 5) 4 from rfl]
    exact tk32 b _ W h (hle 5)
  have H6 : ∀ W, InAt W b (liS st 6).1 (liS st 6).2 → Calls Try.prog 94 #[.pointer (some ⟨b, 0, none⟩)] W (Took b (.int .u32 (gR (liS st 6) 4)) (liS st 7).1 (liS st 7).2 W) := by
    intro W h
    rw [show liS st 7 = rd (liS st 6) 4 from rfl]
    exact tk32 b _ W h (hle 6)
  have H7 : ∀ W, InAt W b (liS st 7).1 (liS st 7).2 → Calls Try.prog 94 #[.pointer (some ⟨b, 0, none⟩)] W (Took b (.int .u32 (gR (liS st 7) 4)) (liS st 8).1 (liS st 8).2 W) := by
    intro W h
    rw [show liS st 8 = rd (liS st 7) 4 from rfl]
    exact tk32 b _ W h (hle 7)
  have H8 : ∀ W, InAt W b (liS st 8).1 (liS st 8).2 → Calls Try.prog 94 #[.pointer (some ⟨b, 0, none⟩)] W (Took b (.int .u32 (gR (liS st 8) 4)) (liS st 9).1 (liS st 9).2 W) := by
    intro W h
    rw [show liS st 9 = rd (liS st 8) 4 from rfl]
    exact tk32 b _ W h (hle 8)
  have H9 : ∀ W, InAt W b (liS st 9).1 (liS st 9).2 → Calls Try.prog 94 #[.pointer (some ⟨b, 0, none⟩)] W (Took b (.int .u32 (gR (liS st 9) 4)) (liS st 10).1 (liS st 10).2 W) := by
    intro W h
    rw [show liS st 10 = rd (liS st 9) 4 from rfl]
    exact tk32 b _ W h (hle 9)
  have g3 : 0 ≤ gR (liS st 3) 3 ∧ gR (liS st 3) 3 ≤ 16777215 := by
    have h := getN_raw (liS st 3).1 3
    rw [show (((3 : Nat) : Int)) = 3 from rfl] at h
    unfold gR
    omega
  have HS := Lib.hid (fun W => signedS_any (gR (liS st 3) 3) W g3.1 g3.2)
  unfold RdLi
  unfold liRd liNx
  have hI0 : InAt w b (liS st 0).1 (liS st 0).2 := by
    have e : liS st 0 = st := rfl
    rw [e]
    exact hI
  clear g3 hle hs hI
  simp only
  generalize gR (liS st 0) 1 = v0 at H0 ⊢
  generalize gR (liS st 1) 1 = v1 at H1 ⊢
  generalize gR (liS st 2) 2 = v2 at H2
  generalize sgnS (gR (liS st 3) 3) = sv at HS ⊢
  generalize gR (liS st 3) 3 = v3 at H3 HS
  generalize gR (liS st 4) 1 = v4 at H4
  generalize gR (liS st 5) 4 = v5 at H5 ⊢
  generalize gR (liS st 6) 4 = v6 at H6 ⊢
  generalize gR (liS st 7) 4 = v7 at H7 ⊢
  generalize gR (liS st 8) 4 = v8 at H8 ⊢
  generalize gR (liS st 9) 4 = v9 at H9 ⊢
  generalize liS st 0 = s0 at H0 hI0
  generalize liS st 1 = s1 at H0 H1
  generalize liS st 2 = s2 at H1 H2
  generalize liS st 3 = s3 at H2 H3
  generalize liS st 4 = s4 at H3 H4
  generalize liS st 5 = s5 at H4 H5
  generalize liS st 6 = s6 at H5 H6
  generalize liS st 7 = s7 at H6 H7
  generalize liS st 8 = s8 at H7 H8
  generalize liS st 9 = s9 at H8 H9
  generalize liS st 10 = s10 at H9 ⊢
  have K0 := Lib.hid H0
  have K1 := Lib.hid H1
  have K2 := Lib.hid H2
  have K3 := Lib.hid H3
  have K4 := Lib.hid H4
  have K5 := Lib.hid H5
  have K6 := Lib.hid H6
  have K7 := Lib.hid H7
  have K8 := Lib.hid H8
  have K9 := Lib.hid H9
  clear H0 H1 H2 H3 H4 H5 H6 H7 H8 H9
  have hX0 := atC_new 128 w #[.int .i64 0, .int .i64 0, .int .i64 0, .int .u32 0, .int .u32 0, .int .u32 0, .int .u32 0, .int .u32 0]
  have hJ0 := hI0.alloc (.cells #[.int .i64 0, .int .i64 0, .int .i64 0, .int .u32 0, .int .u32 0, .int .u32 0, .int .u32 0, .int .u32 0] 128)
  have hx0 := (Ex.refl b w).alloc (.cells #[.int .i64 0, .int .i64 0, .int .i64 0, .int .u32 0, .int .u32 0, .int .u32 0, .int .u32 0, .int .u32 0] 128)
  have hgb : w.heap.size ≠ b := by have := hI0.lt; omega
  go_enter Try.func98, Try.ntmps98
  go_wp2_with fail
  generalize w.alloc (.cells #[.int .i64 0, .int .i64 0, .int .i64 0, .int .u32 0, .int .u32 0, .int .u32 0, .int .u32 0, .int .u32 0] 128) = w1 at hX0 hJ0 hx0 ⊢
  generalize hgg : w.heap.size = g at hX0 hgb ⊢
  have HG := Lib.hid hgg
  clear hgg hI0
  refine (K0.out _ hJ0).mono ?_
  rintro e wa ⟨rfl, hI1, ho1⟩
  have hx1 := hx0.trans ho1.ex
  have hX1 := hX0.only hgb ho1
  clear hJ0 hx0 hX0 ho1
  go_wp2_with fail
  refine (K1.out _ hI1).mono ?_
  rintro e wb ⟨rfl, hI2, ho2⟩
  have hx2 := hx1.trans ho2.ex
  have hX2 := hX1.only hgb ho2
  clear hI1 hx1 hX1 ho2
  have hL2 := atC_new 128 wb #[.int .i64 v0, .int .i64 v1, .int .i64 0, .int .u32 0, .int .u32 0, .int .u32 0, .int .u32 0, .int .u32 0]
  have hX3 := hX2.alloc (.cells #[.int .i64 v0, .int .i64 v1, .int .i64 0, .int .u32 0, .int .u32 0, .int .u32 0, .int .u32 0, .int .u32 0] 128)
  have hI3 := hI2.alloc (.cells #[.int .i64 v0, .int .i64 v1, .int .i64 0, .int .u32 0, .int .u32 0, .int .u32 0, .int .u32 0, .int .u32 0] 128)
  have hx3 := hx2.alloc (.cells #[.int .i64 v0, .int .i64 v1, .int .i64 0, .int .u32 0, .int .u32 0, .int .u32 0, .int .u32 0, .int .u32 0] 128)
  have hlb : wb.heap.size ≠ b := by have := hI2.lt; omega
  have hlg : wb.heap.size ≠ g := by have := hX2.lt; omega
  have hlw : w.heap.size ≤ wb.heap.size := hx2.size
  go_upto_region 2 with fail
  generalize wb.alloc (.cells #[.int .i64 v0, .int .i64 v1, .int .i64 0, .int .u32 0, .int .u32 0, .int .u32 0, .int .u32 0, .int .u32 0] 128) = w3 at hL2 hX3 hI3 hx3 ⊢
  generalize wb.heap.size = gl at hL2 hlb hlg hlw ⊢
  clear hI2 hx2 hX2
  go_wp2_with fail
  refine (K2.out _ hI3).mono ?_
  rintro e w4 ⟨rfl, hI4, ho4⟩
  have hx4 := hx3.trans ho4.ex
  have hX4 := hX3.only hgb ho4
  have hL4 := hL2.only hlb ho4
  clear hI3 hx3 hX3 hL2 ho4
  go_wp2_with fail
  refine (K3.out _ hI4).mono ?_
  rintro e w5 ⟨rfl, hI5, ho5⟩
  have hx5 := hx4.trans ho5.ex
  have hX5 := hX4.only hgb ho5
  have hL5 := hL4.only hlb ho5
  clear hI4 hx4 hX4 hL4 ho5
  go_wp2_with fail
  refine (HS.out _).mono ?_
  rintro e w' ⟨rfl, rfl⟩
  obtain ⟨c0, c1, c2, c3, c4, c5, c6, c7⟩ := hL5.cells8
  have f2 := hL5.free 2
  have hL6 : AtC 128 (w5.setCell ⟨gl, 2, none⟩ (.int .i64 sv)) gl #[.int .i64 v0, .int .i64 v1, .int .i64 sv, .int .u32 0, .int .u32 0, .int .u32 0, .int .u32 0, .int .u32 0] := block_setCell hL5
  have hoz := (Only.refl gl w5).setCell 2 (.int .i64 sv)
  have hX6 := hX5.only hlg.symm hoz
  have hI6 := hI5.only hlb.symm hoz
  have hx6 := Only.exNew hx5 hlw hoz
  go_upto_region 4 with fail
  generalize w5.setCell ⟨gl, 2, none⟩ (.int .i64 sv) = w6 at hL6 hX6 hI6 hx6 ⊢
  clear hL5 hX5 hI5 hx5 hoz c0 c1 c2 c3 c4 c5 c6 c7 f2
  go_wp2_with fail
  refine (K4.out _ hI6).mono ?_
  rintro e w7 ⟨rfl, hI7, ho7⟩
  have hx7 := hx6.trans ho7.ex
  have hX7 := hX6.only hgb ho7
  have hL7 := hL6.only hlb ho7
  clear hI6 hx6 hX6 hL6 ho7
  go_wp2_with fail
  refine (K5.out _ hI7).mono ?_
  rintro e w8 ⟨rfl, hI8, ho8⟩
  have hx8 := hx7.trans ho8.ex
  have hX8 := hX7.only hgb ho8
  have hL8 := hL7.only hlb ho8
  clear hI7 hx7 hX7 hL7 ho8
  go_wp2_with fail
  refine (K6.out _ hI8).mono ?_
  rintro e w9 ⟨rfl, hI9, ho9⟩
  have hx9 := hx8.trans ho9.ex
  have hX9 := hX8.only hgb ho9
  have hL9 := hL8.only hlb ho9
  clear hI8 hx8 hX8 hL8 ho9
  go_wp2_with fail
  refine (K7.out _ hI9).mono ?_
  rintro e w10 ⟨rfl, hI10, ho10⟩
  have hx10 := hx9.trans ho10.ex
  have hX10 := hX9.only hgb ho10
  have hL10 := hL9.only hlb ho10
  clear hI9 hx9 hX9 hL9 ho10
  go_wp2_with fail
  refine (K8.out _ hI10).mono ?_
  rintro e w11 ⟨rfl, hI11, ho11⟩
  have hx11 := hx10.trans ho11.ex
  have hX11 := hX10.only hgb ho11
  have hL11 := hL10.only hlb ho11
  clear hI10 hx10 hX10 hL10 ho11
  go_wp2_with fail
  refine (K9.out _ hI11).mono ?_
  rintro e w12 ⟨rfl, hI12, ho12⟩
  have hx12 := hx11.trans ho12.ex
  have hX12 := hX11.only hgb ho12
  have hL12 := hL11.only hlb ho12
  clear hI11 hx11 hX11 hL11 ho12
  obtain ⟨c0, c1, c2, c3, c4, c5, c6, c7⟩ := hL12.cells8
  have f3 := hL12.free 3
  have f4 := hL12.free 4
  have f5 := hL12.free 5
  have f6 := hL12.free 6
  have f7 := hL12.free 7
  have hM3 : AtC 128 (w12.setCell ⟨gl, 3, none⟩ (.int .u32 v5)) gl #[.int .i64 v0, .int .i64 v1, .int .i64 sv, .int .u32 v5, .int .u32 0, .int .u32 0, .int .u32 0, .int .u32 0] := block_setCell hL12
  have hM4 : AtC 128 ((w12.setCell ⟨gl, 3, none⟩ (.int .u32 v5)).setCell ⟨gl, 4, none⟩ (.int .u32 v6)) gl #[.int .i64 v0, .int .i64 v1, .int .i64 sv, .int .u32 v5, .int .u32 v6, .int .u32 0, .int .u32 0, .int .u32 0] := block_setCell hM3
  have hM5 : AtC 128 (((w12.setCell ⟨gl, 3, none⟩ (.int .u32 v5)).setCell ⟨gl, 4, none⟩ (.int .u32 v6)).setCell ⟨gl, 5, none⟩ (.int .u32 v7)) gl #[.int .i64 v0, .int .i64 v1, .int .i64 sv, .int .u32 v5, .int .u32 v6, .int .u32 v7, .int .u32 0, .int .u32 0] := block_setCell hM4
  have hM6 : AtC 128 ((((w12.setCell ⟨gl, 3, none⟩ (.int .u32 v5)).setCell ⟨gl, 4, none⟩ (.int .u32 v6)).setCell ⟨gl, 5, none⟩ (.int .u32 v7)).setCell ⟨gl, 6, none⟩ (.int .u32 v8)) gl #[.int .i64 v0, .int .i64 v1, .int .i64 sv, .int .u32 v5, .int .u32 v6, .int .u32 v7, .int .u32 v8, .int .u32 0] := block_setCell hM5
  have hM7 : AtC 128 (((((w12.setCell ⟨gl, 3, none⟩ (.int .u32 v5)).setCell ⟨gl, 4, none⟩ (.int .u32 v6)).setCell ⟨gl, 5, none⟩ (.int .u32 v7)).setCell ⟨gl, 6, none⟩ (.int .u32 v8)).setCell ⟨gl, 7, none⟩ (.int .u32 v9)) gl #[.int .i64 v0, .int .i64 v1, .int .i64 sv, .int .u32 v5, .int .u32 v6, .int .u32 v7, .int .u32 v8, .int .u32 v9] := block_setCell hM6
  have hoz := (((((Only.refl gl w12).setCell 3 (.int .u32 v5)).setCell 4 (.int .u32 v6)).setCell 5 (.int .u32 v7)).setCell 6 (.int .u32 v8)).setCell 7 (.int .u32 v9)
  have hXm := hX12.only hlg.symm hoz
  have hIm := hI12.only hlb.symm hoz
  have hxm := Only.exNew hx12 hlw hoz
  go_upto_region 6 with fail
  generalize ((((w12.setCell ⟨gl, 3, none⟩ (.int .u32 v5)).setCell ⟨gl, 4, none⟩ (.int .u32 v6)).setCell ⟨gl, 5, none⟩ (.int .u32 v7)).setCell ⟨gl, 6, none⟩ (.int .u32 v8)).setCell ⟨gl, 7, none⟩ (.int .u32 v9) = wm at hM7 hXm hIm hxm ⊢
  clear hL12 hX12 hI12 hx12 hoz hM3 hM4 hM5 hM6 c0 c1 c2 c3 c4 c5 c6 c7 f3 f4 f5 f6 f7 K0 K1 K2 K3 K4 K5 K6 K7 K8 K9 HS
  obtain ⟨c0, c1, c2, c3, c4, c5, c6, c7⟩ := hM7.cells8
  obtain ⟨y0, y1, y2, y3, y4, y5, y6, y7⟩ := hXm.cells8
  have f0 := hXm.free 0
  have f1 := hXm.free 1
  have f2 := hXm.free 2
  have f3 := hXm.free 3
  have f4 := hXm.free 4
  have f5 := hXm.free 5
  have f6 := hXm.free 6
  have f7 := hXm.free 7
  have hN0 : AtC 128 (wm.setCell ⟨g, 0, none⟩ (.int .i64 v0)) g #[.int .i64 v0, .int .i64 0, .int .i64 0, .int .u32 0, .int .u32 0, .int .u32 0, .int .u32 0, .int .u32 0] := block_setCell hXm
  have hN1 : AtC 128 ((wm.setCell ⟨g, 0, none⟩ (.int .i64 v0)).setCell ⟨g, 1, none⟩ (.int .i64 v1)) g #[.int .i64 v0, .int .i64 v1, .int .i64 0, .int .u32 0, .int .u32 0, .int .u32 0, .int .u32 0, .int .u32 0] := block_setCell hN0
  have hN2 : AtC 128 (((wm.setCell ⟨g, 0, none⟩ (.int .i64 v0)).setCell ⟨g, 1, none⟩ (.int .i64 v1)).setCell ⟨g, 2, none⟩ (.int .i64 sv)) g #[.int .i64 v0, .int .i64 v1, .int .i64 sv, .int .u32 0, .int .u32 0, .int .u32 0, .int .u32 0, .int .u32 0] := block_setCell hN1
  have hN3 : AtC 128 ((((wm.setCell ⟨g, 0, none⟩ (.int .i64 v0)).setCell ⟨g, 1, none⟩ (.int .i64 v1)).setCell ⟨g, 2, none⟩ (.int .i64 sv)).setCell ⟨g, 3, none⟩ (.int .u32 v5)) g #[.int .i64 v0, .int .i64 v1, .int .i64 sv, .int .u32 v5, .int .u32 0, .int .u32 0, .int .u32 0, .int .u32 0] := block_setCell hN2
  have hN4 : AtC 128 (((((wm.setCell ⟨g, 0, none⟩ (.int .i64 v0)).setCell ⟨g, 1, none⟩ (.int .i64 v1)).setCell ⟨g, 2, none⟩ (.int .i64 sv)).setCell ⟨g, 3, none⟩ (.int .u32 v5)).setCell ⟨g, 4, none⟩ (.int .u32 v6)) g #[.int .i64 v0, .int .i64 v1, .int .i64 sv, .int .u32 v5, .int .u32 v6, .int .u32 0, .int .u32 0, .int .u32 0] := block_setCell hN3
  have hN5 : AtC 128 ((((((wm.setCell ⟨g, 0, none⟩ (.int .i64 v0)).setCell ⟨g, 1, none⟩ (.int .i64 v1)).setCell ⟨g, 2, none⟩ (.int .i64 sv)).setCell ⟨g, 3, none⟩ (.int .u32 v5)).setCell ⟨g, 4, none⟩ (.int .u32 v6)).setCell ⟨g, 5, none⟩ (.int .u32 v7)) g #[.int .i64 v0, .int .i64 v1, .int .i64 sv, .int .u32 v5, .int .u32 v6, .int .u32 v7, .int .u32 0, .int .u32 0] := block_setCell hN4
  have hN6 : AtC 128 (((((((wm.setCell ⟨g, 0, none⟩ (.int .i64 v0)).setCell ⟨g, 1, none⟩ (.int .i64 v1)).setCell ⟨g, 2, none⟩ (.int .i64 sv)).setCell ⟨g, 3, none⟩ (.int .u32 v5)).setCell ⟨g, 4, none⟩ (.int .u32 v6)).setCell ⟨g, 5, none⟩ (.int .u32 v7)).setCell ⟨g, 6, none⟩ (.int .u32 v8)) g #[.int .i64 v0, .int .i64 v1, .int .i64 sv, .int .u32 v5, .int .u32 v6, .int .u32 v7, .int .u32 v8, .int .u32 0] := block_setCell hN5
  have hN7 : AtC 128 ((((((((wm.setCell ⟨g, 0, none⟩ (.int .i64 v0)).setCell ⟨g, 1, none⟩ (.int .i64 v1)).setCell ⟨g, 2, none⟩ (.int .i64 sv)).setCell ⟨g, 3, none⟩ (.int .u32 v5)).setCell ⟨g, 4, none⟩ (.int .u32 v6)).setCell ⟨g, 5, none⟩ (.int .u32 v7)).setCell ⟨g, 6, none⟩ (.int .u32 v8)).setCell ⟨g, 7, none⟩ (.int .u32 v9)) g #[.int .i64 v0, .int .i64 v1, .int .i64 sv, .int .u32 v5, .int .u32 v6, .int .u32 v7, .int .u32 v8, .int .u32 v9] := block_setCell hN6
  have hoz := (((((((((Only.refl g wm).setCell 0 (.int .i64 v0)).setCell 1 (.int .i64 v1)).setCell 2 (.int .i64 sv)).setCell 3 (.int .u32 v5)).setCell 4 (.int .u32 v6)).setCell 5 (.int .u32 v7)).setCell 6 (.int .u32 v8)).setCell 7 (.int .u32 v9))
  have hIz := hIm.only hgb.symm hoz
  have hxz := Only.exNew hxm (by rw [HG.out]; exact Nat.le_refl _) hoz
  clear hN0 hN1 hN2 hN3 hN4 hN5 hN6 hXm
  go_wp2_with fail
  generalize (((((((wm.setCell ⟨g, 0, none⟩ (.int .i64 v0)).setCell ⟨g, 1, none⟩ (.int .i64 v1)).setCell ⟨g, 2, none⟩ (.int .i64 sv)).setCell ⟨g, 3, none⟩ (.int .u32 v5)).setCell ⟨g, 4, none⟩ (.int .u32 v6)).setCell ⟨g, 5, none⟩ (.int .u32 v7)).setCell ⟨g, 6, none⟩ (.int .u32 v8)).setCell ⟨g, 7, none⟩ (.int .u32 v9) = wz at hN7 hoz hIz hxz ⊢
  clear c0 c1 c2 c3 c4 c5 c6 c7 y0 y1 y2 y3 y4 y5 y6 y7 f0 f1 f2 f3 f4 f5 f6 f7 hIm hxm hoz hM7
  obtain ⟨d0, d1, d2, d3, d4, d5, d6, d7⟩ := hN7.cells8
  refine bodyPost_ret (v := .agg #[.int .i64 v0, .int .i64 v1, .int .i64 sv, .int .u32 v5, .int .u32 v6, .int .u32 v7, .int .u32 v8, .int .u32 v9]) (by simp [results, Try.results98, go_sem, d0, d1, d2, d3, d4, d5, d6, d7]) rfl ⟨rfl, hxz, hIz⟩
end Go.Proofs.Ytjoikidnnhjogaa

