/- piece.next, walked. -/
import Derived.Test.YtagimjaojpdfiaaPcN
namespace Go.Proofs.Ytagimjaojpdfiaa
open Go.RowKit
set_option linter.unusedVariables false
/-- Of what was there nothing but block b has turned. -/
structure Ex (b : Nat) (w w' : World) : Prop where
  os : w'.os = w.os
  tape : w'.tape = w.tape
  output : w'.output = w.output
  size : w.heap.size ≤ w'.heap.size
  block : ∀ k, k < w.heap.size → k ≠ b → w'.heap[k]? = w.heap[k]?
theorem Ex.refl (b : Nat) (w : World) : Ex b w w := ⟨rfl, rfl, rfl, Nat.le_refl _, fun _ _ _ => rfl⟩
theorem Ex.trans {b : Nat} {w w' w'' : World} (h : Ex b w w') (k : Ex b w' w'') : Ex b w w'' :=
  ⟨k.os.trans h.os, k.tape.trans h.tape, k.output.trans h.output, Nat.le_trans h.size k.size, fun i hi hb => (k.block i (Nat.lt_of_lt_of_le hi h.size) hb).trans (h.block i hi hb)⟩
theorem Only.ex {b : Nat} {w w' : World} (h : Only b w w') : Ex b w w' := ⟨h.os, h.tape, h.output, by rw [h.size]; exact Nat.le_refl _, fun k _ hk => h.block k hk⟩
theorem Below.ex {b : Nat} {w w' : World} (h : Below w.heap.size w w') : Ex b w w' := ⟨h.os, h.tape, h.output, h.size, fun k hk _ => h.block k hk⟩
/-- What is turned is new. -/
theorem Only.exNew {b n : Nat} {w0 w w' : World} (h : Ex b w0 w) (hn : w0.heap.size ≤ n) (ho : Only n w w') : Ex b w0 w' :=
  ⟨ho.os.trans h.os, ho.tape.trans h.tape, ho.output.trans h.output, by rw [ho.size]; exact h.size, fun k hk hb => (ho.block k (by omega)).trans (h.block k hk hb)⟩
theorem Ex.setNew {b n i : Nat} {u : Value} {w0 w : World} (h : Ex b w0 w) (hn : w0.heap.size ≤ n) : Ex b w0 (w.setCell ⟨n, i, none⟩ u) := Only.exNew h hn ((Only.refl n w).setCell i u)
theorem Ex.alloc {b : Nat} {w0 w : World} (h : Ex b w0 w) (o : Obj) : Ex b w0 (w.alloc o) := h.trans (Below.ex ((Below.refl _ _).alloc (Nat.le_refl _) o))
theorem Ex.below {b B : Nat} {w w' : World} (h : Ex b w w') (hB : B ≤ b) (hs : B ≤ w.heap.size) : Below B w w' := ⟨h.os, h.tape, h.output, h.size, fun k hk => h.block k (by omega) (by omega)⟩
theorem InAt.only {w w' : World} {b n : Nat} {s : ByteArray} {er : Int} (h : InAt w b s er) (hne : b ≠ n) (ho : Only n w w') : InAt w' b s er := by unfold InAt; rw [ho.block b hne]; exact h
theorem own_ex {w w' : World} {B b m : Nat} {e : TypeId} {v : Value} {n : Nat} {xs : List Value} (h : w.ownsRow B e m v n xs) (hx : Ex b w w') (hb : some b ≠ v.ownBlock) : w'.ownsRow B e m v n xs :=
  h.kept (row := some b) ⟨hx.os, hx.tape, hx.output, hx.size, fun k hk hne => hx.block k hk (fun e => hne (by rw [e]))⟩ (.inr (fun e => hb e.symm))
theorem rawT_le (s : ByteArray) (n : Nat) : (rawT s (n : Nat)).size ≤ n := by
  have := (rawT_size s (n : Nat)).1
  rw [rawN_nat] at this
  exact this
theorem getN_raw (s : ByteArray) (n : Nat) : getN (by_ (rawT s (n : Nat))) < 256 ^ n := by
  have h1 : (by_ (rawT s (n : Nat))).length ≤ n := by rw [by_len]; exact rawT_le s n
  exact Nat.lt_of_lt_of_le (getN_lt _) (Nat.pow_le_pow_right (by decide) h1)
theorem nxH_le (s : ByteArray) : (nxH s).size ≤ 4 := rawT_le s 4
theorem nxF_le (s : ByteArray) : nxF s ≤ 255 := Nat.le_of_lt_succ (getN_raw (nxH s) 1)
theorem nxN_le (s : ByteArray) : nxN s ≤ 65535 := Nat.le_of_lt_succ (getN_raw (rd (rd (nxH s, 0) 1) 1).1 2)
theorem flt_le (st : ByteArray × Int) (k : Int) : (flt st k).1.size ≤ st.1.size := by
  unfold flt failS
  split
  · exact Nat.zero_le _
  · exact Nat.le_refl _
theorem nxA_le (s : ByteArray) : (nxA s).1.size ≤ s.size := by
  have l0 : (rd (s, 0) 4).1.size ≤ s.size := rawS_le _ _ _
  unfold nxA
  split
  · exact Nat.le_trans (flt_le _ _) l0
  · exact l0
theorem nxB_le (s : ByteArray) : (nxB s).1.size ≤ s.size := by
  unfold nxB
  split
  · exact nxA_le s
  · exact Nat.le_trans (flt_le _ _) (nxA_le s)
theorem raw_st (b : Nat) (st : ByteArray × Int) (n : Int) (W : World) (h : InAt W b st.1 st.2) (hs : st.1.size ≤ 9223372036854775807) : Calls Try.prog 114 #[.pointer (some ⟨b, 0, none⟩), .int .i64 n] W (Took b (.string (rawT st.1 n)) (rd st n).1 (rd st n).2 W) := inRaw_any b st.1 st.2 n W h hs
theorem u8_st (b : Nat) (st : ByteArray × Int) (W : World) (h : InAt W b st.1 st.2) (hs : st.1.size ≤ 9223372036854775807) : Calls Try.prog 115 #[.pointer (some ⟨b, 0, none⟩)] W (Took b (.int .i64 (getN (by_ (rawT st.1 1)) : Int)) (rd st 1).1 (rd st 1).2 W) := inU8_any b st.1 st.2 W h hs
theorem u16_st (b : Nat) (st : ByteArray × Int) (W : World) (h : InAt W b st.1 st.2) (hs : st.1.size ≤ 9223372036854775807) : Calls Try.prog 61 #[.pointer (some ⟨b, 0, none⟩)] W (Took b (.int .i64 (getN (by_ (rawT st.1 2)) : Int)) (rd st 2).1 (rd st 2).2 W) := inU16_any b st.1 st.2 W h hs
theorem fail_st (b : Nat) (st : ByteArray × Int) (k : Int) (W : World) (h : InAt W b st.1 st.2) : Calls Try.prog 118 #[.pointer (some ⟨b, 0, none⟩), .int .i64 k] W (Took b (.tuple #[]) (flt st k).1 (flt st k).2 W) := fail_any b st.1 st.2 k W h
theorem nxP_body (s : ByteArray) : (nxP s).body = rawT (nxB s).1 (4 * (nxN s : Nat)) := by simp only [nxP]
theorem nxZ_rd (s : ByteArray) : nxZ s = rd (nxB s) (4 * (nxN s : Nat)) := by rw [nxZ]
theorem nxH_eq (s : ByteArray) : nxH s = rawT s 4 := by rw [nxH]
theorem nxF_eq (s : ByteArray) : nxF s = getN (by_ (rawT (nxH s) 1)) := by rw [nxF]
theorem nxK_eq (s : ByteArray) : nxK s = getN (by_ (rawT (rd (nxH s, 0) 1).1 1)) := by rw [nxK]
theorem nxN_eq (s : ByteArray) : nxN s = getN (by_ (rawT (rd (rd (nxH s, 0) 1) 1).1 2)) := by rw [nxN]
theorem nxA_eq (s : ByteArray) : nxA s = if nxF s / 32 ≠ 4 then flt (rd (s, 0) 4) 1 else rd (s, 0) 4 := by rw [nxA]
theorem nxB_eq (s : ByteArray) : nxB s = if nxC s then nxA s else flt (nxA s) 5 := by rw [nxB]
/-- What next leaves. -/
def Nexted (b : Nat) (s : ByteArray) (w : World) (e : Ending) (w' : World) : Prop :=
  e = .returned (.agg #[.int .i64 (nxP s).count, .int .i64 (nxP s).kind, .string (nxP s).body]) ∧ InAt w' b (nxZ s).1 (nxZ s).2 ∧ Ex b w w'
set_option maxRecDepth 100000 in
set_option maxHeartbeats 1600000 in
theorem next_any (b : Nat) (s : ByteArray) (w : World) (hI : InAt w b s 0) (hs : s.size ≤ 1099511627776) :
    Calls Try.prog 84 #[.pointer (some ⟨b, 0, none⟩)] w (Nexted b s w) := by
  have hbl := hI.lt
  have z0 := nxH_le s
  have z1 : (rd (nxH s, 0) 1).1.size ≤ 4 := Nat.le_trans (rawS_le _ _ _) z0
  have z2 : (rd (rd (nxH s, 0) 1) 1).1.size ≤ 4 := Nat.le_trans (rawS_le _ _ _) z1
  have HR := fun W h => raw_st b (s, 0) 4 W h (Nat.le_trans hs (by decide))
  have H1 := fun n W h => u8_st n (nxH s, 0) W h (Nat.le_trans z0 (by decide))
  have H2 := fun n W h => u8_st n (rd (nxH s, 0) 1) W h (Nat.le_trans z1 (by decide))
  have H3 := fun n W h => u16_st n (rd (rd (nxH s, 0) 1) 1) W h (Nat.le_trans z2 (by decide))
  have HC : ∀ W, Calls Try.prog 119 #[.string (nxH s)] W fun e w' => e = .returned (.bool (nxC s)) ∧ W = w' := fun W => ctrl_any (nxH s) W (Nat.le_trans z0 (by decide)) (nxC s) (by unfold nxC fB; rw [decide_eq_true_iff])
  have HF1 := fun W h => fail_st b (rd (s, 0) 4) 1 W h
  have HF5 := fun W h => fail_st b (nxA s) 5 W h
  have HB := fun W h => raw_st b (nxB s) (4 * (nxN s : Nat)) W h (Nat.le_trans (nxB_le s) (Nat.le_trans hs (by decide)))
  have hF := nxF_le s
  have hN := nxN_le s
  have e1 := pc_not31 (nxF s) hF
  have e2 := pc_and31 (nxF s) hF
  have hA := nxA_eq s
  have hBd := nxB_eq s
  simp only at HR H1
  rw [← nxH_eq] at HR
  rw [← nxF_eq] at H1
  rw [← nxK_eq] at H2
  rw [← nxN_eq] at H3
  rw [← nxP_body, ← nxZ_rd] at HB
  clear z0 z1 z2
  unfold Nexted
  rw [show (nxP s).count = ((nxF s % 32 : Nat) : Int) from rfl, show (nxP s).kind = (nxK s : Int) from rfl]
  generalize (nxP s).body = body at HB ⊢
  generalize nxZ s = zt at HB ⊢
  generalize nxB s = bt at HB hBd
  generalize nxA s = at_ at hA hBd HF5
  generalize rd (s, 0) 4 = r4 at HR HF1 hA
  generalize rd (rd (rd (nxH s, 0) 1) 1) 2 = q3 at H3
  generalize rd (rd (nxH s, 0) 1) 1 = q2 at H2 H3
  generalize rd (nxH s, 0) 1 = q1 at H1 H2
  generalize nxC s = cc at HC hBd
  generalize nxH s = hd at HR H1 HC
  generalize nxF s = F at H1 e1 e2 hF hA ⊢
  generalize nxK s = K at H2 ⊢
  generalize nxN s = N at H3 HB hN
  obtain ⟨c1, hc1⟩ : ∃ c : Bool, (((F / 32 * 32 : Nat) : Int) != 128) = c := ⟨_, rfl⟩
  have hA2 : at_ = if c1 then flt r4 1 else r4 := by
    rw [hA, ← hc1]
    by_cases k : F / 32 = 4
    · rw [if_neg (by omega), if_neg (by simp; omega)]
    · rw [if_pos k, if_pos (by simp; omega)]
  generalize F / 32 * 32 = F1 at e1 hc1
  generalize F % 32 = F2 at e2 ⊢
  have HR' := Lib.hid HR
  have H1' := Lib.hid H1
  have H2' := Lib.hid H2
  have H3' := Lib.hid H3
  have HF1' := Lib.hid HF1
  have HF5' := Lib.hid HF5
  have HB' := Lib.hid HB
  have HC' := Lib.hid HC
  clear HR H1 H2 H3 HF1 HF5 HB HC hA
  have hx0 : Ex b w (w.alloc (.cells #[.int .i64 0, .int .i64 0, .string { data := #[] }] 28)) := (Ex.refl b w).alloc _
  have hI0 := hI.alloc (.cells #[.int .i64 0, .int .i64 0, .string { data := #[] }] 28)
  have hP0 : (w.alloc (.cells #[.int .i64 0, .int .i64 0, .string { data := #[] }] 28)).heap[w.heap.size]? = some (.cells #[.int .i64 0, .int .i64 0, .string { data := #[] }] 28 (0, 0)) := heap_alloc_new _ _
  go_enter Try.func84, Try.ntmps84
  go_wp2_with fail
  generalize w.alloc (.cells #[.int .i64 0, .int .i64 0, .string { data := #[] }] 28) = w1 at hx0 hI0 hP0 ⊢
  obtain ⟨g, hg⟩ : ∃ g, w.heap.size = g := ⟨_, rfl⟩
  have hgb : g ≠ b := by omega
  have Hg := Lib.hid hg
  rw [hg] at hP0 ⊢
  clear hg hI
  refine (HR'.out _ hI0).mono ?_
  rintro e w2 ⟨rfl, hI2, ho2⟩
  have hx2 := hx0.trans ho2.ex
  have hP2 := (ho2.block g hgb).trans hP0
  clear hI0 hx0 hP0 ho2 HR'
  go_wp2_with ((go_at_call 58; refine (of_any _ _).mono ?_; rintro e w' ⟨rfl, rfl⟩))
  have hJ := inAt_new hd w2
  have hI3 := hI2.alloc (.cells #[.string hd, .int .i64 0] 199)
  have hx3 := hx2.alloc (.cells #[.string hd, .int .i64 0] 199)
  have hP3 := heap_at_old w2 (.cells #[.string hd, .int .i64 0] 199) _ _ hP2
  have hnb : w2.heap.size ≠ b := by have := hI2.lt; omega
  have hng : w2.heap.size ≠ g := by have := lt_of_block hP2; omega
  have hnn : w.heap.size ≤ w2.heap.size := hx2.size
  generalize w2.alloc (.cells #[.string hd, .int .i64 0] 199) = w3 at hJ hI3 hx3 hP3 ⊢
  clear hI2 hx2 hP2
  generalize w2.heap.size = n at hJ hnb hng hnn ⊢
  refine (H1'.out n _ hJ).mono ?_
  rintro e w4 ⟨rfl, hJ4, ho4⟩
  go_wp2_with fail
  refine (H2'.out n _ hJ4).mono ?_
  rintro e w5 ⟨rfl, hJ5, ho5⟩
  go_wp2_with fail
  refine (H3'.out n _ hJ5).mono ?_
  rintro e w6 ⟨rfl, hJ6, ho6⟩
  have hx6 := Only.exNew (Only.exNew (Only.exNew hx3 hnn ho4) hnn ho5) hnn ho6
  have hI6 := ((hI3.only hnb.symm ho4).only hnb.symm ho5).only hnb.symm ho6
  have hP6 := (ho6.block g hng.symm).trans ((ho5.block g hng.symm).trans ((ho4.block g hng.symm).trans hP3))
  clear hJ hJ4 hJ5 hJ6 ho4 ho5 ho6 hI3 hx3 hP3 H1' H2' H3'
  go_upto_if 20 with fail
  go_cut [5] (fun z5 wx => z5 = .int .i64 F ∧ InAt wx b at_.1 at_.2 ∧ Ex b w wx ∧ wx.heap[g]? = some (.cells #[.int .i64 0, .int .i64 0, .string { data := #[] }] 28 (0, 0)))
  case first =>
    cases c1
    · rw [if_neg (by decide)] at hA2
      rw [← hA2] at hI6
      go_wp2_with fail
      go_meet
      exact ⟨rfl, hI6, hx6, hP6⟩
    · rw [if_pos rfl] at hA2
      go_wp2_with fail
      refine (HF1'.out _ hI6).mono ?_
      rintro e w7 ⟨rfl, hI7, ho7⟩
      rw [← hA2] at hI7
      go_wp2_with fail
      go_meet
      exact ⟨rfl, hI7, hx6.trans ho7.ex, (ho7.block g hgb).trans hP6⟩
  case rest =>
  obtain ⟨rfl, hI7, hx7, hP7⟩ := hcut
  rename World => w7
  clear hI6 hx6 hP6 HF1' hc1 hA2
  go_wp2_with fail
  refine (HC'.out _).mono ?_
  rintro e w8 ⟨rfl, rfl⟩
  go_upto_if 25 with fail
  go_cut [5] (fun z5 wx => z5 = .int .i64 F ∧ InAt wx b bt.1 bt.2 ∧ Ex b w wx ∧ wx.heap[g]? = some (.cells #[.int .i64 0, .int .i64 0, .string { data := #[] }] 28 (0, 0)))
  case first =>
    cases cc
    · rw [if_neg (by decide)] at hBd
      go_wp2_with fail
      refine (HF5'.out _ hI7).mono ?_
      rintro e w9 ⟨rfl, hI8, ho8⟩
      rw [← hBd] at hI8
      go_wp2_with fail
      go_meet
      exact ⟨rfl, hI8, hx7.trans ho8.ex, (ho8.block g hgb).trans hP7⟩
    · rw [if_pos rfl] at hBd
      rw [← hBd] at hI7
      go_wp2_with fail
      go_meet
      exact ⟨rfl, hI7, hx7, hP7⟩
  case rest =>
  obtain ⟨rfl, hI8, hx8, hP8⟩ := hcut
  rename World => w8
  clear hI7 hx7 hP7 HF5' HC' hBd
  have e3 : IntKind.i64.wrap (4 * (N : Int)) = 4 * (N : Int) := IntWalk.i64_in _ ⟨by omega, by omega⟩
  go_wp2_with fail
  refine (HB'.out _ hI8).mono ?_
  rintro e w9 ⟨rfl, hI9, ho9⟩
  have hx9 := hx8.trans ho9.ex
  have hP9 := (ho9.block g hgb).trans hP8
  clear hI8 hx8 hP8 HB' ho9
  have c0 : w9.cell? ⟨g, 0, none⟩ = some (.int .i64 0) := by simpa using cell_of_row w9 g 0 _ _ (0, 0) hP9
  have c1 : w9.cell? ⟨g, 1, none⟩ = some (.int .i64 0) := by simpa using cell_of_row w9 g 1 _ _ (0, 0) hP9
  have c2 : w9.cell? ⟨g, 2, none⟩ = some (.string { data := #[] }) := by simpa using cell_of_row w9 g 2 _ _ (0, 0) hP9
  have f0 : w9.frozen? ⟨g, 0, none⟩ = false := by simp [World.frozen?, hP9]
  have f1 : w9.frozen? ⟨g, 1, none⟩ = false := by simp [World.frozen?, hP9]
  have f2 : w9.frozen? ⟨g, 2, none⟩ = false := by simp [World.frozen?, hP9]
  have hIz := inAt_set (i := 2) (u := .string body) (inAt_set (i := 1) (u := .int .i64 (K : Int)) (inAt_set (i := 0) (u := .int .i64 (F2 : Int)) hI9 hgb) hgb) hgb
  have hg0 : w.heap.size ≤ g := by rw [Hg.out]; exact Nat.le_refl _
  have hxz := ((hx9.setNew (i := 0) (u := .int .i64 (F2 : Int)) hg0).setNew (i := 1) (u := .int .i64 (K : Int)) hg0).setNew (i := 2) (u := .string body) hg0
  have hPz := block_setCell (i := 2) (u := .string body) (block_setCell (i := 1) (u := .int .i64 (K : Int)) (block_setCell (i := 0) (u := .int .i64 (F2 : Int)) hP9))
  have hPy : (((w9.setCell ⟨g, 0, none⟩ (.int .i64 (F2 : Int))).setCell ⟨g, 1, none⟩ (.int .i64 (K : Int))).setCell ⟨g, 2, none⟩ (.string body)).heap[g]? = some (.cells #[.int .i64 (F2 : Int), .int .i64 (K : Int), .string body] 28 (0, 0)) := hPz
  clear hPz
  go_wp2
  generalize ((w9.setCell ⟨g, 0, none⟩ (.int .i64 (F2 : Int))).setCell ⟨g, 1, none⟩ (.int .i64 (K : Int))).setCell ⟨g, 2, none⟩ (.string body) = wz at hIz hxz hPy ⊢
  have d0 : wz.cell? ⟨g, 0, none⟩ = some (.int .i64 F2) := by simpa using cell_of_row wz g 0 _ _ (0, 0) hPy
  have d1 : wz.cell? ⟨g, 1, none⟩ = some (.int .i64 K) := by simpa using cell_of_row wz g 1 _ _ (0, 0) hPy
  have d2 : wz.cell? ⟨g, 2, none⟩ = some (.string body) := by simpa using cell_of_row wz g 2 _ _ (0, 0) hPy
  clear hx9 hP9 c0 c1 c2 f0 f1 f2 hI9
  refine bodyPost_ret (v := .agg #[.int .i64 F2, .int .i64 K, .string body]) (by simp [results, Try.results84, go_sem, d0, d1, d2]) rfl ⟨rfl, hIz, hxz⟩
end Go.Proofs.Ytagimjaojpdfiaa
