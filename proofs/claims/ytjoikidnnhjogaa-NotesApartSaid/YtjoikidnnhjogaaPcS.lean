/- piece.next, walked. -/
import Derived.Test.YtjoikidnnhjogaaPcN
namespace Go.Proofs.Ytjoikidnnhjogaa
open Go.RowKit
set_option linter.unusedVariables false
/-- Of what was there nothing but block b has turned. -/
structure Ex (b : Nat) (w w' : World) : Prop where
  os : w'.os = w.os
  tape : w'.tape = w.tape
  output : w'.output = w.output
  size : w.heap.size ≤ w'.heap.size
  block : ∀ k, k < w.heap.size → k ≠ b → w'.heap[k]? = w.heap[k]?
theorem Ex.refl (b : Nat) (w : World) : Ex b w w := ⟨rfl, rfl, rfl, Nat.le_refl _, fun _ _ _ => rfl⟩
theorem Ex.trans {b : Nat} {w w' w'' : World} (h : Ex b w w') (k : Ex b w' w'') : Ex b w w'' :=
  ⟨k.os.trans h.os, k.tape.trans h.tape, k.output.trans h.output, Nat.le_trans h.size k.size, fun i hi hb => (k.block i (Nat.lt_of_lt_of_le hi h.size) hb).trans (h.block i hi hb)⟩
theorem Only.ex {b : Nat} {w w' : World} (h : Only b w w') : Ex b w w' := ⟨h.os, h.tape, h.output, by rw [h.size]; exact Nat.le_refl _, fun k _ hk => h.block k hk⟩
theorem Below.ex {b : Nat} {w w' : World} (h : Below w.heap.size w w') : Ex b w w' := ⟨h.os, h.tape, h.output, h.size, fun k hk _ => h.block k hk⟩
/-- What is turned is new. -/
theorem Only.exNew {b n : Nat} {w0 w w' : World} (h : Ex b w0 w) (hn : w0.heap.size ≤ n) (ho : Only n w w') : Ex b w0 w' :=
  ⟨ho.os.trans h.os, ho.tape.trans h.tape, ho.output.trans h.output, by rw [ho.size]; exact h.size, fun k hk hb => (ho.block k (by omega)).trans (h.block k hk hb)⟩
theorem Ex.setNew {b n i : Nat} {u : Value} {w0 w : World} (h : Ex b w0 w) (hn : w0.heap.size ≤ n) : Ex b w0 (w.setCell ⟨n, i, none⟩ u) := Only.exNew h hn ((Only.refl n w).setCell i u)
theorem Ex.alloc {b : Nat} {w0 w : World} (h : Ex b w0 w) (o : Obj) : Ex b w0 (w.alloc o) := h.trans (Below.ex ((Below.refl _ _).alloc (Nat.le_refl _) o))
theorem Ex.below {b B : Nat} {w w' : World} (h : Ex b w w') (hB : B ≤ b) (hs : B ≤ w.heap.size) : Below B w w' := ⟨h.os, h.tape, h.output, h.size, fun k hk => h.block k (by omega) (by omega)⟩
theorem InAt.only {w w' : World} {b n : Nat} {s : ByteArray} {er : Int} (h : InAt w b s er) (hne : b ≠ n) (ho : Only n w w') : InAt w' b s er := by unfold InAt; rw [ho.block b hne]; exact h
theorem own_ex {w w' : World} {B b m : Nat} {e : TypeId} {v : Value} {n : Nat} {xs : List Value} (h : w.ownsRow B e m v n xs) (hx : Ex b w w') (hb : some b ≠ v.ownBlock) : w'.ownsRow B e m v n xs :=
  h.kept (row := some b) ⟨hx.os, hx.tape, hx.output, hx.size, fun k hk hne => hx.block k hk (fun e => hne (by rw [e]))⟩ (.inr (fun e => hb e.symm))
theorem rawT_le (s : ByteArray) (n : Nat) : (rawT s (n : Nat)).size ≤ n := by
  have := (rawT_size s (n : Nat)).1
  rw [rawN_nat] at this
  exact this
theorem getN_raw (s : ByteArray) (n : Nat) : getN (by_ (rawT s (n : Nat))) < 256 ^ n := by
  have h1 : (by_ (rawT s (n : Nat))).length ≤ n := by rw [by_len]; exact rawT_le s n
  exact Nat.lt_of_lt_of_le (getN_lt _) (Nat.pow_le_pow_right (by decide) h1)
theorem nxH_le (s : ByteArray) : (nxH s).size ≤ 4 := rawT_le s 4
theorem nxF_le (s : ByteArray) : nxF s ≤ 255 := Nat.le_of_lt_succ (getN_raw (nxH s) 1)
theorem nxN_le (s : ByteArray) : nxN s ≤ 65535 := Nat.le_of_lt_succ (getN_raw (rd (rd (nxH s, 0) 1) 1).1 2)
theorem flt_le (st : ByteArray × Int) (k : Int) : (flt st k).1.size ≤ st.1.size := by
  unfold flt failS
  split
  · exact Nat.zero_le _
  · exact Nat.le_refl _
theorem nxA_le (s : ByteArray) : (nxA s).1.size ≤ s.size := by
  have l0 : (rd (s, 0) 4).1.size ≤ s.size := rawS_le _ _ _
  unfold nxA
  split
  · exact Nat.le_trans (flt_le _ _) l0
  · exact l0
theorem nxB_le (s : ByteArray) : (nxB s).1.size ≤ s.size := by
  unfold nxB
  split
  · exact nxA_le s
  · exact Nat.le_trans (flt_le _ _) (nxA_le s)
theorem raw_st (b : Nat) (st : ByteArray × Int) (n : Int) (W : World) (h : InAt W b st.1 st.2) (hs : st.1.size ≤ 9223372036854775807) : Calls Try.prog 107 #[.pointer (some ⟨b, 0, none⟩), .int .i64 n] W (Took b (.string (rawT st.1 n)) (rd st n).1 (rd st n).2 W) := inRaw_any b st.1 st.2 n W h hs
theorem u8_st (b : Nat) (st : ByteArray × Int) (W : World) (h : InAt W b st.1 st.2) (hs : st.1.size ≤ 9223372036854775807) : Calls Try.prog 108 #[.pointer (some ⟨b, 0, none⟩)] W (Took b (.int .i64 (getN (by_ (rawT st.1 1)) : Int)) (rd st 1).1 (rd st 1).2 W) := inU8_any b st.1 st.2 W h hs
theorem u16_st (b : Nat) (st : ByteArray × Int) (W : World) (h : InAt W b st.1 st.2) (hs : st.1.size ≤ 9223372036854775807) : Calls Try.prog 96 #[.pointer (some ⟨b, 0, none⟩)] W (Took b (.int .i64 (getN (by_ (rawT st.1 2)) : Int)) (rd st 2).1 (rd st 2).2 W) := inU16_any b st.1 st.2 W h hs
theorem fail_st (b : Nat) (st : ByteArray × Int) (k : Int) (W : World) (h : InAt W b st.1 st.2) : Calls Try.prog 125 #[.pointer (some ⟨b, 0, none⟩), .int .i64 k] W (Took b (.tuple #[]) (flt st k).1 (flt st k).2 W) := fail_any b st.1 st.2 k W h
theorem nxP_body (s : ByteArray) : (nxP s).body = rawT (nxB s).1 (4 * (nxN s : Nat)) := by simp only [nxP]
theorem nxZ_rd (s : ByteArray) : nxZ s = rd (nxB s) (4 * (nxN s : Nat)) := by rw [nxZ]
theorem nxH_eq (s : ByteArray) : nxH s = rawT s 4 := by rw [nxH]
theorem nxF_eq (s : ByteArray) : nxF s = getN (by_ (rawT (nxH s) 1)) := by rw [nxF]
theorem nxK_eq (s : ByteArray) : nxK s = getN (by_ (rawT (rd (nxH s, 0) 1).1 1)) := by rw [nxK]
theorem nxN_eq (s : ByteArray) : nxN s = getN (by_ (rawT (rd (rd (nxH s, 0) 1) 1).1 2)) := by rw [nxN]
theorem nxA_eq (s : ByteArray) : nxA s = if nxF s / 32 ≠ 4 then flt (rd (s, 0) 4) 1 else rd (s, 0) 4 := by rw [nxA]
theorem nxB_eq (s : ByteArray) : nxB s = if nxC s then nxA s else flt (nxA s) 5 := by rw [nxB]
/-- What next leaves. -/
def Nexted (b : Nat) (s : ByteArray) (w : World) (e : Ending) (w' : World) : Prop :=
  e = .returned (.agg #[.int .i64 (nxP s).count, .int .i64 (nxP s).kind, .string (nxP s).body]) ∧ InAt w' b (nxZ s).1 (nxZ s).2 ∧ Ex b w w'
end Go.Proofs.Ytjoikidnnhjogaa

