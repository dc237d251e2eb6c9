/- Bytes: pieces of a text, the numbers that they are, reading at a place: plain facts. -/
import Derived.Test.YtilobmebfeenfaaPenM
import Derived.Test.YtilobmebfeenfaaPenR
namespace Go.Proofs.Ytilobmebfeenfaa
open Go.RowKit
set_option linter.unusedVariables false
/-- What is left behind one more number; so many. -/
def rd (st : ByteArray × Int) (n : Int) : ByteArray × Int := (rawS st.1 st.2 n, rawE st.1 st.2 n)
theorem rawS_le (s : ByteArray) (er n : Int) : (rawS s er n).size ≤ s.size := by
  unfold rawS failS
  split
  · split
    · exact Nat.zero_le _
    · exact Nat.le_refl _
  · simp
/-- A byte; a number of some bytes. -/
def fB (s : ByteArray) (i : Nat) : Nat := ((by_ s)[i]?.getD 0).toNat
def gN (s : ByteArray) (a b : Nat) : Nat := getN (by_ (s.extract a b))
theorem getN_snoc' (l : List UInt8) (c : UInt8) : getN (l ++ [c]) = 256 * getN l + c.toNat := getN_snoc l c
theorem be_snoc (n : Int) (k : Nat) : be n (k + 1) = be (n / 256) k ++ [UInt8.ofNat (n % 256).toNat] := by
  unfold be
  rw [beP_succ]
  congr 1
  · unfold beP
    apply List.map_congr_left
    intro j hj
    rw [List.mem_range] at hj
    congr 2
    rw [show k + 1 - 1 - j = (k - 1 - j) + 1 from by omega, show 8 * (k - 1 - j + 1) = 8 + 8 * (k - 1 - j) from by omega, Int.pow_add, ← Int.ediv_ediv_of_nonneg (by decide)]
    rfl
  · rw [show k + 1 - 1 - k = 0 from by omega]
    simp
/-- A number's bytes. -/
theorem be_getN : ∀ (k : Nat) (l : List UInt8), l.length = k → be ((getN l : Nat) : Int) k = l
  | 0, l, h => by rw [List.length_eq_zero_iff.1 h]; rfl
  | k + 1, l, h => by
    have hne : l ≠ [] := by intro e; rw [e] at h; cases h
    obtain ⟨m, c, rfl⟩ : ∃ m c, l = m ++ [c] := ⟨l.dropLast, l.getLast hne, (List.dropLast_concat_getLast hne).symm⟩
    have hm : m.length = k := by rw [List.length_append] at h; simpa using h
    have hc := UInt8.toNat_lt c
    rw [be_snoc, getN_snoc, show (((256 * getN m + c.toNat : Nat) : Int)) / 256 = ((getN m : Nat) : Int) from by omega, be_getN k m hm, show ((((256 * getN m + c.toNat : Nat) : Int)) % 256).toNat = c.toNat from by omega]
    simp
/-- A piece of the bytes. -/
def sl (s : ByteArray) (a b : Nat) : List UInt8 := by_ (s.extract a b)
theorem sl_len (s : ByteArray) (a b : Nat) (h : b ≤ s.size) : (sl s a b).length = b - a := by unfold sl; rw [by_len, ByteArray.size_extract]; omega
theorem sl_cat (s : ByteArray) (a b c : Nat) (h1 : a ≤ b) (h2 : b ≤ c) (h3 : c ≤ s.size) : sl s a b ++ sl s b c = sl s a c := by
  unfold sl
  rw [by_extract _ _ _ (by omega), by_extract _ _ _ (by omega), by_extract _ _ _ (by omega)]
  have e : (by_ s).take b = ((by_ s).take c).take b := by rw [List.take_take, Nat.min_eq_left h2]
  rw [e]
  generalize (by_ s).take c = M
  rw [List.drop_take]
  have e2 : M.drop b = (M.drop a).drop (b - a) := by rw [List.drop_drop]; congr 1; omega
  rw [e2, List.take_append_drop]
theorem sl_all (s : ByteArray) : sl s 0 s.size = by_ s := by unfold sl; rw [by_extract _ _ _ (Nat.le_refl _), take_all, List.drop_zero]
theorem be_sl (s : ByteArray) (a b k : Nat) (h : b ≤ s.size) (hk : b = a + k) : be ((gN s a b : Nat) : Int) k = sl s a b := be_getN k _ (by rw [show by_ (s.extract a b) = sl s a b from rfl, sl_len s a b h]; omega)
theorem bes_snoc (l : List Int) (x : Int) (k : Nat) : bes (l ++ [x]) k = bes l k ++ be x k := by simp [bes]
theorem fB_sl (s : ByteArray) (i : Nat) (h : i < s.size) : sl s i (i + 1) = [UInt8.ofNat (fB s i)] := by
  have h1 : i < (by_ s).length := by rw [by_len]; exact h
  unfold sl fB
  rw [by_extract _ _ _ (by omega), List.drop_take, show i + 1 - i = 1 from by omega, List.getElem?_eq_getElem h1]
  simp
  rw [List.drop_eq_getElem_cons h1]
  rfl
theorem fB_lt (s : ByteArray) (i : Nat) : fB s i < 256 := UInt8.toNat_lt _
theorem be_1 (n : Nat) (h : n < 256) : be ((n : Nat) : Int) 1 = [UInt8.ofNat n] := by
  rw [be_succ, be_zero]
  congr 2
  simp
  omega
theorem gN_lt (s : ByteArray) (a b k : Nat) (h : b ≤ a + k) : gN s a b < 256 ^ k := by
  unfold gN
  have h0 := getN_lt (by_ (s.extract a b))
  have h1 : (by_ (s.extract a b)).length ≤ k := by rw [by_len, ByteArray.size_extract]; omega
  exact Nat.lt_of_lt_of_le h0 (Nat.pow_le_pow_right (by decide) h1)
/-- What is left behind a bytes; nothing, and an error. -/
def stA (s : ByteArray) (a : Nat) : ByteArray × Int := (s.extract a s.size, 0)
def dead : ByteArray × Int := ({ data := #[] }, 2)
theorem ext_size (s : ByteArray) (a : Nat) : (s.extract a s.size).size = s.size - a := by rw [ByteArray.size_extract]; omega
theorem ext_ext (s : ByteArray) (a m k : Nat) (hk : a + k ≤ s.size) : (s.extract a s.size).extract m k = s.extract (a + m) (a + k) := by
  apply by_inj
  rw [by_extract _ _ _ (by rw [ext_size]; omega), by_extract _ _ _ (Nat.le_refl _), by_extract _ _ _ hk, take_all, List.drop_take, List.drop_take, List.drop_drop]
  congr 1
  omega
theorem rawN_nat (m : Nat) : rawN (m : Int) = m := by unfold rawN; omega
theorem rd_st (s : ByteArray) (a m : Nat) (h : a ≤ s.size) : rd (stA s a) (m : Nat) = if s.size < a + m then dead else stA s (a + m) := by
  unfold rd stA rawS rawE failS failE dead
  simp only [rawN_nat, ext_size]
  by_cases h1 : s.size < a + m
  · have q : s.size - a < m := by omega
    rw [if_pos q, if_pos q, if_pos h1]
    simp
  · have q : ¬ s.size - a < m := by omega
    rw [if_neg q, if_neg q, if_neg h1, ext_ext _ _ _ _ (by omega), show a + (s.size - a) = s.size from by omega]
theorem rawT_st (s : ByteArray) (a m : Nat) (h : a + m ≤ s.size) : rawT (s.extract a s.size) (m : Nat) = s.extract a (a + m) := by
  unfold rawT
  rw [rawN_nat, ext_size, if_neg (by omega), ext_ext _ _ _ _ h, Nat.add_zero]
theorem rd_dead (m : Int) : rd dead m = dead := by
  obtain ⟨_, h2, h3⟩ := raw_none 2 m (by decide)
  unfold rd dead
  rw [h2, h3]
end Go.Proofs.Ytilobmebfeenfaa
