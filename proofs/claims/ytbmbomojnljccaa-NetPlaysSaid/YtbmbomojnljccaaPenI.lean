/- pen.In: what its calls answer. -/
import Derived.Test.YtbmbomojnljccaaBase
namespace Go.Proofs.Ytbmbomojnljccaa
open Go.RowKit
set_option linter.unusedVariables false
/-- Nothing but block b has turned. -/
structure Only (b : Nat) (w w' : World) : Prop where
  os : w'.os = w.os
  tape : w'.tape = w.tape
  output : w'.output = w.output
  size : w'.heap.size = w.heap.size
  block : ∀ k, k ≠ b → w'.heap[k]? = w.heap[k]?
theorem Only.refl (b : Nat) (w : World) : Only b w w := ⟨rfl, rfl, rfl, rfl, fun _ _ => rfl⟩
theorem Only.trans {b : Nat} {w w' w'' : World} (h : Only b w w') (k : Only b w' w'') : Only b w w'' :=
  ⟨k.os.trans h.os, k.tape.trans h.tape, k.output.trans h.output, k.size.trans h.size, fun i hi => (k.block i hi).trans (h.block i hi)⟩
theorem Only.setCell {b : Nat} {w w' : World} (h : Only b w w') (i : Nat) (u : Value) : Only b w (w'.setCell ⟨b, i, none⟩ u) :=
  ⟨h.os, h.tape, h.output, by simp [World.setCell, h.size], fun k hk => by rw [Below.heap_setCell _ _ _ _ hk]; exact h.block k hk⟩
theorem Only.drew {b : Nat} {w w' : World} (h : Only b w w') : Only b w w'.drew := ⟨h.os, h.tape, h.output, h.size, h.block⟩
theorem Only.below {b B : Nat} {w w' : World} (h : Only b w w') (hB : B ≤ b) : Below B w w' := ⟨h.os, h.tape, h.output, by rw [h.size]; exact Nat.le_refl _, fun k hk => h.block k (by omega)⟩
theorem block_setCell {w : World} {b i : Nat} {cs : Array Value} {t : TypeId} {u : Value} (h : w.heap[b]? = some (.cells cs t (0, 0))) : (w.setCell ⟨b, i, none⟩ u).heap[b]? = some (.cells (cs.setIfInBounds i u) t (0, 0)) := by
  have hlt := lt_of_block h
  have h' : w.heap[b] = .cells cs t (0, 0) := by simpa [Array.getElem?_eq_getElem hlt] using h
  show (w.heap.modify b _)[b]? = _
  rw [Array.getElem?_eq_getElem (by simpa using hlt), Array.getElem_modify_self, h']
  rfl
def failS (s : ByteArray) (er k : Int) : ByteArray := if er = 0 ∧ k ≠ 0 then { data := #[] } else s
def failE (er k : Int) : Int := if er = 0 ∧ k ≠ 0 then k else er
/-- What Raw takes, leaves, tells. -/
def rawN (n : Int) : Nat := (max n 0).toNat
def rawT (s : ByteArray) (n : Int) : ByteArray := if s.size < rawN n then { data := #[] } else s.extract 0 (rawN n)
def rawS (s : ByteArray) (er n : Int) : ByteArray := if s.size < rawN n then failS s er 2 else s.extract (rawN n) s.size
def rawE (s : ByteArray) (er n : Int) : Int := if s.size < rawN n then failE er 2 else er
/-- The number of bytes, the highest first. -/
def getN (l : List UInt8) : Nat := l.foldl (fun n b => 256 * n + b.toNat) 0
theorem getN_snoc (l : List UInt8) (c : UInt8) : getN (l ++ [c]) = 256 * getN l + c.toNat := by simp [getN]
theorem foldN_lt (l : List UInt8) : ∀ a : Nat, l.foldl (fun n b => 256 * n + b.toNat) a < (a + 1) * 256 ^ l.length := by
  induction l with
  | nil => intro a; simp
  | cons c l ih =>
    intro a
    have h := ih (256 * a + c.toNat)
    have hc := UInt8.toNat_lt c
    have hm : (256 * a + c.toNat + 1) * 256 ^ l.length ≤ (256 * (a + 1)) * 256 ^ l.length := Nat.mul_le_mul_right _ (by omega)
    rw [List.foldl_cons, List.length_cons, Nat.pow_succ]
    have e : (a + 1) * (256 ^ l.length * 256) = (256 * (a + 1)) * 256 ^ l.length := by rw [Nat.mul_comm (256 ^ l.length) 256, ← Nat.mul_assoc, Nat.mul_comm 256 (a + 1)]
    rw [e]
    exact Nat.lt_of_lt_of_le h hm
theorem getN_lt (l : List UInt8) : getN l < 256 ^ l.length := by
  have h := foldN_lt l 0
  unfold getN
  omega
theorem getN_4 (l : List UInt8) (h : l.length ≤ 4) : getN l < 4294967296 := Nat.lt_of_lt_of_le (getN_lt l) (Nat.le_trans (Nat.pow_le_pow_right (by decide) h) (by decide))
theorem getN_3 (l : List UInt8) (h : l.length ≤ 3) : getN l < 16777216 := Nat.lt_of_lt_of_le (getN_lt l) (Nat.le_trans (Nat.pow_le_pow_right (by decide) h) (by decide))
theorem take_succ_by (s : ByteArray) (k : Nat) (h : k < s.size) : (by_ s).take (k + 1) = (by_ s).take k ++ [s[k]] := by
  rw [List.take_succ_eq_append_getElem (by rw [by_len]; exact h)]; rfl
theorem or_num (r c : Nat) (hr : r < 16777216) (hc : c < 256) : bits .or .u32 ((r : Int) * 256) (c : Int) = ((256 * r + c : Nat) : Int) := by
  rw [show ((r : Int) * 256) = ((256 * r : Nat) : Int) from by omega, u32_or_nat _ _ (by omega) (by omega)]
  have := Nat.two_pow_add_eq_or_of_lt (i := 8) (b := c) (by omega) r
  simp at this
  rw [← this]
theorem rawT_size (s : ByteArray) (n : Int) : (rawT s n).size ≤ rawN n ∧ (rawT s n).size ≤ s.size := by
  unfold rawT
  split
  · exact ⟨Nat.zero_le _, Nat.zero_le _⟩
  · simp; omega
end Go.Proofs.Ytbmbomojnljccaa
