/- What crc's calls, and the document's, answer. -/
import Derived.Test.YtbmbomojnljccaaRows
import Derived.Test.YtbmbomojnljccaaCrcMath
import Derived.Test.YtbmbomojnljccaaSerMath
import Derived.Test.YtbmbomojnljccaaRow
import Derived.Test.YtbmbomojnljccaaBase
import Derived.WalkKit
import Derived.ProofKit
import Derived.OpenShut
import Derived.ShutString
import Derived.WalkLawsBesides
import Derived.WalkSpells
import Derived.Lib.Hide
import Derived.Outline
import Derived.Handy
import Derived.Laws.BitsAllLaws
namespace Go.Proofs.Ytbmbomojnljccaa
open Go.RowKit
set_option linter.unusedVariables false
/-- A bit, as a number. -/
def bn (b : Bool) : Nat := if b then 1 else 0
theorem bn_le (b : Bool) : bn b ≤ 1 := by cases b <;> decide
theorem bn_bv (b : Bool) : bn b = (Crc.bv b).toNat := by rw [Crc.bv_nat]; rfl
theorem bit_num (s : ByteArray) (i : Nat) (h : i / 8 < s.size) : bits .and .u32 ((s[i / 8].toNat : Int) / 2 ^ (7 - i % 8) % 4294967296) 1 = (bn (Crc.bitOf (by_ s) i) : Int) := by
  unfold Crc.bitOf
  rw [by_at s _ h]
  have hb := UInt8.toNat_lt s[i / 8]
  generalize s[i / 8].toNat = b at hb
  generalize 7 - i % 8 = j
  have hle : b / 2 ^ j ≤ b := Nat.div_le_self _ _
  have e : ((b : Int) / 2 ^ j % 4294967296) = ((b / 2 ^ j : Nat) : Int) := by
    rw [Int.emod_eq_of_lt (Int.ediv_nonneg (by omega) (by exact Int.pow_nonneg (by decide)))]
    · norm_cast
    · have : ((b : Int) / 2 ^ j) = ((b / 2 ^ j : Nat) : Int) := by norm_cast
      omega
  rw [e, show (1 : Int) = ((1 : Nat) : Int) from rfl, u32_and_nat _ _ (by omega) (by omega), nat_mask1, Nat.testBit_eq_decide_div_mod_eq]
  unfold bn
  split <;> simp_all <;> omega
theorem twice_num (r : BitVec 32) : bits .xor .u32 ((r.toNat : Int) * 2 % 4294967296) ((r.toNat : Int) / 2147483648 * 79764919) = ((Crc.twice r).toNat : Int) := by
  have hlt := r.isLt
  have h1 : r.toNat / 2147483648 ≤ 1 := by omega
  have e1 : ((r.toNat : Int) * 2 % 4294967296) = ((r.toNat * 2 % 4294967296 : Nat) : Int) := by omega
  have e2 : ((r.toNat : Int) / 2147483648 * 79764919) = ((r.toNat / 2147483648 * 79764919 : Nat) : Int) := by omega
  rw [e1, e2, u32_xor_nat _ _ (by omega) (by omega), Crc.twice_nat]
theorem length_any (s : ByteArray) (w : World) (hs : s.size ≤ 1099511627776) : Calls Try.prog 47 #[.string s] w fun e w' => e = .returned (.int .i64 (8 * (s.size : Int))) ∧ w = w' := by
  go_enter Try.func47, Try.ntmps47
  go_wp2
  go_ret
  exact ⟨rfl, rfl⟩
theorem step_num (r : BitVec 32) (b : Bool) : bits .xor .u32 ((Crc.twice r).toNat : Int) (bn b : Int) = ((Crc.step r b).toNat : Int) := by
  have h1 := (Crc.twice r).isLt
  have h2 := bn_le b
  rw [u32_xor_nat _ _ (by omega) (by omega), bn_bv]
  unfold Crc.step
  rw [BitVec.toNat_xor]

/-- The remainder of a text. -/
def remOf (l : List UInt8) : BitVec 32 := Crc.R (Crc.bitOf l) (8 * l.length)
theorem remOf_step (l s : List UInt8) (j : Nat) : Crc.R (Crc.bitOf (l ++ s)) (8 * l.length + (j + 1)) = Crc.step (Crc.R (Crc.bitOf (l ++ s)) (8 * l.length + j)) (Crc.bitOf s j) := by
  have e : Crc.R (Crc.bitOf (l ++ s)) (8 * l.length + (j + 1)) = Crc.step (Crc.R (Crc.bitOf (l ++ s)) (8 * l.length + j)) (Crc.bitOf (l ++ s) (8 * l.length + j)) := rfl
  rw [e, Crc.bitOf_append_right]
theorem remOf_start (l s : List UInt8) : Crc.R (Crc.bitOf (l ++ s)) (8 * l.length + 0) = remOf l := by
  unfold remOf
  exact Crc.R_congr _ (fun i hi => Crc.bitOf_append_left l s i hi)
theorem remOf_end (l s : List UInt8) (n : Nat) (hn : n = 8 * s.length) : Crc.R (Crc.bitOf (l ++ s)) (8 * l.length + n) = remOf (l ++ s) := by
  unfold remOf
  rw [hn, List.length_append]
  congr 1
  omega
theorem info64 : (Try.prog.info? 3).map (fun i => (i.zero, i.size, i.bytes)) = some (some (.int .i64 0), 1, 8) := by kernel_rfl
/-- The first n bits of a text, as numbers. -/
def bitsN (l : List UInt8) (n : Nat) : List Int := (List.range n).map fun i => (bn (Crc.bitOf l i) : Int)
theorem bitsN_succ (l : List UInt8) (n : Nat) : bitsN l (n + 1) = bitsN l n ++ [(bn (Crc.bitOf l n) : Int)] := by simp [bitsN, List.range_succ]
theorem bitsN_len (l : List UInt8) (n : Nat) : (bitsN l n).length = n := by simp [bitsN]
theorem bitsN_at (l : List UInt8) (n i : Nat) (h : i < n) : (bitsN l n)[i]?.getD 0 = (bn (Crc.bitOf l i) : Int) := by simp [bitsN, h]
theorem bit_quo (s : ByteArray) (i j : Nat) (h : i < s.size) (hj : j < 8) : ((s[i].toNat : Int) / ((128 / 2 ^ j : Nat) : Int) % 2) = (bn (Crc.bitOf (by_ s) (8 * i + j)) : Int) := by
  unfold Crc.bitOf
  rw [show (8 * i + j) / 8 = i from by omega, show (8 * i + j) % 8 = j from by omega, by_at s i h, Nat.testBit_eq_decide_div_mod_eq]
  have e : 128 / 2 ^ j = 2 ^ (7 - j) := by
    have : 128 = 2 ^ (7 - j) * 2 ^ j := by rw [← Nat.pow_add, show 7 - j + j = 7 from by omega]
    rw [this, Nat.mul_div_cancel _ (Nat.pow_pos (by decide))]
  rw [e]
  unfold bn
  generalize s[i].toNat = b
  generalize 2 ^ (7 - j) = p
  have : ((b : Int) / (p : Int) % 2) = ((b / p % 2 : Nat) : Int) := by norm_cast
  rw [this]
  split <;> simp_all <;> omega
set_option maxHeartbeats 800000 in
theorem bits_any (s : ByteArray) (w : World) (hs : s.size ≤ 1099511627776) :
    Calls Try.prog 46 #[.string s] w fun e w' => ∃ v, e = .returned v ∧ w'.ownsRow w.heap.size 3 1 v (8 * s.size) ((bitsN (by_ s) (8 * s.size)).map (Value.int .i64)) ∧ Below w.heap.size w w' := by
  obtain ⟨i0, hi, hz0, hz1, hz2⟩ := info_parts info64
  go_enter Try.func46, Try.ntmps46
  go_wp2
  go_loopw [3, 4] (fun v i wr => ∃ k : Nat, k ≤ s.size ∧ i = .int .i64 k ∧ wr.ownsRow w.heap.size 3 1 v (8 * k) ((bitsN (by_ s) (8 * k)).map (Value.int .i64)) ∧ Below w.heap.size w wr) (fun _ i _ => s.size - (intOf i).toNat)
  case atStart => exact ⟨0, Nat.zero_le _, rfl, World.ownsRow_made _ _ _ (Nat.le_refl _) (by decide) rfl, (Below.refl _ _).alloc (Nat.le_refl _) _⟩
  case round =>
    obtain ⟨k, hk, rfl, hown, hb⟩ := hrel
    by_cases hlt : k < s.size
    · have hq := bit_quo s k
      have hbyte := UInt8.toNat_lt s[k]
      have Hq := Lib.hid hq
      clear hq
      go_wp2
      obtain ⟨wo, rfl⟩ : ∃ wo : World, wo = wr := ⟨_, rfl⟩
      go_loopw [3, 6] (fun v kk wi => ∃ j K : Nat, j ≤ 8 ∧ Hid (K = 128 / 2 ^ j) ∧ (j < 8 → 1 ≤ K) ∧ K ≤ 128 ∧ kk = .int .i64 K ∧ wi.ownsRow w.heap.size 3 1 v (8 * k + j) ((bitsN (by_ s) (8 * k + j)).map (Value.int .i64)) ∧ Below w.heap.size w wi) (fun _ kk _ => (intOf kk).toNat)
      case atStart => exact ⟨0, 128, by omega, rfl, by omega, by omega, rfl, hown, hb⟩
      case round =>
        obtain ⟨j, K, hj, hK, hK1, hK2, rfl, hown2, hb2⟩ := hrel
        clear hown hb
        by_cases hj8 : j < 8
        · have hK1' := hK1 hj8
          have hbit := Hq.out j hlt hj8
          rw [← hK.out] at hbit
          have Hbit := Lib.hid hbit
          clear hbit hK1 Hq
          have q0 : 0 ≤ (s[k].toNat : Int) / (K : Int) := Int.ediv_nonneg (by omega) (by omega)
          have q1 : (s[k].toNat : Int) / (K : Int) ≤ 255 := Int.le_trans (Int.ediv_le_self _ (by omega)) (by omega)
          have hK3 : Hid (K / 2 = 128 / 2 ^ (j + 1)) := by
            show K / 2 = _
            rw [hK.out, Nat.div_div_eq_div_mul, Nat.pow_succ]
          have hK4 : j + 1 < 8 → 1 ≤ K / 2 := by
            intro h
            rw [hK3.out]
            exact (Nat.le_div_iff_mul_le (Nat.pow_pos (by decide))).2 (by rw [Nat.one_mul]; exact (Nat.pow_le_pow_right (by decide) (show j + 1 ≤ 7 from by omega)))
          clear hK
          go_wp2_with (at_builtin; refine append_one (W := w) rfl _ _ 57 rfl w.heap.size 3 i0 (.int .i64 0) 8 Try.underlying57 hi hz0 hz1 hz2 rfl _ _ _ rfl hown2 (.int .i64 ((s[k].toNat : Int) / (K : Int) % 2)) rfl rfl ?d1 ?d2 w.heap.size (Nat.le_refl _) hb2.size hb2 ?_)
          case d1 => unfold maxLen; omega
          case d2 => omega
          intro v' w' hown3 hb3
          have H3 : w'.ownsRow w.heap.size 3 1 v' (8 * k + (j + 1)) ((bitsN (by_ s) (8 * k + (j + 1))).map (Value.int .i64)) := by
            rw [← Nat.add_assoc, bitsN_succ, List.map_append, ← Hbit.out]; exact hown3
          clear hown3 hown2 hb2 Hbit q0 q1
          go_wp2
          go_roundw
          case rel => exact ⟨j + 1, K / 2, by omega, hK3, hK4, by omega, by go_num, H3, hb3⟩
          case measure => simp [intOf]; omega
        · obtain rfl : j = 8 := by omega
          have hK0 : K = 0 := by have := hK.out; simpa using this
          subst hK0
          clear hK hK1 hK2 Hq
          go_wp2
          go_roundw
          case rel => exact ⟨k + 1, by omega, by go_num, by rw [Nat.mul_succ]; exact hown2, hb2⟩
          case measure => simp [intOf]; omega
    · obtain rfl : k = s.size := by omega
      go_wp2
      go_ret
      exact ⟨_, rfl, hown, hb⟩
end Go.Proofs.Ytbmbomojnljccaa
