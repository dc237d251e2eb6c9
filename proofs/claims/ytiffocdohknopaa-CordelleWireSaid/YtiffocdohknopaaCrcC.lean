/- What crc's calls, and the document's, answer. -/
import Derived.Test.YtiffocdohknopaaRows
import Derived.Test.YtiffocdohknopaaCrcMath
import Derived.Test.YtiffocdohknopaaSerMath
import Derived.Test.YtiffocdohknopaaRow
import Derived.Test.YtiffocdohknopaaBase
import Derived.WalkKit
import Derived.ProofKit
import Derived.OpenShut
import Derived.ShutString
import Derived.WalkLawsBesides
import Derived.WalkSpells
import Derived.Lib.Hide
import Derived.Outline
import Derived.Handy
import Derived.Laws.BitsAllLaws
namespace Go.Proofs.Ytiffocdohknopaa
open Go.RowKit
set_option linter.unusedVariables false
/-- A bit, as a number. -/
def bn (b : Bool) : Nat := if b then 1 else 0
theorem bn_le (b : Bool) : bn b ≤ 1 := by cases b <;> decide
theorem bn_bv (b : Bool) : bn b = (Crc.bv b).toNat := by rw [Crc.bv_nat]; rfl
theorem bit_num (s : ByteArray) (i : Nat) (h : i / 8 < s.size) : bits .and .u32 ((s[i / 8].toNat : Int) / 2 ^ (7 - i % 8) % 4294967296) 1 = (bn (Crc.bitOf (by_ s) i) : Int) := by
  unfold Crc.bitOf
  rw [by_at s _ h]
  have hb := UInt8.toNat_lt s[i / 8]
  generalize s[i / 8].toNat = b at hb
  generalize 7 - i % 8 = j
  have hle : b / 2 ^ j ≤ b := Nat.div_le_self _ _
  have e : ((b : Int) / 2 ^ j % 4294967296) = ((b / 2 ^ j : Nat) : Int) := by
    rw [Int.emod_eq_of_lt (Int.ediv_nonneg (by omega) (by exact Int.pow_nonneg (by decide)))]
    · norm_cast
    · have : ((b : Int) / 2 ^ j) = ((b / 2 ^ j : Nat) : Int) := by norm_cast
      omega
  rw [e, show (1 : Int) = ((1 : Nat) : Int) from rfl, u32_and_nat _ _ (by omega) (by omega), nat_mask1, Nat.testBit_eq_decide_div_mod_eq]
  unfold bn
  split <;> simp_all <;> omega
theorem bit_any (s : ByteArray) (i : Nat) (w : World) (hi : i < 8 * s.size) (hs : s.size ≤ 1099511627776) : Calls Try.prog 48 #[.string s, .int .i64 (i : Int)] w fun e w' => e = .returned (.int .u32 (bn (Crc.bitOf (by_ s) i))) ∧ w = w' := by
  have h8 : i / 8 < s.size := by omega
  have hn := bit_num s i h8
  go_enter Try.func48, Try.ntmps48
  go_wp2
  go_ret
  exact ⟨rfl, rfl⟩
theorem twice_num (r : BitVec 32) : bits .xor .u32 ((r.toNat : Int) * 2 % 4294967296) ((r.toNat : Int) / 2147483648 * 79764919) = ((Crc.twice r).toNat : Int) := by
  have hlt := r.isLt
  have h1 : r.toNat / 2147483648 ≤ 1 := by omega
  have e1 : ((r.toNat : Int) * 2 % 4294967296) = ((r.toNat * 2 % 4294967296 : Nat) : Int) := by omega
  have e2 : ((r.toNat : Int) / 2147483648 * 79764919) = ((r.toNat / 2147483648 * 79764919 : Nat) : Int) := by omega
  rw [e1, e2, u32_xor_nat _ _ (by omega) (by omega), Crc.twice_nat]
theorem twice_any (r : BitVec 32) (w : World) : Calls Try.prog 47 #[.int .u32 (r.toNat : Int)] w fun e w' => e = .returned (.int .u32 ((Crc.twice r).toNat : Int)) ∧ w = w' := by
  have hr := r.isLt
  have hn := twice_num r
  go_enter Try.func47, Try.ntmps47
  go_wp2
  go_ret
  exact ⟨rfl, rfl⟩
theorem length_any (s : ByteArray) (w : World) (hs : s.size ≤ 1099511627776) : Calls Try.prog 46 #[.string s] w fun e w' => e = .returned (.int .i64 (8 * (s.size : Int))) ∧ w = w' := by
  go_enter Try.func46, Try.ntmps46
  go_wp2
  go_ret
  exact ⟨rfl, rfl⟩
theorem step_num (r : BitVec 32) (b : Bool) : bits .xor .u32 ((Crc.twice r).toNat : Int) (bn b : Int) = ((Crc.step r b).toNat : Int) := by
  have h1 := (Crc.twice r).isLt
  have h2 := bn_le b
  rw [u32_xor_nat _ _ (by omega) (by omega), bn_bv]
  unfold Crc.step
  rw [BitVec.toNat_xor]

/-- The remainder of a text. -/
def remOf (l : List UInt8) : BitVec 32 := Crc.R (Crc.bitOf l) (8 * l.length)
theorem remOf_step (l s : List UInt8) (j : Nat) : Crc.R (Crc.bitOf (l ++ s)) (8 * l.length + (j + 1)) = Crc.step (Crc.R (Crc.bitOf (l ++ s)) (8 * l.length + j)) (Crc.bitOf s j) := by
  have e : Crc.R (Crc.bitOf (l ++ s)) (8 * l.length + (j + 1)) = Crc.step (Crc.R (Crc.bitOf (l ++ s)) (8 * l.length + j)) (Crc.bitOf (l ++ s) (8 * l.length + j)) := rfl
  rw [e, Crc.bitOf_append_right]
theorem remOf_start (l s : List UInt8) : Crc.R (Crc.bitOf (l ++ s)) (8 * l.length + 0) = remOf l := by
  unfold remOf
  exact Crc.R_congr _ (fun i hi => Crc.bitOf_append_left l s i hi)
theorem remOf_end (l s : List UInt8) (n : Nat) (hn : n = 8 * s.length) : Crc.R (Crc.bitOf (l ++ s)) (8 * l.length + n) = remOf (l ++ s) := by
  unfold remOf
  rw [hn, List.length_append]
  congr 1
  omega
set_option maxHeartbeats 800000 in
theorem rem_any (zs : List ByteArray) (a : Option Addr) (c n : Nat) (w : World) (hn : n = zs.length) (hr : ReadsT w a zs) (hl : zs.length ≤ 1099511627776) (hz : ∀ s ∈ zs, s.size ≤ 1099511627776) :
    Calls Try.prog 25 #[.slice a n c] w fun e w' => e = .returned (.int .u32 ((remOf (cat zs)).toNat : Int)) ∧ w = w' := by
  subst hn
  go_enter Try.func25, Try.ntmps25
  go_wp2
  go_loop [3, 9] (fun m i => ∃ k : Nat, k ≤ zs.length ∧ i = .int .i64 k ∧ m = .int .u32 ((remOf (cat (zs.take k))).toNat : Int)) (fun _ i => zs.length - (intOf i).toNat)
  case atStart => exact ⟨0, Nat.zero_le _, rfl, rfl⟩
  case round =>
    obtain ⟨k, hk, rfl, rfl⟩ := hrel
    by_cases hlt : k < zs.length
    · obtain ⟨b, off, rfl, hcell⟩ := hr.at hlt
      have hts := Lib.hid (cat_take_succ zs k hlt)
      have hsz : (zs[k]?.getD ByteArray.empty).size ≤ 1099511627776 := by rw [List.getElem?_eq_getElem hlt]; exact hz _ (List.getElem_mem hlt)
      generalize zs[k]?.getD ByteArray.empty = s at hcell hts hsz
      generalize cat (zs.take k) = l at hts
      clear hr hz
      go_wp2_with ((go_at_call 46; refine (length_any _ _ (by omega)).mono ?_; rintro e w' ⟨rfl, rfl⟩))
      go_loop [3, 15] (fun m i => ∃ j : Nat, j ≤ 8 * s.size ∧ i = .int .i64 j ∧ m = .int .u32 ((Crc.R (Crc.bitOf (l ++ by_ s)) (8 * l.length + j)).toNat : Int)) (fun _ i => 8 * s.size - (intOf i).toNat)
      case atStart => exact ⟨0, Nat.zero_le _, rfl, by rw [remOf_start]⟩
      case round =>
        obtain ⟨j, hj, rfl, rfl⟩ := hrel
        by_cases hlt2 : j < 8 * s.size
        · have hst := Lib.hid (remOf_step l (by_ s) j)
          generalize Crc.R (Crc.bitOf (l ++ by_ s)) (8 * l.length + j) = r at hst
          have hsn := step_num r (Crc.bitOf (by_ s) j)
          go_wp2_with (first | (go_at_call 47; refine (twice_any _ _).mono ?_; rintro e w' ⟨rfl, rfl⟩) | (go_at_call 48; refine (bit_any _ _ _ (by omega) (by omega)).mono ?_; rintro e w' ⟨rfl, rfl⟩))
          go_round
          case rel => exact ⟨j + 1, by omega, by go_num, by rw [hst.out]⟩
          case measure => simp [intOf]; omega
        · obtain rfl : j = 8 * s.size := by omega
          go_wp2
          go_round
          case rel => exact ⟨k + 1, by omega, by go_num, by rw [hts.out, remOf_end _ _ _ (by rw [by_len])]⟩
          case measure => simp [intOf]; omega
    · obtain rfl : k = zs.length := by omega
      go_wp2
      go_ret
      exact ⟨rfl, rfl⟩

theorem rem_one (s : ByteArray) (w : World) (hs : s.size ≤ 1099511627776) :
    Calls Try.prog 25 #[.slice (some ⟨w.heap.size, 0, none⟩) 1 1] (w.alloc (.cells #[.string s] 9)) fun e w' => e = .returned (.int .u32 ((remOf (by_ s)).toNat : Int)) ∧ w.alloc (.cells #[.string s] 9) = w' := by
  rw [← cat_one]
  exact rem_any [s] _ _ 1 _ rfl (reads_one w s _) (by simp) (by simpa using hs)
theorem right_any (s : ByteArray) (w : World) (hs : s.size ≤ 1099511627776) :
    Calls Try.prog 27 #[.string s] w fun e w' => e = .returned (.bool (((remOf (by_ s)).toNat : Int) == 0)) ∧ Below w.heap.size w w' := by
  go_enter Try.func27, Try.ntmps27
  go_wp2_with ((go_at_call 25; refine (rem_one _ _ hs).mono ?_; rintro e w' ⟨rfl, rfl⟩))
  go_ret
  exact ⟨rfl, (Below.refl _ _).alloc (Nat.le_refl _) _⟩
theorem info64 : (Try.prog.info? 3).map (fun i => (i.zero, i.size, i.bytes)) = some (some (.int .i64 0), 1, 8) := by kernel_rfl
/-- The first n bits of a text, as numbers. -/
def bitsN (l : List UInt8) (n : Nat) : List Int := (List.range n).map fun i => (bn (Crc.bitOf l i) : Int)
theorem bitsN_succ (l : List UInt8) (n : Nat) : bitsN l (n + 1) = bitsN l n ++ [(bn (Crc.bitOf l n) : Int)] := by simp [bitsN, List.range_succ]
theorem bitsN_len (l : List UInt8) (n : Nat) : (bitsN l n).length = n := by simp [bitsN]
theorem bitsN_at (l : List UInt8) (n i : Nat) (h : i < n) : (bitsN l n)[i]?.getD 0 = (bn (Crc.bitOf l i) : Int) := by simp [bitsN, h]
theorem bit_quo (s : ByteArray) (i j : Nat) (h : i < s.size) (hj : j < 8) : ((s[i].toNat : Int) / ((128 / 2 ^ j : Nat) : Int) % 2) = (bn (Crc.bitOf (by_ s) (8 * i + j)) : Int) := by
  unfold Crc.bitOf
  rw [show (8 * i + j) / 8 = i from by omega, show (8 * i + j) % 8 = j from by omega, by_at s i h, Nat.testBit_eq_decide_div_mod_eq]
  have e : 128 / 2 ^ j = 2 ^ (7 - j) := by
    have : 128 = 2 ^ (7 - j) * 2 ^ j := by rw [← Nat.pow_add, show 7 - j + j = 7 from by omega]
    rw [this, Nat.mul_div_cancel _ (Nat.pow_pos (by decide))]
  rw [e]
  unfold bn
  generalize s[i].toNat = b
  generalize 2 ^ (7 - j) = p
  have : ((b : Int) / (p : Int) % 2) = ((b / p % 2 : Nat) : Int) := by norm_cast
  rw [this]
  split <;> simp_all <;> omega
end Go.Proofs.Ytiffocdohknopaa
