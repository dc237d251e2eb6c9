/- The document's remainder; texts cut; the statements' helpers. -/
import Derived.Test.YtliegljkmgchbaaCrcC
namespace Go.Proofs.Ytliegljkmgchbaa
open Go.RowKit
set_option linter.unusedVariables false
theorem ofInt_i64 (a : Nat) (h : a < 18446744073709551616) : (BitVec.ofInt 64 (a : Int)).toNat = a := by
  rw [BitVec.ofInt_natCast, BitVec.toNat_ofNat]; exact Nat.mod_eq_of_lt (by omega)
theorem i64_xor_nat (a b : Nat) (ha : a < 4611686018427387904) (hb : b < 4611686018427387904) : bits .xor .i64 (a : Int) (b : Int) = ((a ^^^ b : Nat) : Int) := by
  have hx : a ^^^ b < 2 ^ 62 := Nat.xor_lt_two_pow (by omega) (by omega)
  show IntKind.i64.wrap ((BitVec.ofInt 64 (a : Int) ^^^ BitVec.ofInt 64 (b : Int)).toNat : Int) = _
  rw [BitVec.toNat_xor, ofInt_i64 a (by omega), ofInt_i64 b (by omega)]
  exact IntWalk.i64_in _ ⟨by omega, by omega⟩
/-- The remainder of the first n bits. -/
def remN (l : List UInt8) (n : Nat) : Nat := (Crc.R (Crc.bitOf l) n).toNat
theorem remN_lt (l : List UInt8) (n : Nat) : remN l n < 4294967296 := (Crc.R (Crc.bitOf l) n).isLt
theorem remN_succ (l : List UInt8) (n : Nat) : remN l (n + 1) = if 4294967296 ≤ 2 * remN l n + bn (Crc.bitOf l n) then (2 * remN l n + bn (Crc.bitOf l n) - 4294967296) ^^^ 79764919 else 2 * remN l n + bn (Crc.bitOf l n) := by
  have e : remN l (n + 1) = (Crc.step (Crc.R (Crc.bitOf l) n) (Crc.bitOf l n)).toNat := rfl
  rw [e, Crc.step_nat, bn_bv]; rfl
set_option maxRecDepth 100000 in
set_option maxHeartbeats 400000 in
theorem refRem_any (s : ByteArray) (w : World) (hs : s.size ≤ 1099511627776) :
    Calls Try.prog 29 #[.string s] w fun e w' => e = .returned (.int .i64 ((remOf (by_ s)).toNat : Int)) ∧ Below w.heap.size w w' := by
  go_enter Try.func29, Try.ntmps29
  go_wp2_with fail
  refine (bits_any s w hs).mono ?_
  rintro e w1 ⟨v, rfl, hown, hb⟩
  obtain ⟨a, c, rfl, hlen, hc1, hc2, hr⟩ := own_reads hown
  clear hown hlen
  go_wp2
  go_loop [3, 9] (fun m i => ∃ k : Nat, k ≤ 8 * s.size ∧ i = .int .i64 k ∧ m = .int .i64 (remN (by_ s) k : Int)) (fun _ i => 8 * s.size - (intOf i).toNat)
  case atStart => exact ⟨0, Nat.zero_le _, rfl, rfl⟩
  case round =>
    obtain ⟨k, hk, rfl, rfl⟩ := hrel
    by_cases hlt : k < 8 * s.size
    · obtain ⟨b, off, rfl, hcell⟩ := hr.at (i := k) (by rw [bitsN_len]; exact hlt)
      rw [bitsN_at _ _ _ hlt] at hcell
      have hn := remN_succ (by_ s) k
      have hl := remN_lt (by_ s) k
      have hb1 := bn_le (Crc.bitOf (by_ s) k)
      generalize remN (by_ s) k = r at hn hl
      generalize bn (Crc.bitOf (by_ s) k) = x at hcell hn hb1
      clear hr
      by_cases h : 4294967296 ≤ 2 * r + x
      · rw [if_pos h] at hn
        have hx := i64_xor_nat (2 * r + x - 4294967296) 79764919 (by omega) (by omega)
        rw [show ((2 * r + x - 4294967296 : Nat) : Int) = 2 * (r : Int) + (x : Int) - 4294967296 from by omega, ← hn] at hx
        have hx' : bits .xor .i64 (2 * (r : Int) + (x : Int) - 4294967296) 79764919 = (remN (by_ s) (k + 1) : Int) := hx
        have h' : decide ((4294967296 : Int) ≤ 2 * (r : Int) + (x : Int)) = true := by rw [decide_eq_true_eq]; omega
        have hl' : (r : Int) ≤ (4294967295 : Int) := by omega
        clear hx hn h hl
        go_wp2
        go_round
        case rel => exact ⟨k + 1, by omega, by go_num, rfl⟩
        case measure => simp [intOf]; omega
      · rw [if_neg h] at hn
        have Hn := Lib.hid hn
        have h' : decide ((4294967296 : Int) ≤ 2 * (r : Int) + (x : Int)) = false := by rw [decide_eq_false_iff_not]; omega
        have hl' : (r : Int) ≤ (4294967295 : Int) := by omega
        clear hn h hl
        go_wp2
        go_round
        case rel => exact ⟨k + 1, by omega, by go_num, by rw [Hn.out]; go_num⟩
        case measure => simp [intOf]; omega
    · obtain rfl : k = 8 * s.size := by omega
      go_wp2
      go_ret
      exact ⟨ret_eq (by unfold remN remOf; rw [by_len]), hb⟩
/-- The first n bytes of a text. -/
def cutB (s : ByteArray) (n : Nat) : ByteArray := if n < s.size then s.extract 0 n else s
theorem by_extract (s : ByteArray) (a b : Nat) (h : b ≤ s.size) : by_ (s.extract a b) = ((by_ s).take b).drop a := by
  unfold by_
  rw [ByteArray.data_extract, List.drop_take]
  simp
theorem by_cut (s : ByteArray) (n : Nat) : by_ (cutB s n) = (by_ s).take n := by
  unfold cutB
  split
  · rw [by_extract _ _ _ (by omega)]; simp
  · rw [List.take_of_length_le (by rw [by_len]; omega)]
theorem cut_size (s : ByteArray) (n : Nat) : (cutB s n).size ≤ n ∧ (cutB s n).size ≤ s.size := by
  have h := congrArg List.length (by_cut s n)
  rw [by_len, List.length_take, by_len] at h
  omega
theorem cut_any (s : ByteArray) (n : Nat) (w : World) (hs : s.size ≤ 9223372036854775807) (hn : n ≤ 1099511627776) :
    Calls Try.prog 31 #[.string s, .int .i64 (n : Int)] w fun e w' => e = .returned (.string (cutB s n)) ∧ w = w' := by
  by_cases h : n < s.size
  · have hc : cutB s n = s.extract 0 n := by unfold cutB; rw [if_pos h]
    rw [hc]
    clear hc
    go_enter Try.func31, Try.ntmps31
    go_wp2
    go_ret
    exact ⟨rfl, rfl⟩
  · have hc : cutB s n = s := by unfold cutB; rw [if_neg h]
    rw [hc]
    clear hc
    go_enter Try.func31, Try.ntmps31
    go_wp2
    go_ret
    exact ⟨rfl, rfl⟩
theorem infoS : (Try.prog.info? 9).map (fun i => (i.zero, i.size, i.bytes)) = some (some (.string ByteArray.empty), 1, 16) := by kernel_rfl
theorem few_any (zs : List ByteArray) (a : Option Addr) (c len m most : Nat) (w : World) (hlen : len = zs.length) (hr : ReadsT w a zs) (hl : zs.length ≤ 9223372036854775807) (hz : ∀ s ∈ zs, s.size ≤ 9223372036854775807) (hm : m ≤ 1048576) (hmost : most ≤ 1048576) :
    Calls Try.prog 27 #[.slice a len c, .int .i64 (m : Int), .int .i64 (most : Int)] w fun e w' => ∃ v, e = .returned v ∧ w'.ownsRow w.heap.size 9 1 v (zs.take m).length (((zs.take m).map (cutB · most)).map Value.string) ∧ Below w.heap.size w w' := by
  subst hlen
  obtain ⟨i0, hi, hz0, hz1, hz2⟩ := info_parts infoS
  go_enter Try.func27, Try.ntmps27
  go_wp2
  go_loopw [7, 8] (fun v i wr => ∃ k : Nat, k ≤ zs.length ∧ k ≤ m ∧ i = .int .i64 k ∧ wr.ownsRow w.heap.size 9 1 v k (((zs.take k).map (cutB · most)).map Value.string) ∧ Below w.heap.size w wr) (fun _ i _ => zs.length - (intOf i).toNat)
  case atStart => exact ⟨0, Nat.zero_le _, Nat.zero_le _, rfl, World.ownsRow_nil _ _ _ _, Below.refl _ _⟩
  case round =>
    obtain ⟨k, hk, hkm, rfl, hown, hb⟩ := hrel
    by_cases hlt : k < zs.length
    · by_cases hlm : k < m
      · obtain ⟨b, off, rfl, hcell⟩ := (hr.later hb).at hlt
        have hsz : (zs[k]?.getD ByteArray.empty).size ≤ 9223372036854775807 := by rw [List.getElem?_eq_getElem hlt]; exact hz _ (List.getElem_mem hlt)
        have hts : Hid (zs.take (k + 1) = zs.take k ++ [zs[k]?.getD ByteArray.empty]) := by
          show zs.take (k + 1) = _
          rw [List.take_succ_eq_append_getElem hlt]; simp [hlt]
        generalize zs[k]?.getD ByteArray.empty = s at hcell hts hsz
        clear hr hz
        go_wp2_with (first | (go_at_call 31; refine (cut_any _ _ _ (by omega) (by omega)).mono ?_; rintro e w' ⟨rfl, rfl⟩) | (at_builtin; refine append_one (W := w) rfl _ _ 42 rfl w.heap.size 9 i0 (.string ByteArray.empty) 16 Try.underlying42 hi hz0 hz1 hz2 rfl _ _ _ rfl hown (.string (cutB s most)) rfl rfl ?d1 ?d2 w.heap.size (Nat.le_refl _) hb.size hb ?_))
        case d1 => unfold maxLen; omega
        case d2 => omega
        intro v' w' hown2 hb2
        have H2 : w'.ownsRow w.heap.size 9 1 v' (k + 1) (((zs.take (k + 1)).map (cutB · most)).map Value.string) := by
          rw [hts.out, List.map_append, List.map_append]
          simpa using hown2
        clear hown2 hown hb hts
        go_wp2
        go_roundw
        case rel => exact ⟨k + 1, by omega, by omega, by go_num, H2, hb2⟩
        case measure => simp [intOf]; omega
      · obtain rfl : k = m := by omega
        have hkl : Hid ((zs.take k).length = k) := by show (zs.take k).length = k; simp; omega
        go_wp2
        go_ret
        exact ⟨_, rfl, by rw [hkl.out]; exact hown, hb⟩
    · obtain rfl : k = zs.length := by omega
      have htk : Hid (zs.take m = zs.take zs.length) := by show zs.take m = _; rw [List.take_length, List.take_of_length_le (by omega)]
      go_wp2
      go_ret
      refine ⟨_, rfl, ?_, hb⟩
      rw [htk.out]
      simpa using hown
end Go.Proofs.Ytliegljkmgchbaa
