/- The document's remainder; texts cut; the statements' helpers. -/
import Derived.Test.YtgmggilnhkdceaaCut
import Derived.Test.YtgmggilnhkdceaaCrcC
namespace Go.Proofs.Ytgmggilnhkdceaa
open Go.RowKit
set_option linter.unusedVariables false
theorem ofInt_i64 (a : Nat) (h : a < 18446744073709551616) : (BitVec.ofInt 64 (a : Int)).toNat = a := by
  rw [BitVec.ofInt_natCast, BitVec.toNat_ofNat]; exact Nat.mod_eq_of_lt (by omega)
theorem i64_xor_nat (a b : Nat) (ha : a < 4611686018427387904) (hb : b < 4611686018427387904) : bits .xor .i64 (a : Int) (b : Int) = ((a ^^^ b : Nat) : Int) := by
  have hx : a ^^^ b < 2 ^ 62 := Nat.xor_lt_two_pow (by omega) (by omega)
  show IntKind.i64.wrap ((BitVec.ofInt 64 (a : Int) ^^^ BitVec.ofInt 64 (b : Int)).toNat : Int) = _
  rw [BitVec.toNat_xor, ofInt_i64 a (by omega), ofInt_i64 b (by omega)]
  exact IntWalk.i64_in _ ⟨by omega, by omega⟩
/-- The remainder of the first n bits. -/
def remN (l : List UInt8) (n : Nat) : Nat := (Crc.R (Crc.bitOf l) n).toNat
theorem remN_lt (l : List UInt8) (n : Nat) : remN l n < 4294967296 := (Crc.R (Crc.bitOf l) n).isLt
theorem remN_succ (l : List UInt8) (n : Nat) : remN l (n + 1) = if 4294967296 ≤ 2 * remN l n + bn (Crc.bitOf l n) then (2 * remN l n + bn (Crc.bitOf l n) - 4294967296) ^^^ 79764919 else 2 * remN l n + bn (Crc.bitOf l n) := by
  have e : remN l (n + 1) = (Crc.step (Crc.R (Crc.bitOf l) n) (Crc.bitOf l n)).toNat := rfl
  rw [e, Crc.step_nat, bn_bv]; rfl
theorem infoS : (Try.prog.info? 9).map (fun i => (i.zero, i.size, i.bytes)) = some (some (.string ByteArray.empty), 1, 16) := by kernel_rfl
theorem few_any (zs : List ByteArray) (a : Option Addr) (c len m most : Nat) (w : World) (hlen : len = zs.length) (hr : ReadsT w a zs) (hl : zs.length ≤ 9223372036854775807) (hz : ∀ s ∈ zs, s.size ≤ 9223372036854775807) (hm : m ≤ 1048576) (hmost : most ≤ 1048576) :
    Calls Try.prog 41 #[.slice a len c, .int .i64 (m : Int), .int .i64 (most : Int)] w fun e w' => ∃ v, e = .returned v ∧ w'.ownsRow w.heap.size 9 1 v (zs.take m).length (((zs.take m).map (cutB · most)).map Value.string) ∧ Below w.heap.size w w' := by
  subst hlen
  obtain ⟨i0, hi, hz0, hz1, hz2⟩ := info_parts infoS
  go_enter Try.func41, Try.ntmps41
  go_wp2
  go_loopw [7, 8] (fun v i wr => ∃ k : Nat, k ≤ zs.length ∧ k ≤ m ∧ i = .int .i64 k ∧ wr.ownsRow w.heap.size 9 1 v k (((zs.take k).map (cutB · most)).map Value.string) ∧ Below w.heap.size w wr) (fun _ i _ => zs.length - (intOf i).toNat)
  case atStart => exact ⟨0, Nat.zero_le _, Nat.zero_le _, rfl, World.ownsRow_nil _ _ _ _, Below.refl _ _⟩
  case round =>
    obtain ⟨k, hk, hkm, rfl, hown, hb⟩ := hrel
    by_cases hlt : k < zs.length
    · by_cases hlm : k < m
      · obtain ⟨b, off, rfl, hcell⟩ := (hr.later hb).at hlt
        have hsz : (zs[k]?.getD ByteArray.empty).size ≤ 9223372036854775807 := by rw [List.getElem?_eq_getElem hlt]; exact hz _ (List.getElem_mem hlt)
        have hts : Hid (zs.take (k + 1) = zs.take k ++ [zs[k]?.getD ByteArray.empty]) := by
          show zs.take (k + 1) = _
          rw [List.take_succ_eq_append_getElem hlt]; simp [hlt]
        generalize zs[k]?.getD ByteArray.empty = s at hcell hts hsz
        clear hr hz
        go_wp2_with (first | (go_at_call 69; refine (cut_any _ _ _ (by omega) (by omega)).mono ?_; rintro e w' ⟨rfl, rfl⟩) | (at_builtin; refine append_one (W := w) rfl _ _ 72 rfl w.heap.size 9 i0 (.string ByteArray.empty) 16 Try.underlying72 hi hz0 hz1 hz2 rfl _ _ _ rfl hown (.string (cutB s most)) rfl rfl ?d1 ?d2 w.heap.size (Nat.le_refl _) hb.size hb ?_))
        case d1 => unfold maxLen; omega
        case d2 => omega
        intro v' w' hown2 hb2
        have H2 : w'.ownsRow w.heap.size 9 1 v' (k + 1) (((zs.take (k + 1)).map (cutB · most)).map Value.string) := by
          rw [hts.out, List.map_append, List.map_append]
          simpa using hown2
        clear hown2 hown hb hts
        go_wp2
        go_roundw
        case rel => exact ⟨k + 1, by omega, by omega, by go_num, H2, hb2⟩
        case measure => simp [intOf]; omega
      · obtain rfl : k = m := by omega
        have hkl : Hid ((zs.take k).length = k) := by show (zs.take k).length = k; simp; omega
        go_wp2
        go_ret
        exact ⟨_, rfl, by rw [hkl.out]; exact hown, hb⟩
    · obtain rfl : k = zs.length := by omega
      have htk : Hid (zs.take m = zs.take zs.length) := by show zs.take m = _; rw [List.take_length, List.take_of_length_le (by omega)]
      go_wp2
      go_ret
      refine ⟨_, rfl, ?_, hb⟩
      rw [htk.out]
      simpa using hown
end Go.Proofs.Ytgmggilnhkdceaa
