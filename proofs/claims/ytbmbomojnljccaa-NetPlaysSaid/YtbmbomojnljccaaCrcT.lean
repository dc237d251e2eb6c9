/- crc.Turn. -/
import Derived.Test.YtbmbomojnljccaaCrcF
import Derived.Test.YtbmbomojnljccaaTurnMath
import Derived.RegionTactic
import Derived.BigRegion
import Derived.Laws.BytesArg
import Derived.Deep.DeepCutAuto
import Derived.Lib.SlBuf
import Derived.Lib.BufferWrite
import Derived.Laws.CopyOwn
namespace Go.Proofs.Ytbmbomojnljccaa
open Go.RowKit
set_option linter.unusedVariables false
/-- Where turning begins. -/
def near (at_ : Int) (n : Nat) : Nat := if at_ < 0 then 0 else if (n : Int) < at_ then n else at_.toNat
theorem near_le (at_ : Int) (n : Nat) : near at_ n ≤ n := by unfold near; split <;> (try split) <;> omega
/-- A text, turned. -/
def turnL (l : List UInt8) (at_ : Int) (m : Nat) : List UInt8 := Crc.turnTo l (near at_ (8 * l.length)) m (min 32 (8 * l.length - near at_ (8 * l.length)))
theorem turnL_len (l : List UInt8) (at_ : Int) (m : Nat) : (turnL l at_ m).length = l.length := Crc.turnTo_len _ _ _ _
theorem mask_bit (m k : Nat) (hm : m < 4294967296) (hk : k ≤ 31) : bits .and .u32 ((m : Int) / 2 ^ (31 - k)) 1 = (Crc.b1 (m.testBit (31 - k)) : Int) := by
  have hle : m / 2 ^ (31 - k) ≤ m := Nat.div_le_self _ _
  have e : ((m : Int) / 2 ^ (31 - k)) = ((m / 2 ^ (31 - k) : Nat) : Int) := by norm_cast
  rw [e, show (1 : Int) = ((1 : Nat) : Int) from rfl, u32_and_nat _ _ (by omega) (by omega), nat_mask1, Nat.testBit_eq_decide_div_mod_eq]
  unfold Crc.b1
  split <;> simp_all <;> omega
theorem flip_num (x y e : Nat) (hx : x < 2 ^ 8) (hy : y * 2 ^ e < 2 ^ 8) : Value.int .u8 (bits .xor .u8 (x : Int) ((y : Int) * 2 ^ e % 256)) = u8v (UInt8.ofNat (x ^^^ y * 2 ^ e)) := by
  have h1 : ((y : Int) * 2 ^ e % 256) = ((y * 2 ^ e : Nat) : Int) := by
    have h2 : ((y : Int) * 2 ^ e) = ((y * 2 ^ e : Nat) : Int) := by norm_cast
    rw [h2]; omega
  have h3 : x ^^^ y * 2 ^ e < 2 ^ 8 := Nat.xor_lt_two_pow hx hy
  rw [h1, u8_xor_nat _ _ (by omega) (by omega)]
  unfold u8v
  rw [UInt8.toNat_ofNat_of_lt' h3]
set_option maxRecDepth 100000 in
set_option maxHeartbeats 1000000 in
theorem turn_any (s : ByteArray) (at_ : Int) (m : Nat) (w : World) (hs : s.size ≤ 1099511627776) (hm : m < 4294967296) :
    Calls Try.prog 43 #[.string s, .int .i64 at_, .int .u32 (m : Int)] w fun e w' => e = .returned (.string (ofL (turnL (by_ s) at_ m))) ∧ Below w.heap.size w w' := by
  obtain ⟨i0, hi, hz0, hz1, hz2⟩ := info_parts info8
  go_enter Try.func43, Try.ntmps43
  go_upto_region 1 with ((go_at_call 47; refine (length_any _ _ (by omega)).mono ?_; rintro e w' ⟨rfl, rfl⟩))
  go_cut [1] (fun v wx => ∃ p : Nat, v = .int .i64 p ∧ Hid (p = near at_ (8 * s.size)) ∧ p ≤ 8 * s.size ∧ wx = w)
  case first =>
    go_wp2_with ((go_at_call 47; refine (length_any _ _ (by omega)).mono ?_; rintro e w' ⟨rfl, rfl⟩))
    go_meet
    exact ⟨near at_ (8 * s.size), by congr 1; unfold near; (repeat' split) <;> omega, rfl, near_le _ _, rfl⟩
  case rest =>
  obtain ⟨p, rfl, hp, hple, rfl⟩ := hcut
  go_wp2_with (at_make; refine wpList_make_full wc rfl _ _ 47 rfl wc.heap.size 5 i0 (.int .u8 0) 1 Try.underlying47 hi hz0 hz1 .i64 .i64 _ _ s.size rfl rfl rfl rfl ?_ ?_ (Nat.le_refl _) ?_)
  · rw [hz2]; omega
  · unfold maxLen; omega
  intro w2 hown hgrow
  have hb2 : Below wc.heap.size wc w2 := (Below.refl _ _).grown hgrow (Nat.le_refl _) (by intro k hk; cases hk)
  rw [madeAny s.size] at hown
  clear hgrow
  go_wp2_with (refine copy_string_own rfl _ _ 47 9 rfl 5 Try.underlying47 (by rw [hi]; simp [hz1]) wc.heap.size wc.heap.size s.size _ s hown rfl rfl rfl wc.heap.size hb2 (Nat.le_refl _) ?_)
  intro w3 hown3 hb3
  clear hown hb2
  go_wp2_with ((go_at_call 47; refine (length_any _ _ (by omega)).mono ?_; rintro e w' ⟨rfl, rfl⟩))
  go_loopw [27] (fun i wr => ∃ k : Nat, k ≤ min 32 (8 * s.size - p) ∧ i = .int .i64 k ∧ wr.ownsRow wc.heap.size 5 1 (.slice (some ⟨wc.heap.size, 0, none⟩) s.size s.size) s.size ((Crc.turnTo (by_ s) p m k).map u8v) ∧ Below wc.heap.size wc wr) (fun i _ => min 32 (8 * s.size - p) - (intOf i).toNat)
  case atStart => exact ⟨0, Nat.zero_le _, rfl, hown3, hb3⟩
  case round =>
    obtain ⟨k, hk, rfl, hown, hb⟩ := hrel
    clear hown3 hb3
    have hTl := Crc.turnTo_len (by_ s) p m k
    rw [by_len] at hTl
    by_cases hlt : k < min 32 (8 * s.size - p)
    · have hk1 : k < 32 := by omega
      have hk2 : (k : Int) < 8 * (s.size : Int) - (p : Int) := by omega
      have hq : (p + k) / 8 < s.size := by omega
      have hcell := hown.cellAt ((p + k) / 8) (by omega)
      have hfz := hown.frozenAt ((p + k) / 8)
      have hset : Hid (Crc.turnTo (by_ s) p m (k + 1) = (Crc.turnTo (by_ s) p m k).set ((p + k) / 8) (UInt8.ofNat (((Crc.turnTo (by_ s) p m k)[(p + k) / 8]?.getD 0).toNat ^^^ (Crc.b1 (m.testBit (31 - k)) * 2 ^ (7 - (p + k) % 8))))) := rfl
      generalize Crc.turnTo (by_ s) p m k = L at hcell hset hown hTl
      rw [show (L.map u8v)[(p + k) / 8]? = some (.int .u8 ((L[(p + k) / 8]?.getD 0).toNat : Int)) from by simp [u8v, hTl, hq]] at hcell
      have hx := UInt8.toNat_lt (L[(p + k) / 8]?.getD 0)
      generalize (L[(p + k) / 8]?.getD 0).toNat = x at hcell hset hx
      have hmb := mask_bit m k hm (by omega)
      have hb1 : Crc.b1 (m.testBit (31 - k)) ≤ 1 := by unfold Crc.b1; split <;> omega
      have hb2 := Crc.b1_lt (m.testBit (31 - k)) (7 - (p + k) % 8) (by omega)
      generalize Crc.b1 (m.testBit (31 - k)) = y at hset hmb hb1 hb2
      have hq0 : (0 : Int) ≤ ((p : Int) + (k : Int)) / 8 := by omega
      have hq1 : ((p : Int) + (k : Int)) / 8 < (s.size : Int) := by omega
      go_wp2
      go_region
      go_wp2
      go_roundw
      case rel =>
        refine ⟨k + 1, by omega, by go_num, ?_, (hb.setCell (Nat.le_refl _) _).drew⟩
        have hst := (hown.stored ((p + k) / 8) (u8v (UInt8.ofNat (x ^^^ (y * 2 ^ (7 - (p + k) % 8)))))).1.drew
        rw [hset.out, List.map_set]
        rw [flip_num x y _ hx hb2]
        exact hst
      case measure => simp only [intOf]; omega
    · have hkN : k = min 32 (8 * s.size - p) := by omega
      have hconv := conv_own hown hTl
      have hres : Hid (Crc.turnTo (by_ s) p m k = turnL (by_ s) at_ m) := by
        show _ = turnL (by_ s) at_ m
        unfold turnL
        rw [by_len, ← hp.out, ← hkN]
      have HkN := Lib.hid hkN
      clear hkN
      go_wp2
      go_ret
      exact ⟨ret_str (by rw [hres.out]), hb⟩
end Go.Proofs.Ytbmbomojnljccaa
