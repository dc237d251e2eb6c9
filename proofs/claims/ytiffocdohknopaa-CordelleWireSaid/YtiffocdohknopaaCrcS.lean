/- crc.Seal, and the document's. -/
import Derived.Test.YtiffocdohknopaaCrcT
import Derived.Test.YtiffocdohknopaaSealMath
import Derived.BigQuiet
import Derived.Deep.QuietTactic
namespace Go.Proofs.Ytiffocdohknopaa
open Go.RowKit
set_option linter.unusedVariables false
theorem half_even (r : BitVec 32) (h : r.toNat % 2 = 0) : (Crc.half r).toNat = r.toNat / 2 := by
  have h0 : r.getLsbD 0 = false := by rw [← BitVec.testBit_toNat, Nat.testBit_zero, decide_eq_false_iff_not]; omega
  unfold Crc.half
  rw [h0, if_neg (by decide), BitVec.toNat_ushiftRight, Nat.shiftRight_eq_div_pow]
theorem half_odd (r : BitVec 32) (h : r.toNat % 2 = 1) : (Crc.half r).toNat = 2147483648 + (r.toNat ^^^ 79764919) / 2 ∧ (Crc.half r).toNat = (r.toNat ^^^ 79764919) / 2 ||| 2147483648 := by
  have h0 : r.getLsbD 0 = true := by rw [← BitVec.testBit_toNat, Nat.testBit_zero, decide_eq_true_eq]; omega
  have hx : r.toNat ^^^ 79764919 < 2 ^ 32 := Nat.xor_lt_two_pow r.isLt (by decide)
  have e : (Crc.half r).toNat = (r.toNat ^^^ 79764919) / 2 ||| 2147483648 := by
    unfold Crc.half
    rw [h0, if_pos rfl, BitVec.toNat_or, BitVec.toNat_ushiftRight, BitVec.toNat_xor, Nat.shiftRight_eq_div_pow]
    rfl
  refine ⟨?_, e⟩
  have hlt : (r.toNat ^^^ 79764919) / 2 < 2 ^ 31 := by omega
  have h2 := Nat.two_pow_add_eq_or_of_lt hlt 1
  rw [e, Nat.or_comm]
  exact h2.symm
theorem half_any (r : BitVec 32) (w : World) : Calls Try.prog 49 #[.int .u32 (r.toNat : Int)] w fun e w' => e = .returned (.int .u32 ((Crc.half r).toNat : Int)) ∧ w = w' := by
  have hlt := r.isLt
  have hand : bits .and .u32 (r.toNat : Int) 1 = ((r.toNat % 2 : Nat) : Int) := by
    rw [show (1 : Int) = ((1 : Nat) : Int) from rfl, u32_and_nat _ _ (by omega) (by omega), nat_mask1]
  by_cases h : r.toNat % 2 = 0
  · rw [h] at hand
    have he := half_even r h
    have he' : ((Crc.half r).toNat : Int) = (r.toNat : Int) / 2 := by omega
    rw [he']
    clear he he' h hlt
    go_enter Try.func49, Try.ntmps49
    go_wp2
    go_ret
    exact ⟨rfl, rfl⟩
  · have h1 : r.toNat % 2 = 1 := by omega
    rw [h1] at hand
    have he := (half_odd r h1).2
    have hx : r.toNat ^^^ 79764919 < 2 ^ 32 := Nat.xor_lt_two_pow r.isLt (by decide)
    have hxor : bits .xor .u32 (r.toNat : Int) 79764919 = ((r.toNat ^^^ 79764919 : Nat) : Int) := u32_xor_nat r.toNat 79764919 (by omega) (by omega)
    have hor : bits .or .u32 (((r.toNat ^^^ 79764919 : Nat) : Int) / 2) 2147483648 = ((Crc.half r).toNat : Int) := by
      rw [he, show (((r.toNat ^^^ 79764919 : Nat) : Int) / 2) = (((r.toNat ^^^ 79764919) / 2 : Nat) : Int) from by omega]
      exact u32_or_nat _ 2147483648 (by omega) (by omega)
    clear he hx h h1 hlt
    generalize r.toNat ^^^ 79764919 = y at hxor hor
    go_enter Try.func49, Try.ntmps49
    go_wp2
    go_ret
    exact ⟨rfl, rfl⟩
/-- A text, sealed from byte a on. -/
def sealX (l : List UInt8) (a : Nat) : BitVec 32 := remOf (l.take a ++ [0, 0, 0, 0] ++ l.drop (a + 4))
def sealL (l : List UInt8) (a : Nat) : List UInt8 := l.take a ++ Crc.four (Crc.halfs (8 * (l.drop (a + 4)).length) (sealX l a)) ++ l.drop (a + 4)
theorem sealL_len (l : List UInt8) (a : Nat) (h : a + 4 ≤ l.length) : (sealL l a).length = l.length := by simp [sealL, Crc.four]; omega
theorem sealL_right (l : List UInt8) (a : Nat) (h : a + 4 ≤ l.length) : remOf (sealL l a) = 0#32 := by
  have e := Crc.seal_zero (l.take a) (l.drop (a + 4))
  have hl : (l.take a ++ ([0, 0, 0, 0] : List UInt8) ++ l.drop (a + 4)).length = (sealL l a).length := by simp [sealL, Crc.four]
  unfold remOf
  rw [← hl]
  exact e
theorem seal_text (s : ByteArray) (a : Nat) (h : a + 4 ≤ s.size) (x : BitVec 32) (hx : x = Crc.halfs (8 * (s.size - (a + 4))) (sealX (by_ s) a)) (f : ByteArray) (hf : by_ f = Crc.four x) :
    s.extract 0 a ++ f ++ s.extract (a + 4) s.size = ofL (sealL (by_ s) a) := by
  have e : by_ (s.extract 0 a ++ f ++ s.extract (a + 4) s.size) = sealL (by_ s) a := by
    rw [by_append, by_append, by_extract _ _ _ (by omega), by_extract _ _ _ (Nat.le_refl _), hf, hx]
    unfold sealL
    rw [List.drop_zero, take_all, List.length_drop, by_len]
  rw [← e, ofL_by]
theorem rem_seal (s : ByteArray) (a b : Nat) (w : World) (hb : b = w.heap.size) (ha : a + 4 ≤ s.size) (hs : s.size ≤ 1048576) :
    Calls Try.prog 25 #[.slice (some ⟨b, 0, none⟩) 3 3] (w.alloc (.cells #[.string (s.extract 0 a), .string { data := #[0, 0, 0, 0] }, .string (s.extract (a + 4) s.size)] 9)) fun e w' => e = .returned (.int .u32 ((sealX (by_ s) a).toNat : Int)) ∧ w.alloc (.cells #[.string (s.extract 0 a), .string { data := #[0, 0, 0, 0] }, .string (s.extract (a + 4) s.size)] 9) = w' := by
  subst hb
  have e : sealX (by_ s) a = remOf (cat [s.extract 0 a, { data := #[0, 0, 0, 0] }, s.extract (a + 4) s.size]) := by
    have h1 : cat [s.extract 0 a, { data := #[0, 0, 0, 0] }, s.extract (a + 4) s.size] = (by_ s).take a ++ [0, 0, 0, 0] ++ (by_ s).drop (a + 4) := by
      unfold cat
      simp only [List.map_cons, List.map_nil, List.flatten_cons, List.flatten_nil]
      rw [by_extract _ _ _ (by omega), by_extract _ _ _ (Nat.le_refl _), List.drop_zero, take_all, List.append_nil, List.append_assoc]
      rfl
    rw [h1]; rfl
  rw [e]
  refine rem_any _ _ _ 3 _ rfl (reads_three w _ _ _ _) (by simp) ?_
  intro t ht
  simp at ht
  rcases ht with rfl | rfl | rfl
  · simp; omega
  · decide
  · simp; omega
/-- 'string([]byte{..})' of four bytes just laid. -/
theorem conv_four (W : World) (a b c d : Int) : Sem.run Try.prog (convert 72 9 (.slice (some ⟨W.heap.size, 0, none⟩) 4 4)) (W.alloc (.cells #[.int .u8 a, .int .u8 b, .int .u8 c, .int .u8 d] 5)) = Result.ok (.string (strOfNums [a, b, c, d])) (W.alloc (.cells #[.int .u8 a, .int .u8 b, .int .u8 c, .int .u8 d] 5)) := by
  refine run_convert_bytes_arg (P := Try.prog) _ 72 5 Try.underlying72 Try.underlying5 W.heap.size 0 4 4 [a, b, c, d] rfl (fun i hi => ?_) 9 Try.underlying9
  match i, hi with
  | 0, _ => simp
  | 1, _ => simp
  | 2, _ => simp
  | 3, _ => simp
theorem four_nums (x : BitVec 32) : by_ (strOfNums [(x.toNat : Int) / 16777216, (x.toNat : Int) / 65536 % 256, (x.toNat : Int) / 256 % 256, (x.toNat : Int) % 256]) = Crc.four x := by
  have hx := x.isLt
  rw [by_nums]
  unfold Crc.four
  simp only [List.map_cons, List.map_nil]
  rw [show ((x.toNat : Int) / 16777216).toNat = x.toNat / 16777216 % 256 from by omega, show ((x.toNat : Int) / 65536 % 256).toNat = x.toNat / 65536 % 256 from by omega, show ((x.toNat : Int) / 256 % 256).toNat = x.toNat / 256 % 256 from by omega, show ((x.toNat : Int) % 256).toNat = x.toNat % 256 from by omega]
theorem ret_seal {a b : ByteArray} (h : a = b) : Ending.returned (.tuple #[.string a, .bool true]) = .returned (.tuple #[.string b, .bool true]) := by rw [h]
theorem sealBad_any (s : ByteArray) (at_ : Int) (w : World) (hs : s.size ≤ 1048576) (hbad : at_ < 0 ∨ (s.size : Int) - 4 < at_) :
    Calls Try.prog 26 #[.string s, .int .i64 at_] w fun e w' => e = .returned (.tuple #[.string { data := #[] }, .bool false]) ∧ w = w' := by
  by_cases h1 : at_ < 0
  · go_enter Try.func26, Try.ntmps26
    go_wp2
    go_ret2
    exact ⟨rfl, rfl⟩
  · have h2 : (s.size : Int) - 4 < at_ := by omega
    clear hbad
    go_enter Try.func26, Try.ntmps26
    go_wp2
    go_ret2
    exact ⟨rfl, rfl⟩
set_option maxHeartbeats 800000 in
theorem seal_any (s : ByteArray) (a : Nat) (w : World) (hs : s.size ≤ 1048576) (ha : a + 4 ≤ s.size) :
    Calls Try.prog 26 #[.string s, .int .i64 (a : Int)] w fun e w' => e = .returned (.tuple #[.string (ofL (sealL (by_ s) a)), .bool true]) ∧ Below w.heap.size w w' := by
  have h1 : (a : Int) ≤ (s.size : Int) - 4 := by omega
  have hc4 := conv_four
  go_enter Try.func26, Try.ntmps26
  go_wp2_with fail
  go_quiet (fail)
  go_wp2_with fail
  refine (rem_seal s a w.heap.size (w.drewN nq) rfl ha hs).mono ?_
  rintro e w1 ⟨rfl, rfl⟩
  have hb : Below w.heap.size w ((w.drewN nq).alloc (.cells #[.string (s.extract 0 a), .string { data := #[0, 0, 0, 0] }, .string (s.extract (a + 4) s.size)] 9)) := (below_drewN (Below.refl _ _) nq).alloc (Nat.le_refl _) _
  generalize (w.drewN nq).alloc (.cells #[.string (s.extract 0 a), .string { data := #[0, 0, 0, 0] }, .string (s.extract (a + 4) s.size)] 9) = w1 at hb ⊢
  have hsz : (s.extract (a + 4) s.size).size = s.size - (a + 4) := by simp
  have ht := seal_text s a ha
  have Ht := Lib.hid ht
  clear ht
  generalize sealX (by_ s) a = R0 at Ht
  generalize hB : s.extract (a + 4) s.size = B at hsz Ht
  generalize hA : s.extract 0 a = A at Ht
  have Hsz := Lib.hid hsz
  have hsB : B.size ≤ 1048576 := by omega
  have hsA : A.size ≤ 1048576 := by rw [← hA]; simp; omega
  clear hB hA hsz
  go_wp2_with ((go_at_call 46; refine (length_any _ _ (by omega)).mono ?_; rintro e w' ⟨rfl, rfl⟩))
  go_loop [8, 32] (fun r i => ∃ k : Nat, k ≤ 8 * B.size ∧ i = .int .i64 k ∧ r = .int .u32 ((Crc.halfs k R0).toNat : Int)) (fun _ i => 8 * B.size - (intOf i).toNat)
  case atStart => exact ⟨0, Nat.zero_le _, rfl, rfl⟩
  case round =>
    obtain ⟨k, hk, rfl, rfl⟩ := hrel
    by_cases hlt : k < 8 * B.size
    · have hst : Hid (Crc.halfs (k + 1) R0 = Crc.half (Crc.halfs k R0)) := rfl
      generalize Crc.halfs k R0 = r at hst
      clear hc4
      go_wp2_with ((go_at_call 49; refine (half_any _ _).mono ?_; rintro e w' ⟨rfl, rfl⟩))
      go_round
      case rel => exact ⟨k + 1, by omega, by go_num, by rw [hst.out]⟩
      case measure => simp [intOf]; omega
    · obtain rfl : k = 8 * B.size := by omega
      have hx : Hid (Crc.halfs (8 * B.size) R0 = Crc.halfs (8 * (s.size - (a + 4))) R0) := by show Crc.halfs (8 * B.size) R0 = _; rw [Hsz.out]
      have hxl := (Crc.halfs (8 * B.size) R0).isLt
      generalize Crc.halfs (8 * B.size) R0 = x at hx hxl
      have hxi : (x.toNat : Int) ≤ 4294967295 := by omega
      clear hxl
      have hsn := strOfNums_size
      go_wp2
      go_ret2
      exact ⟨ret_seal (Ht.out x hx.out _ (four_nums x)), hb.alloc hb.size _⟩
end Go.Proofs.Ytiffocdohknopaa
