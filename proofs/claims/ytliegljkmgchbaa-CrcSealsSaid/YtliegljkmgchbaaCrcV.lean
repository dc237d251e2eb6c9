/- The document's Seal. -/
import Derived.Test.YtliegljkmgchbaaCrcS
import Derived.Deep.RegionWith
import Derived.Deep.RegionHeld3
namespace Go.Proofs.Ytliegljkmgchbaa
open Go.RowKit
set_option linter.unusedVariables false
theorem seal_cat (s : ByteArray) (a : Nat) (h : a + 4 ≤ s.size) : remOf (by_ (s.extract 0 a ++ { data := #[0, 0, 0, 0] } ++ s.extract (a + 4) s.size)) = sealX (by_ s) a := by
  rw [by_append, by_append, by_extract _ _ _ (by omega), by_extract _ _ _ (Nat.le_refl _), List.drop_zero, take_all]
  rfl
theorem conv_four_drew (W : World) (n : Nat) (a b c d : Int) : Sem.run Try.prog (convert 52 9 (.slice (some ⟨W.heap.size, 0, none⟩) 4 4)) ((W.alloc (.cells #[.int .u8 a, .int .u8 b, .int .u8 c, .int .u8 d] 5)).drewN n) = Result.ok (.string (strOfNums [a, b, c, d])) ((W.alloc (.cells #[.int .u8 a, .int .u8 b, .int .u8 c, .int .u8 d] 5)).drewN n) := by
  refine run_convert_bytes_arg (P := Try.prog) _ 52 5 Try.underlying52 Try.underlying5 W.heap.size 0 4 4 [a, b, c, d] rfl (fun i hi => ?_) 9 Try.underlying9
  match i, hi with
  | 0, _ => simp
  | 1, _ => simp
  | 2, _ => simp
  | 3, _ => simp
set_option maxHeartbeats 1000000 in
theorem refSeal_any (s : ByteArray) (a : Nat) (w : World) (hs : s.size ≤ 1048576) (ha : a + 4 ≤ s.size) :
    Calls Try.prog 33 #[.string s, .int .i64 (a : Int)] w fun e w' => e = .returned (.string (ofL (sealL (by_ s) a))) ∧ Below w.heap.size w w' := by
  have hcat := seal_cat s a ha
  have hc4 := conv_four
  have hb1 : (a : Int) + 4 ≤ (s.size : Int) := by omega
  have hz : (ByteArray.mk #[0, 0, 0, 0]).size = 4 := rfl
  have hA : (s.extract 0 a).size = a := by simp; omega
  have hB : (s.extract (a + 4) s.size).size = s.size - (a + 4) := by simp
  have hsz : (s.extract 0 a ++ { data := #[0, 0, 0, 0] } ++ s.extract (a + 4) s.size).size ≤ 1099511627776 := by rw [ByteArray.size_append, ByteArray.size_append, hA, hB, hz]; omega
  have hR := refRem_any (s.extract 0 a ++ { data := #[0, 0, 0, 0] } ++ s.extract (a + 4) s.size)
  rw [hcat] at hR
  have HR := Lib.hid hR
  have ht := seal_text s a ha
  have Ht := Lib.hid ht
  have hi0 : (0 : Int) ≤ (a : Int) := by omega
  have hi1 : (a : Int) ≤ (s.size : Int) := by omega
  have hi2 : (0 : Int) ≤ (a : Int) + 4 := by omega
  have hi3 : IntKind.i64.wrap ((a : Int) + 4) = (a : Int) + 4 := IntWalk.i64_in _ ⟨by omega, by omega⟩
  have hadd1 : ∀ W : World, Sem.run Try.prog (Op.stringOp .add (s.extract 0 a) { data := #[0, 0, 0, 0] }) W = Result.ok (.string (s.extract 0 a ++ { data := #[0, 0, 0, 0] })) W := fun W => run_string_add_sum _ _ _ (by rw [hA, hz]; omega)
  have hadd2 : ∀ W : World, Sem.run Try.prog (Op.stringOp .add (s.extract 0 a ++ { data := #[0, 0, 0, 0] }) (s.extract (a + 4) s.size)) W = Result.ok (.string (s.extract 0 a ++ { data := #[0, 0, 0, 0] } ++ s.extract (a + 4) s.size)) W := fun W => run_string_add_sum _ _ _ (by rw [ByteArray.size_append, hA, hz, hB]; omega)
  clear hR hcat ht
  go_enter Try.func33, Try.ntmps33
  go_wp2_with fail
  go_region_with ((go_at_call 29; refine (HR.out _ hsz).mono ?_; rintro e w1 ⟨rfl, hb⟩))
  clear hadd1 hadd2 HR hsz hi2 hi3
  have hsn := strOfNums_size
  have hAl : (s.extract 0 a).size ≤ 1048576 := by rw [hA]; omega
  have hBl : (s.extract (a + 4) s.size).size ≤ 1048576 := by rw [hB]; omega
  have HB := Lib.hid hB
  clear hA hB hz
  generalize sealX (by_ s) a = R0 at Ht ⊢
  go_wp2
  go_loop [5, 6] (fun r i => ∃ k : Nat, k ≤ 8 * (s.size - (a + 4)) ∧ i = .int .i64 k ∧ r = .int .i64 ((Crc.halfs k R0).toNat : Int)) (fun _ i => 8 * (s.size - (a + 4)) - (intOf i).toNat)
  case atStart => exact ⟨0, Nat.zero_le _, rfl, rfl⟩
  case round =>
    obtain ⟨k, hk, rfl, rfl⟩ := hrel
    have hxl := (Crc.halfs k R0).isLt
    by_cases hlt : k < 8 * (s.size - (a + 4))
    · have hst : Hid (Crc.halfs (k + 1) R0 = Crc.half (Crc.halfs k R0)) := rfl
      generalize Crc.halfs k R0 = r at hst
      have hk1 : (k : Int) < 8 * ((s.size : Int) - (a : Int) - 4) := by omega
      clear hc4 hxl
      go_wp2_with ((go_at_call 43; refine (refHalf_any _ _).mono ?_; rintro e w' ⟨rfl, rfl⟩))
      go_round
      case rel => exact ⟨k + 1, by omega, by go_num, by rw [hst.out]⟩
      case measure => simp only [intOf]; omega
    · have hk2 : 8 * ((s.size : Int) - (a : Int) - 4) ≤ (k : Int) := by omega
      have hx : Hid (Crc.halfs k R0 = Crc.halfs (8 * (s.size - (a + 4))) R0) := by show Crc.halfs k R0 = _; rw [show k = 8 * (s.size - (a + 4)) from by omega]
      generalize Crc.halfs k R0 = x at hx hxl
      have hxi : (x.toNat : Int) ≤ 4294967295 := by omega
      clear hxl
      have hbw : Below w.heap.size w (w1.alloc (.cells #[.int .u8 ((x.toNat : Int) / 16777216), .int .u8 ((x.toNat : Int) / 65536 % 256), .int .u8 ((x.toNat : Int) / 256 % 256), .int .u8 ((x.toNat : Int) % 256)] 5)) := (((Below.refl w.heap.size w).drew).trans hb).alloc hb.size _
      have hres := Ht.out x hx.out _ (four_nums x)
      have Hres := Lib.hid hres
      clear hres
      have hc5 := conv_four_drew
      go_wp2
      clear hc4
      go_quiet (fail)
      go_wp2
      go_ret
      exact ⟨ret_str Hres.out, below_drewN hbw _⟩
end Go.Proofs.Ytliegljkmgchbaa
