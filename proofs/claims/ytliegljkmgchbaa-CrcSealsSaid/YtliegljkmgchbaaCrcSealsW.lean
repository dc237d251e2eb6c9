/- CrcSeals: the walk. -/
import Derived.Test.YtliegljkmgchbaaCrcV
import Derived.Test.YtliegljkmgchbaaCrcTB
import Derived.Deep.DeepCutAuto
namespace Go.Proofs.Ytliegljkmgchbaa
open Go.RowKit
set_option linter.unusedVariables false
theorem flip_wrong (l : List UInt8) (a : Nat) (h : a < l.length) (h0 : remOf l = 0#32) : remOf (Crc.flip l (8 * a + 7) true) ≠ 0#32 := by
  intro e
  have e1 : remOf l = remOf (Crc.flip l (8 * a + 7) true) := by rw [h0, e]
  unfold remOf at e1
  rw [Crc.flip_len] at e1
  refine Crc.R_burst (Crc.bitOf l) (Crc.bitOf (Crc.flip l (8 * a + 7) true)) (8 * l.length) (8 * a + 7) (8 * a + 7) (Nat.le_refl _) (by omega) (by omega) ?_ ?_ ?_ e1
  · intro i hi
    rw [Crc.flip_bit _ _ _ _ (by omega) (by omega), decide_eq_false (by omega), Bool.and_false, Bool.xor_false]
  · rw [Crc.flip_bit _ _ _ _ (by omega) (by omega), decide_eq_true rfl]
    simp
  · intro i hi hj
    rw [Crc.flip_bit _ _ _ _ (by omega) hj, decide_eq_false (by omega), Bool.and_false, Bool.xor_false]
theorem flip_parts (l : List UInt8) (a : Nat) (h : a < l.length) : Crc.flip l (8 * a + 7) true = l.take a ++ [UInt8.ofNat ((l[a]?.getD 0).toNat ^^^ 1)] ++ l.drop (a + 1) := by
  unfold Crc.flip
  rw [show (8 * a + 7) / 8 = a from by omega, show (8 * a + 7) % 8 = 7 from by omega, List.set_eq_take_append_cons_drop, if_pos h, List.append_assoc]
  rfl
theorem xor1_num (x : UInt8) : bits .xor .u8 (x.toNat : Int) 1 = ((x.toNat ^^^ 1 : Nat) : Int) := u8_xor_nat x.toNat 1 (UInt8.toNat_lt _) (by decide)
/-- Another one of the four bytes isn't right. -/
theorem other_wrong (t : ByteArray) (a : Nat) (h : a < t.size) (h0 : remOf (by_ t) = 0#32) :
    (((remOf (by_ (t.extract 0 a ++ strOfNums [((t[a].toNat ^^^ 1 : Nat) : Int)] ++ t.extract (a + 1) t.size))).toNat : Int) == 0) = false := by
  have e : by_ (t.extract 0 a ++ strOfNums [((t[a].toNat ^^^ 1 : Nat) : Int)] ++ t.extract (a + 1) t.size) = Crc.flip (by_ t) (8 * a + 7) true := by
    rw [flip_parts _ _ (by rw [by_len]; exact h), by_append, by_append, by_extract _ _ _ (by omega), by_extract _ _ _ (Nat.le_refl _), List.drop_zero, take_all, by_nums, by_at t a h]
    rfl
  rw [e, beq_eq_false_iff_ne]
  intro hz
  exact flip_wrong (by_ t) a (by rw [by_len]; exact h) h0 (by apply BitVec.eq_of_toNat_eq; simpa using hz)
theorem by_inj {s t : ByteArray} (h : by_ s = by_ t) : s = t := by rw [← ofL_by s, h, ofL_by]
theorem seal_head (s : ByteArray) (a : Nat) (h : a + 4 ≤ s.size) : (ofL (sealL (by_ s) a)).extract 0 a = s.extract 0 a := by
  have hl : (sealL (by_ s) a).length = s.size := by rw [sealL_len _ _ (by rw [by_len]; exact h), by_len]
  apply by_inj
  rw [by_extract _ _ _ (by rw [ofL_size, hl]; omega), by_extract _ _ _ (by omega), by_ofL, List.drop_zero, List.drop_zero]
  unfold sealL
  rw [List.append_assoc, List.take_append_of_le_length (by rw [List.length_take, by_len]; omega), List.take_take, Nat.min_self]
theorem seal_tail (s : ByteArray) (a : Nat) (h : a + 4 ≤ s.size) : (ofL (sealL (by_ s) a)).extract (a + 4) s.size = s.extract (a + 4) s.size := by
  have hl : (sealL (by_ s) a).length = s.size := by rw [sealL_len _ _ (by rw [by_len]; exact h), by_len]
  apply by_inj
  rw [by_extract _ _ _ (by rw [ofL_size, hl]; exact Nat.le_refl _), by_extract _ _ _ (Nat.le_refl _), by_ofL, take_all, List.take_of_length_le (by omega)]
  unfold sealL
  have hm : (List.take a (by_ s) ++ Crc.four (Crc.halfs (8 * (List.drop (a + 4) (by_ s)).length) (sealX (by_ s) a))).length = a + 4 := by
    rw [List.length_append, List.length_take, by_len, Nat.min_eq_left (by omega)]; rfl
  exact List.drop_left' hm
theorem conv_1 (W : World) (a : Int) : Sem.run Try.prog (convert 52 9 (.slice (some ⟨W.heap.size, 0, none⟩) 1 1)) (W.alloc (.cells #[.int .u8 a] 5)) = Result.ok (.string (strOfNums [a])) (W.alloc (.cells #[.int .u8 a] 5)) := by
  refine run_convert_bytes_arg (P := Try.prog) _ 52 5 Try.underlying52 Try.underlying5 W.heap.size 0 1 1 [a] rfl (fun i hi => ?_) 9 Try.underlying9
  match i, hi with
  | 0, _ => simp
theorem conv_1d (W : World) (a : Int) : Sem.run Try.prog (convert 52 9 (.slice (some ⟨W.heap.size, 0, none⟩) 1 1)) ((W.alloc (.cells #[.int .u8 a] 5)).drew) = Result.ok (.string (strOfNums [a])) ((W.alloc (.cells #[.int .u8 a] 5)).drew) := by
  refine run_convert_bytes_arg (P := Try.prog) _ 52 5 Try.underlying52 Try.underlying5 W.heap.size 0 1 1 [a] rfl (fun i hi => ?_) 9 Try.underlying9
  match i, hi with
  | 0, _ => simp
namespace crcSeals
set_option maxRecDepth 100000 in
set_option maxHeartbeats 4000000 in
theorem walk (s0 : ByteArray) (a1 : Int) (hs0 : s0.size ≤ maxLen) (w1 : (Lit.int .i64 a1).wf = true) (w : World) :
    Calls Try.prog 9 #[.string s0, .int .i64 a1] w fun e w' => e = .returned (.bool true) ∧ Below w.heap.size w w' := by
  unfold maxLen at hs0
  clear w1
  have hA := (cut_size s0 120).1
  go_enter Try.func9, Try.ntmps9
  go_wp2_with fail
  refine (crcAwake_any _).mono ?_
  rintro e w1 ⟨rfl, hb⟩
  go_wp2_with fail
  refine (cut_any s0 120 w1 (by omega) (by omega)).mono ?_
  rintro e w2 ⟨rfl, rfl⟩
  generalize cutB s0 120 = s at hA ⊢
  by_cases hbad : a1 < 0 ∨ (s.size : Int) - 4 < a1
  · go_wp2_with fail
    refine (sealBad_any s a1 w1 (by omega) hbad).mono ?_
    rintro e w2 ⟨rfl, rfl⟩
    by_cases h1 : a1 < 0
    · go_wp2
      go_ret
      exact ⟨rfl, hb⟩
    · have h2 : (s.size : Int) - 4 < a1 := by omega
      clear hbad
      go_wp2
      go_ret
      exact ⟨rfl, hb⟩
  · obtain ⟨a, rfl⟩ : ∃ a : Nat, a1 = (a : Int) := ⟨a1.toNat, by omega⟩
    have ha4 : a + 4 ≤ s.size := by omega
    have h1 : (a : Int) ≤ (s.size : Int) - 4 := by omega
    have h2 : 4 ≤ (s.size : Int) := by omega
    clear hbad
    have hright : remOf (sealL (by_ s) a) = 0#32 := sealL_right _ _ (by rw [by_len]; exact ha4)
    have hhead := seal_head s a ha4
    have htail := seal_tail s a ha4
    have hTsz : (ofL (sealL (by_ s) a)).size = s.size := by rw [ofL_size, sealL_len _ _ (by rw [by_len]; exact ha4), by_len]
    have hS := seal_any s a w1 (by omega) ha4
    have hRS : ∀ W : World, _ := fun W => refSeal_any s a W (by omega) ha4
    have HRS := Lib.hid hRS
    rw [← by_ofL (sealL (by_ s) a)] at hright
    clear hRS
    generalize ofL (sealL (by_ s) a) = t at hright hhead htail hTsz hS HRS
    go_wp2_with fail
    refine hS.mono ?_
    clear hS
    rintro e w2 ⟨rfl, hb2⟩
    have hb3 := hb.trans (hb2.mono hb.size)
    clear hb hb2
    have hta : a < t.size := by omega
    have how := other_wrong t a hta hright
    have hx1 := xor1_num t[a]
    have hi0 : (0 : Int) ≤ (a : Int) := by omega
    have hi1 : (a : Int) ≤ (t.size : Int) := by omega
    have hi2 : (0 : Int) ≤ (a : Int) + 1 := by omega
    have hi3 : IntKind.i64.wrap ((a : Int) + 1) = (a : Int) + 1 := IntWalk.i64_in _ ⟨by omega, by omega⟩
    have hi4 : (a : Int) + 1 ≤ (t.size : Int) := by omega
    have hi5 : (a : Int) < (t.size : Int) := by omega
    have hc1 := conv_1
    have hc2 := conv_1d
    have hsn := strOfNums_size
    have Hright := Lib.hid hright
    have Hhead := Lib.hid hhead
    have Htail := Lib.hid htail
    have HTsz := Lib.hid hTsz
    have How := Lib.hid how
    have hts : t.size ≤ 120 := by omega
    clear hright hhead htail hTsz how
    have hE0 : (t.extract 0 a).size = a := by simp; omega
    have hE1 : (t.extract (a + 1) t.size).size = t.size - (a + 1) := by simp
    have hadd1 : ∀ W : World, Sem.run Try.prog (Op.stringOp .add (t.extract 0 a) (strOfNums [((t[a].toNat ^^^ 1 : Nat) : Int)])) W = Result.ok (.string (t.extract 0 a ++ strOfNums [((t[a].toNat ^^^ 1 : Nat) : Int)])) W := fun W => run_string_add_sum _ _ _ (by rw [hE0, strOfNums_size]; simp; omega)
    have hadd2 : ∀ W : World, Sem.run Try.prog (Op.stringOp .add (t.extract 0 a ++ strOfNums [((t[a].toNat ^^^ 1 : Nat) : Int)]) (t.extract (a + 1) t.size)) W = Result.ok (.string (t.extract 0 a ++ strOfNums [((t[a].toNat ^^^ 1 : Nat) : Int)] ++ t.extract (a + 1) t.size)) W := fun W => run_string_add_sum _ _ _ (by rw [ByteArray.size_append, hE0, strOfNums_size, hE1]; simp; omega)
    have hosz : (t.extract 0 a ++ strOfNums [((t[a].toNat ^^^ 1 : Nat) : Int)] ++ t.extract (a + 1) t.size).size ≤ 1048576 := by rw [ByteArray.size_append, ByteArray.size_append, hE0, strOfNums_size, hE1]; simp; omega
    generalize ho : t.extract 0 a ++ strOfNums [((t[a].toNat ^^^ 1 : Nat) : Int)] ++ t.extract (a + 1) t.size = other at hosz How hadd2
    have Ho := Lib.hid ho
    clear ho hE0 hE1 hsn hosz
    have hosz : other.size ≤ 1048576 := by rw [← Ho.out, ByteArray.size_append, ByteArray.size_append, strOfNums_size]; simp; omega
    go_upto_region 7 with fail
    go_cut [7] (fun v wx => v = .string other ∧ Below w.heap.size w wx)
    case first =>
      go_region_with (fail)
      all_goals (clear hadd1 hadd2 hc1 hc2 hx1 Ho; go_wp2_with fail; go_meet)
      exact ⟨rfl, (hb3.alloc hb3.size _).drew⟩
    case rest =>
    obtain ⟨rfl, hb4⟩ := hcut
    clear hadd1 hadd2 hc1 hc2 hx1 hi0 hi1 hi2 hi3 hi4 hi5 Ho hb3
    have hlen : ((t.size : Int) == (s.size : Int)) = true := by have := HTsz.out; simp; omega
    have hst : (s.size : Int) ≤ (t.size : Int) := by have := HTsz.out; omega
    have hts2 : (t.size : Int) ≤ (s.size : Int) := by have := HTsz.out; omega
    have hhead := Hhead.out
    have htail : t.extract (a + 4) t.size = s.extract (a + 4) s.size := by rw [HTsz.out]; exact Htail.out
    have hq : ((t.extract ((a : Int) + 4).toNat t.size).toList == (s.extract ((a : Int) + 4).toNat s.size).toList) = true := by rw [show ((a : Int) + 4).toNat = a + 4 from by omega, htail]; simp
    have hq0 : ((t.extract 0 a).toList == (s.extract 0 a).toList) = true := by rw [hhead]; simp
    clear htail hhead
    have hi0 : (0 : Int) ≤ (a : Int) := by omega
    have hi1 : (a : Int) ≤ (s.size : Int) := by omega
    have hi1t : (a : Int) ≤ (t.size : Int) := by omega
    have hi2 : (0 : Int) ≤ (a : Int) + 4 := by omega
    have hi3 : IntKind.i64.wrap ((a : Int) + 4) = (a : Int) + 4 := IntWalk.i64_in _ ⟨by omega, by omega⟩
    have hi4 : (a : Int) + 4 ≤ (s.size : Int) := by omega
    have hi4t : (a : Int) + 4 ≤ (t.size : Int) := by omega
    have hR29 : ∀ W : World, Calls Try.prog 29 #[.string t] W fun e w' => e = .returned (.int .i64 0) ∧ Below W.heap.size W w' := fun W => by
      have h := refRem_any t W (by omega)
      rw [Hright.out] at h; exact h
    have hR30 : ∀ W : World, Calls Try.prog 30 #[.string t] W fun e w' => e = .returned (.bool true) ∧ Below W.heap.size W w' := fun W => by
      have h := right_any t W (by omega)
      rw [Hright.out] at h; exact h
    have hR30o : ∀ W : World, Calls Try.prog 30 #[.string other] W fun e w' => e = .returned (.bool false) ∧ Below W.heap.size W w' := fun W => by
      have h := right_any other W (by omega)
      rw [How.out] at h; exact h
    have HR29 := Lib.hid hR29
    have HR30 := Lib.hid hR30
    have HR30o := Lib.hid hR30o
    clear hR29 hR30 hR30o How Hright Hhead Htail HTsz hosz hts
    go_wp2_with fail
    go_region_held3 (fun _ => True) (trivial) (first | (go_at_call 33; refine (HRS.out _).mono ?_; rintro e w' ⟨rfl, hbs⟩) | (go_at_call 29; refine (HR29.out _).mono ?_; rintro e w' ⟨rfl, hbr⟩) | (go_at_call_of 30 (Value.string t); refine (HR30.out _).mono ?_; rintro e w' ⟨rfl, hbt⟩) | (go_at_call_of 30 (Value.string other); refine (HR30o.out _).mono ?_; rintro e w' ⟨rfl, hbo⟩))
    have k0 : Below w.heap.size w wc.drew := hb4.drew
    have k1 := k0.trans (hbs.mono k0.size)
    have k2 := k1.trans (hbr.mono k1.size)
    have k3 := k2.trans (hbt.mono k2.size)
    have k4 := k3.trans (hbo.mono k3.size)
    clear k0 k1 k2 k3 hbs hbr hbt hbo hb4 hq hq0 hlen hi3
    go_wp2
    go_ret
    exact ⟨rfl, k4⟩
end crcSeals
end Go.Proofs.Ytliegljkmgchbaa
