/- CrcTurnsBack: the walk. -/
import Derived.Test.YtliegljkmgchbaaCrcT
namespace Go.Proofs.Ytliegljkmgchbaa
open Go.RowKit
set_option linter.unusedVariables false
theorem turnL_bit (l : List UInt8) (at_ : Int) (m j : Nat) (hj : j < 8 * l.length) : Crc.bitOf (turnL l at_ m) j = (Crc.bitOf l j ^^ (decide (near at_ (8 * l.length) ≤ j ∧ j < near at_ (8 * l.length) + min 32 (8 * l.length - near at_ (8 * l.length))) && m.testBit (31 - (j - near at_ (8 * l.length))))) := by
  have h := near_le at_ (8 * l.length)
  unfold turnL
  exact Crc.turn_bit l _ m _ (by omega) j hj
/-- Turned twice: as it was. -/
theorem turnL_back (l : List UInt8) (at_ : Int) (m : Nat) : turnL (turnL l at_ m) at_ m = l := by
  apply Crc.bits_ext
  · rw [turnL_len, turnL_len]
  · intro i hi
    rw [turnL_len, turnL_len] at hi
    rw [turnL_bit _ _ _ _ (by rw [turnL_len]; exact hi), turnL_len, turnL_bit _ _ _ _ hi, Bool.xor_assoc, Bool.xor_self, Bool.xor_false]
theorem turnB_back (s : ByteArray) (at_ : Int) (m : Nat) : ofL (turnL (by_ (ofL (turnL (by_ s) at_ m))) at_ m) = s := by
  rw [by_ofL, turnL_back]
  simp [ofL, by_]
/-- Of a text turned no more than 32 bits lie between. -/
theorem span_turn (l : List UInt8) (at_ : Int) (m : Nat) : 0 ≤ span (dif l (turnL l at_ m)) (8 * l.length) ∧ span (dif l (turnL l at_ m)) (8 * l.length) ≤ 32 ∧ (0 < span (dif l (turnL l at_ m)) (8 * l.length) ↔ l ≠ turnL l at_ m) := by
  have hd : ∀ j, j < 8 * l.length → dif l (turnL l at_ m) j = true → near at_ (8 * l.length) ≤ j ∧ j < near at_ (8 * l.length) + min 32 (8 * l.length - near at_ (8 * l.length)) := by
    intro j hj h
    unfold dif at h
    rw [turnL_bit l at_ m j hj] at h
    by_cases c : near at_ (8 * l.length) ≤ j ∧ j < near at_ (8 * l.length) + min 32 (8 * l.length - near at_ (8 * l.length))
    · exact c
    · rw [decide_eq_false c, Bool.false_and, Bool.xor_false, bne_self_eq_false] at h
      cases h
  unfold span
  rcases fl_spec (dif l (turnL l at_ m)) (8 * l.length) with ⟨h1, h2, h3⟩ | ⟨F, L, h1, h2, h3, h4, h5, h6, h7, h8⟩
  · rw [if_pos (by omega)]
    refine ⟨by omega, by omega, ⟨fun h => by omega, fun h => ?_⟩⟩
    exact absurd (Crc.bits_ext _ _ (turnL_len _ _ _).symm (fun i hi => by have := h3 i hi; unfold dif at this; simpa using this)) h
  · rw [if_neg (by omega), h1, h2]
    have a := hd F (by omega) h5
    have b := hd L (by omega) h6
    refine ⟨by omega, by omega, ⟨fun _ e => ?_, fun _ => by omega⟩⟩
    unfold dif at h5
    rw [← e] at h5
    simp at h5
theorem ofL_ne (s : ByteArray) (l : List UInt8) : (by_ s ≠ l) ↔ (s ≠ ofL l) := by
  constructor
  · intro h e; exact h (by rw [e, by_ofL])
  · intro h e; exact h (by rw [← e]; simp [ofL, by_])
theorem texts_ne {s t : ByteArray} (h : s ≠ t) : (s.toList == t.toList) = false := by
  rw [ByteArray.toList_eq, ByteArray.toList_eq, beq_eq_false_iff_ne]
  intro e
  apply h
  cases s; cases t
  congr 1
  exact Array.toList_inj.1 e
namespace crcTurnsBack
theorem walk (s0 : ByteArray) (a1 a2 : Int) (hs0 : s0.size ≤ maxLen) (w1 : (Lit.int .i64 a1).wf = true) (w2 : (Lit.int .u32 a2).wf = true) (w : World) :
    Calls Try.prog 13 #[.string s0, .int .i64 a1, .int .u32 a2] w fun e w' => e = .returned (.bool true) ∧ Below w.heap.size w w' := by
  unfold maxLen at hs0
  obtain ⟨m, rfl, hm⟩ : ∃ m : Nat, a2 = (m : Int) ∧ m < 4294967296 := by
    simp [Lit.wf, IntKind.min, IntKind.max, IntKind.bits, IntKind.signed] at w2
    exact ⟨a2.toNat, by omega, by omega⟩
  clear w1 w2
  have hA := (cut_size s0 60).1
  go_enter Try.func13, Try.ntmps13
  go_wp2_with fail
  refine (crcAwake_any _).mono ?_
  rintro e w1 ⟨rfl, hb⟩
  go_wp2_with fail
  refine (cut_any s0 60 w1 (by omega) (by omega)).mono ?_
  rintro e w2 ⟨rfl, rfl⟩
  generalize cutB s0 60 = s at hA
  have hback := turnB_back s a1 m
  obtain ⟨h1, h2, h3⟩ := span_turn (by_ s) a1 m
  rw [by_len] at h1 h2 h3
  have hTs : (ofL (turnL (by_ s) a1 m)).size = s.size := by rw [ofL_size, turnL_len, by_len]
  have hd : bst s (ofL (turnL (by_ s) a1 m)) = span (dif (by_ s) (turnL (by_ s) a1 m)) (8 * s.size) := by unfold bst; rw [if_pos hTs, by_ofL]
  rw [← hd] at h1 h2 h3
  rw [ofL_ne] at h3
  have ht := turn_any s a1 m w1 (by omega) hm
  have Ht := Lib.hid ht
  clear hd ht
  generalize ofL (turnL (by_ s) a1 m) = t at hback h1 h2 h3 hTs Ht
  have hts : t.size ≤ s.size := by omega
  have hts2 : s.size ≤ t.size := by omega
  have Hback := Lib.hid hback
  have HTs := Lib.hid hTs
  have H3 := Lib.hid h3
  clear hback hTs h3
  go_wp2_with fail
  refine Ht.out.mono ?_
  rintro e w2 ⟨rfl, hb2⟩
  have hb3 := hb.trans (hb2.mono hb.size)
  clear hb hb2 Ht
  go_wp2_with fail
  refine (burst_all s t w2 (by omega) (by omega)).mono ?_
  rintro e w3 ⟨rfl, rfl⟩
  generalize bst s t = n at h1 h2 H3
  have hlen : ((t.size : Int) == (s.size : Int)) = true := by simp; omega
  go_wp2_with fail
  have ht2 := turn_any t a1 m w2 (by omega) hm
  rw [Hback.out] at ht2
  refine ht2.mono ?_
  clear ht2
  rintro e w3 ⟨rfl, hb4⟩
  have hb5 := hb3.trans (hb4.mono hb3.size)
  by_cases hn : 0 < n
  · have hne : s ≠ t := H3.out.1 hn
    go_wp2
    go_ret
    exact ⟨ret_bool (by rw [texts_ne hne]; rfl), hb5⟩
  · have he : s = t := Classical.byContradiction fun h => hn (H3.out.2 h)
    subst he
    go_wp2
    go_ret
    exact ⟨ret_bool (by simp; omega), hb5⟩
end crcTurnsBack
end Go.Proofs.Ytliegljkmgchbaa
