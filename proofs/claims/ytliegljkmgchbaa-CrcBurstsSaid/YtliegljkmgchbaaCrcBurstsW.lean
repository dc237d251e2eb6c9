/- CrcBursts: the walk. -/
import Derived.Test.YtliegljkmgchbaaCrcU
import Derived.Test.YtliegljkmgchbaaCrcS
import Derived.Test.YtliegljkmgchbaaCrcTB
import Derived.Deep.DeepCutAuto
namespace Go.Proofs.Ytliegljkmgchbaa
open Go.RowKit
set_option linter.unusedVariables false
/-- BURST: a text that is right, turned, is right just if nothing was. -/
theorem turn_right (l : List UInt8) (at_ : Int) (m : Nat) (h0 : remOf l = 0#32) : (((remOf (turnL l at_ m)).toNat : Int) == 0) = (span (dif l (turnL l at_ m)) (8 * l.length) == 0) := by
  obtain ⟨h1, h2, h3⟩ := span_turn l at_ m
  by_cases hn : 0 < span (dif l (turnL l at_ m)) (8 * l.length)
  · have hs : (span (dif l (turnL l at_ m)) (8 * l.length) == 0) = false := by rw [beq_eq_false_iff_ne]; omega
    rw [hs, beq_eq_false_iff_ne]
    intro e
    have e0 : remOf (turnL l at_ m) = 0#32 := by apply BitVec.eq_of_toNat_eq; simpa using e
    have e1 : remOf l = remOf (turnL l at_ m) := by rw [h0, e0]
    unfold remOf at e1
    rw [turnL_len] at e1
    unfold span at h2 hn
    rcases fl_spec (dif l (turnL l at_ m)) (8 * l.length) with ⟨g1, g2, g3⟩ | ⟨F, L, g1, g2, g3, g4, g5, g6, g7, g8⟩
    · rw [if_pos (by omega)] at hn; omega
    · rw [if_neg (by omega), g1, g2] at h2
      refine Crc.R_burst (Crc.bitOf l) (Crc.bitOf (turnL l at_ m)) (8 * l.length) F L g3 g4 (by omega) ?_ ?_ ?_ e1
      · intro i hi; have := g7 i hi; unfold dif at this; simpa using this
      · unfold dif at g5; simpa using g5
      · intro i hi hj; have := g8 i hi hj; unfold dif at this; simpa using this
  · have hs : (span (dif l (turnL l at_ m)) (8 * l.length) == 0) = true := by rw [beq_iff_eq]; omega
    have e : l = turnL l at_ m := Classical.byContradiction fun h => hn (h3.2 h)
    rw [hs, ← e, h0]
    rfl
theorem cut_q (s : ByteArray) (n : Nat) (w : World) (hs : s.size ≤ 9223372036854775807) (hn : n ≤ 1099511627776) :
    Calls Try.prog 31 #[.string s, .int .i64 (n : Int)] w fun e w' => e = .returned (.string (cutB s n)) ∧ w' = w :=
  (cut_any s n w hs hn).mono fun e w' ⟨h1, h2⟩ => ⟨h1, h2.symm⟩
namespace crcBursts
set_option maxHeartbeats 1000000 in
theorem walk (s0 : ByteArray) (a1 a2 a3 : Int) (hs0 : s0.size ≤ maxLen) (w1 : (Lit.int .i64 a1).wf = true) (w2 : (Lit.int .i64 a2).wf = true) (w3 : (Lit.int .u32 a3).wf = true) (w : World) :
    Calls Try.prog 10 #[.agg #[.string s0, .int .i64 a1, .int .i64 a2, .int .u32 a3]] w fun e w' => e = .returned (.bool true) ∧ Below w.heap.size w w' := by
  unfold maxLen at hs0
  obtain ⟨m, rfl, hm⟩ : ∃ m : Nat, a3 = (m : Int) ∧ m < 4294967296 := by
    simp [Lit.wf, IntKind.min, IntKind.max, IntKind.bits, IntKind.signed] at w3
    exact ⟨a3.toNat, by omega, by omega⟩
  clear w1 w2 w3
  have hA := (cut_size s0 120).1
  have hand := i64_and255 a1
  go_enter Try.func10, Try.ntmps10
  go_wp2_with fail
  refine (crcAwake_any _).mono ?_
  rintro e w1 ⟨rfl, hb0⟩
  have hb : Below w.heap.size w w1 := ((Below.refl _ _).alloc (Nat.le_refl _) _).trans (hb0.mono (by simp))
  have c0 : w1.cell? ⟨w.heap.size, 0, none⟩ = some (.string s0) := cell_later hb0 (by simp)
  have c1 : w1.cell? ⟨w.heap.size, 1, none⟩ = some (.int .i64 a1) := cell_later hb0 (by simp)
  have c2 : w1.cell? ⟨w.heap.size, 2, none⟩ = some (.int .i64 a2) := cell_later hb0 (by simp)
  have c3 : w1.cell? ⟨w.heap.size, 3, none⟩ = some (.int .u32 (m : Int)) := cell_later hb0 (by simp)
  clear hb0
  go_wp2_with fail
  go_quiet ((go_at_call 31; exact Calls.quiet_of_same (cut_q s0 120 _ (by omega) (by omega))))
  have hb2 : Below w.heap.size w (w1.drewN nq) := below_drewN hb nq
  generalize w1.drewN nq = w4 at hb2 ⊢
  clear c0 c1 c2 c3 hb
  generalize cutB s0 120 = s at hA ⊢
  by_cases h4 : s.size < 4
  · have h4' : (s.size : Int) < 4 := by omega
    have hmod : (a1 % 256) % 1 = 0 := by omega
    go_wp2_with ((go_at_call 32; refine (sealBad_any _ _ _ (by omega) (by omega)).mono ?_; rintro e w' ⟨rfl, rfl⟩))
    go_ret
    exact ⟨rfl, hb2⟩
  · have h4' : 4 ≤ (s.size : Int) := by omega
    obtain ⟨a, ha, ha4⟩ : ∃ a : Nat, (a1 % 256) % max 1 ((s.size : Int) - 3) = (a : Int) ∧ a + 4 ≤ s.size := by
      rw [show max 1 ((s.size : Int) - 3) = (s.size : Int) - 3 from by omega]
      have h1 : 0 ≤ (a1 % 256) % ((s.size : Int) - 3) := Int.emod_nonneg _ (by omega)
      have h2 : (a1 % 256) % ((s.size : Int) - 3) < (s.size : Int) - 3 := Int.emod_lt_of_pos _ (by omega)
      exact ⟨((a1 % 256) % ((s.size : Int) - 3)).toNat, by omega, by omega⟩
    have hright : remOf (sealL (by_ s) a) = 0#32 := sealL_right _ _ (by rw [by_len]; exact ha4)
    have hlen : (sealL (by_ s) a).length = s.size := by rw [sealL_len _ _ (by rw [by_len]; exact ha4), by_len]
    have hS := seal_any s a w4 (by omega) ha4
    generalize hL : sealL (by_ s) a = L at hright hlen hS
    obtain ⟨q1, q2, q3⟩ := span_turn L a2 m
    have hbeq := turn_right L a2 m hright
    have hTsz : (ofL L).size = s.size := by rw [ofL_size, hlen]
    have hUsz : (ofL (turnL L a2 m)).size = s.size := by rw [ofL_size, turnL_len, hlen]
    have hspan : bst (ofL L) (ofL (turnL L a2 m)) = span (dif L (turnL L a2 m)) (8 * L.length) := by
      unfold bst; rw [if_pos (by rw [hUsz, hTsz]), by_ofL, by_ofL, hTsz, hlen]
    rw [← hspan] at q1 q2 hbeq
    have hturn1 : ∀ W : World, Calls Try.prog 34 #[.string (ofL L), .int .i64 a2, .int .u32 (m : Int)] W fun e w' => e = .returned (.string (ofL (turnL L a2 m))) ∧ Below W.heap.size W w' := fun W => by
      have h := turn_any (ofL L) a2 m W (by omega) hm
      rw [by_ofL] at h; exact h
    have hturn2 : ∀ W : World, Calls Try.prog 36 #[.string (ofL L), .int .i64 a2, .int .u32 (m : Int)] W fun e w' => e = .returned (.string (ofL (turnL L a2 m))) ∧ Below W.heap.size W w' := fun W => by
      have h := refTurn_any (ofL L) a2 m W (by omega) (by omega) hm
      rw [by_ofL] at h; exact h
    have hrt : ∀ W : World, Calls Try.prog 30 #[.string (ofL (turnL L a2 m))] W fun e w' => e = .returned (.bool (bst (ofL L) (ofL (turnL L a2 m)) == 0)) ∧ Below W.heap.size W w' := fun W => by
      have h := right_any (ofL (turnL L a2 m)) W (by omega)
      rw [by_ofL, hbeq] at h; exact h
    have Ht1 := Lib.hid hturn1
    have Ht2 := Lib.hid hturn2
    have Hrt := Lib.hid hrt
    clear hturn1 hturn2 hrt hspan hbeq q3 hright hL
    generalize ofL L = t at hS hTsz Ht1 Ht2 Hrt q1 q2
    generalize ofL (turnL L a2 m) = u at hUsz Ht1 Ht2 Hrt q1 q2
    have hts : t.size ≤ 120 := by omega
    have hus : u.size ≤ 120 := by omega
    clear hlen hTsz hUsz
    go_wp2_with fail
    refine hS.mono ?_
    clear hS
    rintro e w5 ⟨rfl, hb5⟩
    have hb6 := hb2.trans (hb5.mono hb2.size)
    clear hb2 hb5
    go_wp2_with fail
    refine (Ht1.out w5).mono ?_
    rintro e w6 ⟨rfl, hb7⟩
    have hb8 := hb6.trans (hb7.mono hb6.size)
    clear hb6 hb7
    go_wp2_with fail
    refine (refBurst_all t u w6 (by omega) (by omega)).mono ?_
    rintro e w7 ⟨rfl, hb9⟩
    have hb10 := hb8.trans (hb9.mono hb8.size)
    clear hb8 hb9
    have hbst := burst_all t u
    have HB := Lib.hid hbst
    clear hbst
    generalize bst t u = n at q1 q2 Hrt HB
    go_wp2_with fail
    refine (Ht2.out w7).mono ?_
    rintro e w8 ⟨rfl, hb11⟩
    have hb12 := hb10.trans (hb11.mono hb10.size)
    clear hb10 hb11
    go_wp2_with fail
    refine (HB.out w8 (by omega) (by omega)).mono ?_
    rintro e w9 ⟨rfl, rfl⟩
    go_wp2_with fail
    refine (Hrt.out w8).mono ?_
    rintro e w9 ⟨rfl, hb13⟩
    have hb14 := hb12.trans (hb13.mono hb12.size)
    go_wp2
    go_ret
    exact ⟨rfl, hb14⟩
end crcBursts
end Go.Proofs.Ytliegljkmgchbaa
