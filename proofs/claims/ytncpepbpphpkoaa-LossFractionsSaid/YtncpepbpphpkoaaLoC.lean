/- loss: near, part, Fraction, Percent; the document's; math/bits where little is asked of it. -/
import Derived.Test.YtncpepbpphpkoaaLoM
import Derived.Test.YtncpepbpphpkoaaBase
import Derived.Deep.QuietTactic
import Derived.BigQuiet
import Derived.Laws.Bits64b
import Derived.Deep.DeepCutAuto
import Derived.Deep.CutBlock
import Derived.RegionTactic
import Derived.BigRegion
import Derived.Deep.RegionWith
namespace Go.Proofs.Ytncpepbpphpkoaa
open Go.RowKit
set_option linter.unusedVariables false
theorem u64_in (a : Int) (h0 : 0 ≤ a) (h1 : a < 18446744073709551616) : IntKind.u64.wrap a = a := by rw [IntKind.wrap_u64]; omega
theorem maskI (a : Int) (h0 : 0 ≤ a) (h1 : a < 18446744073709551616) : bits .and .u64 a 4294967295 = a % 4294967296 := by
  obtain ⟨n, rfl⟩ : ∃ n : Nat, a = (n : Int) := ⟨a.toNat, by omega⟩
  have h := bits_and_u64_nat n 4294967295 (by omega) (by omega)
  have e : n &&& 4294967295 = n % 4294967296 := Nat.and_two_pow_sub_one_eq_mod n 32
  rw [e] at h
  exact h
theorem hi0 (y : Int) (h0 : 0 ≤ y) (h1 : y ≤ 4398046511104) : 256 * (y % 4294967296) / 4294967296 / 4294967296 + (256 * (y % 4294967296) / 4294967296 % 4294967296 + 256 * (y / 4294967296)) / 4294967296 = 0 := by omega
theorem mul64_any (y : Int) (h0 : 0 ≤ y) (h1 : y ≤ 4398046511104) (w : World) :
    Calls Try.prog 38 #[.int .u64 256, .int .u64 y] w fun e w' => e = .returned (.tuple #[.int .u64 0, .int .u64 (256 * y)]) ∧ w = w' := by
  have m1 := maskI 256 (by omega) (by omega)
  have m2 := maskI y h0 (by omega)
  go_enter Try.func38, Try.ntmps38
  have m3 := maskI (256 * (y % 4294967296) / 4294967296) (by omega) (by omega)
  go_wp2
  go_ret2
  exact ⟨congrArg (fun x => Ending.returned (.tuple #[.int .u64 x, .int .u64 (256 * y)])) (hi0 y h0 h1), rfl⟩
theorem div64_any (lo y : Int) (h0 : 0 ≤ lo) (h1 : lo < 9223372036854775808) (k0 : 0 < y) (k1 : y < 9223372036854775808) (w : World) :
    Calls Try.prog 39 #[.int .u64 0, .int .u64 lo, .int .u64 y] w fun e w' => e = .returned (.tuple #[.int .u64 (lo / y), .int .u64 (lo % y)]) ∧ Below w.heap.size w w' := by
  go_enter Try.func39, Try.ntmps39
  go_upto_region 6 with fail
  go_quiet (fail)
  go_wp2
  go_ret2
  exact ⟨rfl, below_drewN (Below.refl _ _) nq⟩
theorem near_any (n : Int) (w : World) : Calls Try.prog 35 #[.int .i64 n] w fun e w' => e = .returned (.int .i64 (n40 n)) ∧ w = w' := by
  have h := n40_min n
  go_enter Try.func35, Try.ntmps35
  go_wp2
  go_ret
  exact ⟨rfl, rfl⟩
theorem clip_any (n : Int) (w : World) : Calls Try.prog 24 #[.int .i64 n] w fun e w' => e = .returned (.int .i64 (n40 n)) ∧ w = w' := by
  go_enter Try.func24, Try.ntmps24
  go_wp2
  go_ret
  exact ⟨rfl, rfl⟩
theorem refNear_any (n : Int) (w : World) : Calls Try.prog 36 #[.int .i64 n, .int .i64 (-1099511627776), .int .i64 1099511627776] w fun e w' => e = .returned (.int .i64 (n40 n)) ∧ w = w' := by
  by_cases h1 : n < -1099511627776
  · have e : n40 n = -1099511627776 := by unfold n40; omega
    rw [e]
    clear e
    go_enter Try.func36, Try.ntmps36
    go_wp2
    go_ret
    exact ⟨rfl, rfl⟩
  · by_cases h2 : 1099511627776 < n
    · have e : n40 n = 1099511627776 := by unfold n40; omega
      rw [e]
      clear e
      go_enter Try.func36, Try.ntmps36
      go_wp2
      go_ret
      exact ⟨rfl, rfl⟩
    · have e : n40 n = n := by unfold n40; omega
      rw [e]
      clear e
      go_enter Try.func36, Try.ntmps36
      go_wp2
      go_ret
      exact ⟨rfl, rfl⟩
theorem perc_any (f : Int) (w : World) : Calls Try.prog 25 #[.int .i64 f] w fun e w' => e = .returned (.int .i64 (perc f)) ∧ w = w' := by
  have h0 : 0 ≤ min (max f 0) 256 := by omega
  have h1 : min (max f 0) 256 ≤ 256 := by omega
  unfold perc
  go_enter Try.func25, Try.ntmps25
  go_wp2
  go_ret
  exact ⟨rfl, rfl⟩
theorem part_any (e r : Int) (e0 : -4398046511104 ≤ e) (e1 : e ≤ 2199023255552) (r0 : -4398046511104 ≤ r) (r1 : r ≤ 4398046511104) (w : World) :
    Calls Try.prog 34 #[.int .i64 e, .int .i64 r] w fun x w' => x = .returned (.int .i64 (frac e r)) ∧ Below w.heap.size w w' := by
  by_cases h1 : e ≤ 0
  · have hf : frac e r = 0 := by unfold frac; rw [if_pos (Or.inl h1)]
    rw [hf]
    clear hf
    go_enter Try.func34, Try.ntmps34
    go_wp2
    go_ret
    exact ⟨rfl, Below.refl _ _⟩
  · by_cases h2 : e ≤ r
    · have hf : frac e r = 0 := by unfold frac; rw [if_pos (Or.inr h2)]
      rw [hf]
      clear hf
      go_enter Try.func34, Try.ntmps34
      go_wp2
      go_ret
      exact ⟨rfl, Below.refl _ _⟩
    · by_cases h3 : r ≤ 0
      · have hf : frac e r = 255 := by unfold frac; rw [if_neg (by omega), if_pos h3]
        rw [hf]
        clear hf
        go_enter Try.func34, Try.ntmps34
        go_wp2
        go_ret
        exact ⟨rfl, Below.refl _ _⟩
      · have hf : frac e r = 256 * (e - r) / e := by unfold frac; rw [if_neg (by omega), if_neg h3]
        have hb := frac_bd e r
        rw [hf] at hb ⊢
        clear hf
        have hu1 : IntKind.u64.wrap (e - r) = e - r := u64_in _ (by omega) (by omega)
        have hu2 : IntKind.u64.wrap e = e := u64_in _ (by omega) (by omega)
        have hM := Lib.hid (fun W => mul64_any (e - r) (by omega) (by omega) W)
        have hD := Lib.hid (fun W => div64_any (256 * (e - r)) e (by omega) (by omega) (by omega) (by omega) W)
        have hi : IntKind.i64.wrap (256 * (e - r) / e) = 256 * (e - r) / e := IntWalk.i64_in _ ⟨by omega, by omega⟩
        generalize 256 * (e - r) / e = q at hD hi ⊢
        generalize 256 * (e - r) % e = q2 at hD
        generalize 256 * (e - r) = m at hM hD
        clear hb
        go_enter Try.func34, Try.ntmps34
        go_wp2_with (first | (go_at_call 38; refine (hM.out _).mono ?_; rintro x w' ⟨rfl, rfl⟩) | (go_at_call 39; refine (hD.out _).mono ?_; rintro x w3 ⟨rfl, hb3⟩))
        go_ret
        exact ⟨rfl, hb3⟩
theorem fraction_any (e r : Int) (w : World) :
    Calls Try.prog 23 #[.int .i64 e, .int .i64 r] w fun x w' => x = .returned (.int .i64 (frac (n40 e) (n40 r))) ∧ Below w.heap.size w w' := by
  obtain ⟨e0, e1⟩ := n40_bd e
  obtain ⟨r0, r1⟩ := n40_bd r
  have hP := part_any (n40 e) (n40 r) (by omega) (by omega) (by omega) (by omega)
  have hE := fun W => near_any e W
  have hR := fun W => near_any r W
  generalize n40 e = ne at hP hE ⊢
  generalize n40 r = nr at hP hR ⊢
  generalize frac ne nr = f at hP ⊢
  go_enter Try.func23, Try.ntmps23
  go_wp2_with fail
  refine (hE _).mono ?_
  rintro x w' ⟨rfl, rfl⟩
  go_wp2_with fail
  refine (hR _).mono ?_
  rintro x w' ⟨rfl, rfl⟩
  go_wp2_with fail
  refine (hP _).mono ?_
  rintro x w3 ⟨rfl, hb3⟩
  go_wp2
  go_ret
  exact ⟨rfl, hb3⟩
theorem refFraction_any (e r : Int) (w : World) :
    Calls Try.prog 26 #[.int .i64 e, .int .i64 r] w fun x w' => x = .returned (.int .i64 (frac (n40 e) (n40 r))) ∧ w = w' := by
  obtain ⟨e0, e1⟩ := n40_bd e
  obtain ⟨r0, r1⟩ := n40_bd r
  have hE := fun W => refNear_any e W
  have hR := fun W => refNear_any r W
  generalize n40 e = ne at e0 e1 hE ⊢
  generalize n40 r = nr at r0 r1 hR ⊢
  by_cases h1 : ne ≤ 0
  · have hf : frac ne nr = 0 := by unfold frac; rw [if_pos (Or.inl h1)]
    rw [hf]
    clear hf
    go_enter Try.func26, Try.ntmps26
    go_wp2_with fail
    refine (hE _).mono ?_
    rintro x w' ⟨rfl, rfl⟩
    go_wp2_with fail
    refine (hR _).mono ?_
    rintro x w' ⟨rfl, rfl⟩
    go_wp2
    go_ret
    exact ⟨rfl, rfl⟩
  · by_cases h2 : ne ≤ nr
    · have hf : frac ne nr = 0 := by unfold frac; rw [if_pos (Or.inr h2)]
      rw [hf]
      clear hf
      go_enter Try.func26, Try.ntmps26
      go_wp2_with fail
      refine (hE _).mono ?_
      rintro x w' ⟨rfl, rfl⟩
      go_wp2_with fail
      refine (hR _).mono ?_
      rintro x w' ⟨rfl, rfl⟩
      go_wp2
      go_ret
      exact ⟨rfl, rfl⟩
    · have hf := ref_frac ne nr (by omega)
      have hne : 0 < ne := by omega
      have b0 : 0 ≤ 256 * (ne - nr) / ne := Int.ediv_nonneg (by omega) (by omega)
      have b1 : 256 * (ne - nr) / ne ≤ 256 * (ne - nr) := Int.ediv_le_self _ (by omega)
      have ht : (256 * (ne - nr)).tdiv ne = 256 * (ne - nr) / ne := Int.tdiv_eq_ediv_of_nonneg (by omega)
      have b2 : 256 * (ne - nr) / ne ≤ 1000000000000000 := by omega
      rw [← hf]
      generalize hq : 256 * (ne - nr) / ne = q at ht b0 b1 b2 ⊢
      clear hf b1
      by_cases h5 : 255 < q
      · rw [if_pos h5]
        go_enter Try.func26, Try.ntmps26
        go_wp2_with fail
        refine (hE _).mono ?_
        rintro x w' ⟨rfl, rfl⟩
        go_wp2_with fail
        refine (hR _).mono ?_
        rintro x w' ⟨rfl, rfl⟩
        go_wp2
        go_ret
        exact ⟨rfl, rfl⟩
      · rw [if_neg h5]
        go_enter Try.func26, Try.ntmps26
        go_wp2_with fail
        refine (hE _).mono ?_
        rintro x w' ⟨rfl, rfl⟩
        go_wp2_with fail
        refine (hR _).mono ?_
        rintro x w' ⟨rfl, rfl⟩
        go_wp2
        go_ret
        exact ⟨rfl, rfl⟩
theorem loAwake_any (w : World) : Calls Try.prog 22 #[] w fun x w' => x = .returned (.bool true) ∧ Below w.heap.size w w' := by
  have e1 : frac (n40 10) (n40 5) = 128 := by decide
  have e2 : frac (n40 4) (n40 0) = 255 := by decide
  have e3 : frac (n40 4) (n40 5) = 0 := by decide
  have e4 : perc 128 = 50 := by decide
  have h1 := fun W => fraction_any 10 5 W
  have h2 := fun W => fraction_any 4 0 W
  have h3 := fun W => fraction_any 4 5 W
  have h4 := fun W => perc_any 128 W
  rw [e1] at h1
  rw [e2] at h2
  rw [e3] at h3
  rw [e4] at h4
  clear e1 e2 e3 e4
  go_enter Try.func22, Try.ntmps22
  go_wp2_with fail
  refine (h1 _).mono ?_
  rintro x w3 ⟨rfl, hb3⟩
  go_wp2_with fail
  refine (h2 _).mono ?_
  rintro x w4 ⟨rfl, hb4⟩
  have hq4 := hb3.trans (hb4.mono hb3.size)
  go_wp2_with fail
  refine (h3 _).mono ?_
  rintro x w5 ⟨rfl, hb5⟩
  have hq5 := hq4.trans (hb5.mono hq4.size)
  go_wp2_with fail
  refine (h4 _).mono ?_
  rintro x w' ⟨rfl, rfl⟩
  go_wp2
  go_ret
  exact ⟨rfl, hq5⟩
end Go.Proofs.Ytncpepbpphpkoaa
