/- split: among, Split. -/
import Derived.Test.YtihbhgimceglnaaSpM
namespace Go.Proofs.Ytihbhgimceglnaa
open Go.RowKit
set_option linter.unusedVariables false
set_option linter.unusedSimpArgs false
theorem spAmong_q (a n b : Int) (w : World) : Calls Try.prog 53 #[.int .i64 a, .int .i64 n, .int .i64 b] w fun e w' => e = .returned (.int .i64 (min (max n a) b)) ∧ w' = w := by
  go_enter Try.func53, Try.ntmps53
  go_wp2
  go_ret
  exact ⟨rfl, rfl⟩
theorem infoSp : (Try.prog.info? 9).map (fun i => (i.zero, i.size, i.bytes)) = some (some (.string ByteArray.empty), 1, 16) := by kernel_rfl
def strLen : Value → Nat
  | .string s => s.size
  | _ => 0
theorem split_none (s : ByteArray) (size : Int) (w : World) (hs : s.size ≤ 4611686018427387904) (h : spC size * 255 < s.size) :
    Calls Try.prog 14 #[.string s, .int .i64 size] w fun e w' => e = .returned (.slice none 0 0) ∧ w' = w := by
  have hA := Lib.hid (spAmong_q 1 size 1472 w)
  rw [spC_int] at hA
  have hC := spC_bd size
  generalize spC size = n at *
  go_enter Try.func14, Try.ntmps14
  go_wp2_with fail
  refine hA.out.mono ?_
  rintro e w' ⟨rfl, hq⟩
  subst hq
  go_wp2_with fail
  go_ret
  exact ⟨rfl, rfl⟩
set_option maxRecDepth 100000 in
set_option maxHeartbeats 1600000 in
theorem split_some (s : ByteArray) (size : Int) (w : World) (h : s.size ≤ spC size * 255) :
    Calls Try.prog 14 #[.string s, .int .i64 size] w fun e w' => ∃ v, e = .returned v ∧ w'.ownsRow w.heap.size 9 1 v (spN s.size (spC size)) ((spL s (spC size) (spN s.size (spC size))).map Value.string) ∧ Below w.heap.size w w' := by
  obtain ⟨i0, hi, hz0, hz1, hz2⟩ := info_parts infoSp
  have hA := Lib.hid (spAmong_q 1 size 1472 w)
  rw [spC_int] at hA
  have hC := spC_bd size
  generalize spC size = n at *
  have hd : decide ((n : Int) * 255 < (s.size : Int)) = false := decide_eq_false (by omega)
  go_enter Try.func14, Try.ntmps14
  go_wp2_with fail
  refine hA.out.mono ?_
  rintro e w' ⟨rfl, hq⟩
  subst hq
  go_wp2_with fail
  go_loopw [0, 5] (fun s0 s5 wr => ∃ k : Nat, (k = 0 ∨ k * n < s.size) ∧ k ≤ 255 ∧ s0 = .string (s.extract (k * n) s.size) ∧ wr.ownsRow w'.heap.size 9 1 s5 k ((spL s n k).map Value.string) ∧ Below w'.heap.size w' wr) (fun s0 _ _ => strLen s0)
  case atStart => exact ⟨0, .inl rfl, by omega, by simp, World.ownsRow_nil _ _ _ _, Below.refl _ _⟩
  case round =>
    obtain ⟨k, hk, hk2, rfl, hown, hb⟩ := hrel
    have hkn : k * n ≤ s.size := by rcases hk with rfl | hk <;> omega
    have hsz : (s.extract (k * n) s.size).size = s.size - k * n := by rw [ByteArray.size_extract]; omega
    have HE : Hid (spP s n k = s.extract (k * n) (min s.size (k * n + n))) := Lib.hid rfl
    have HX : Hid (∀ a b, (s.extract (k * n) s.size).extract a b = s.extract (k * n + a) (min (k * n + b) s.size)) := Lib.hid fun a b => ByteArray.extract_extract
    have HL := Lib.hid (spN_last s.size n k hC.1 hk)
    have HV : Hid ((spL s n (k + 1)).map Value.string = (spL s n k).map Value.string ++ [.string (spP s n k)]) := Lib.hid (by rw [spL_succ, List.map_append]; rfl)
    have HSM := Lib.hid (show (k + 1) * n = k * n + n from Nat.succ_mul k n)
    have hkb : k * n + n ≤ 377000 ∨ s.size < k * n + n := by
      have : n * 255 ≤ 1472 * 255 := Nat.mul_le_mul_right _ hC.2
      omega
    have hkc : k * n < s.size → k + 1 ≤ 255 ∨ s.size ≤ k * n + n := by
      intro h1
      by_cases h2 : k = 255
      · subst h2
        rw [Nat.mul_comm] at h1
        omega
      · exact .inl (by omega)
    obtain ⟨q, hq⟩ : ∃ q, k * n = q := ⟨_, rfl⟩
    rw [hq] at hk hkn hsz HE HX HL HSM hkb hkc ⊢
    generalize hD : s.extract q s.size = D at *
    have HD := Lib.hid hD
    have HQ := Lib.hid hq
    generalize hxs : (spL s n k).map Value.string = xs at *
    obtain ⟨z, hz⟩ : ∃ z, D.size = z := ⟨_, rfl⟩
    have hzb : z = s.size - q := by omega
    have HZ := Lib.hid hzb
    clear hD hxs hsz hq
    by_cases hlt : n < z
    · have hkk : k + 1 ≤ 255 := by
        rcases hkc (by omega) with h1 | h1
        · exact h1
        · omega
      have HP : Hid (D.extract 0 n = spP s n k) := Lib.hid (by rw [HX.out, HE.out, Nat.min_comm]; rfl)
      have HT : Hid (D.extract n z = s.extract ((k + 1) * n) s.size) := Lib.hid (by rw [HX.out, HSM.out, show min (q + z) s.size = s.size by omega])
      have HR : Hid (z - n < z ∧ (D.extract n z).size = z - n) := Lib.hid ⟨by omega, by rw [ByteArray.size_extract]; omega⟩
      have hgo : (k + 1) * n < s.size := by rw [HSM.out]; omega
      have HGO := Lib.hid hgo
      clear hgo hzb hkc hkb hk
      have hdz : decide ((n : Int) < (z : Int)) = true := decide_eq_true (by omega)
      go_wp2_with (at_builtin; refine append_one (W := w') rfl _ _ 24 rfl w'.heap.size 9 i0 (.string ByteArray.empty) 16 Try.underlying24 hi hz0 hz1 hz2 rfl _ _ _ rfl hown (.string (D.extract 0 n)) rfl rfl ?d1 ?d2 w'.heap.size (Nat.le_refl _) hb.size hb ?_)
      case d1 => unfold maxLen; omega
      case d2 => omega
      intro v2 w2 hown2 hb2
      rw [HP.out, ← HV.out] at hown2
      clear hown hb
      go_wp2_with fail
      go_roundw
      case rel => exact ⟨k + 1, .inr HGO.out, hkk, by rw [HT.out], hown2, hb2⟩
      case measure => simp [strLen, hz, HR.out.2]; exact HR.out.1
    · have hlast := HL.out (by omega)
      have HLA := Lib.hid hlast
      have HP : Hid (D = spP s n k) := Lib.hid (by rw [HE.out, ← HD.out, show min s.size (q + n) = s.size by omega])
      have hdz : decide ((n : Int) < (z : Int)) = false := decide_eq_false (by omega)
      clear hlast hzb hkc hkb hk
      go_wp2_with (at_builtin; refine append_one (W := w') rfl _ _ 24 rfl w'.heap.size 9 i0 (.string ByteArray.empty) 16 Try.underlying24 hi hz0 hz1 hz2 rfl _ _ _ rfl hown (.string D) rfl rfl ?d1 ?d2 w'.heap.size (Nat.le_refl _) hb.size hb ?_)
      case d1 => unfold maxLen; omega
      case d2 => omega
      intro v2 w2 hown2 hb2
      rw [HP.out, ← HV.out] at hown2
      go_wp2_with fail
      go_ret
      exact ⟨v2, rfl, by rw [HLA.out]; exact hown2, hb2⟩
end Go.Proofs.Ytihbhgimceglnaa
