/- split: the document's Split. -/
import Derived.Test.YtihbhgimceglnaaSpE
namespace Go.Proofs.Ytihbhgimceglnaa
open Go.RowKit
set_option linter.unusedVariables false
set_option linter.unusedSimpArgs false
theorem spN_int (z n : Nat) (hn : 1 ≤ n) : max 1 (((z : Int) + n - 1) / n) = (spN z n : Int) := by
  unfold spN
  have e : ((z : Int) + n - 1) = ((z + n - 1 : Nat) : Int) := by omega
  rw [e, ← Int.natCast_ediv]
  omega
set_option maxRecDepth 100000 in
set_option maxHeartbeats 1600000 in
theorem refSplit_none (s : ByteArray) (size : Int) (w : World) (hs : s.size ≤ 1048576) (h : 255 < spN s.size (spC size)) :
    Calls Try.prog 15 #[.string s, .int .i64 size] w fun e w' => e = .returned (.slice none 0 0) ∧ w' = w := by
  have hC := spC_bd size
  have hca := spC_alt size
  generalize spC size = n at *
  have hN := spN_int s.size n hC.1
  generalize spN s.size n = N at *
  go_enter Try.func15, Try.ntmps15
  go_wp2_with fail
  go_ret
  exact ⟨rfl, rfl⟩
set_option maxRecDepth 100000 in
set_option maxHeartbeats 3200000 in
theorem refSplit_some (s : ByteArray) (size : Int) (w : World) (hs : s.size ≤ 1048576) (h : spN s.size (spC size) ≤ 255) :
    Calls Try.prog 15 #[.string s, .int .i64 size] w fun e w' => ∃ v, e = .returned v ∧ w'.ownsRow w.heap.size 9 1 v (spN s.size (spC size)) ((spL s (spC size) (spN s.size (spC size))).map Value.string) ∧ Below w.heap.size w w' := by
  obtain ⟨i0, hi, hz0, hz1, hz2⟩ := info_parts infoSp
  have hC := spC_bd size
  have hca := spC_alt size
  generalize spC size = n at *
  have hN := spN_int s.size n hC.1
  have hNp := spN_pos s.size n
  have HIN := Lib.hid (fun i (hi : i + 1 < spN s.size n) => spN_in s.size n i hC.1 hi)
  have HE : Hid (∀ k, spP s n k = s.extract (k * n) (min s.size (k * n + n))) := Lib.hid fun _ => rfl
  have HV : Hid (∀ k, (spL s n (k + 1)).map Value.string = (spL s n k).map Value.string ++ [.string (spP s n k)]) := Lib.hid fun k => by rw [spL_succ, List.map_append]; rfl
  generalize spN s.size n = N at *
  have hal : Below w.heap.size w (w.alloc (.cells #[] 9)) := (Below.refl _ _).alloc (Nat.le_refl _) _
  have hE : (w.alloc (.cells #[] 9)).ownsRow w.heap.size 9 1 (.slice (some ⟨w.heap.size, 0, none⟩) 0 0) 0 ((spL s n 0).map Value.string) := World.ownsRow_lit w #[] 0 (Nat.le_refl _) (Nat.zero_le _) rfl
  go_enter Try.func15, Try.ntmps15
  go_upto_region 6 with fail
  generalize w.alloc (.cells #[] 9) = w2 at *
  go_wp2_with fail
  go_loopw [7, 8] (fun v i wr => ∃ k : Nat, k ≤ N ∧ i = .int .i64 k ∧ wr.ownsRow w.heap.size 9 1 v k ((spL s n k).map Value.string) ∧ Below w.heap.size w wr) (fun _ i _ => N - (intOf i).toNat)
  case atStart => exact ⟨0, Nat.zero_le _, rfl, hE, hal⟩
  case round =>
    obtain ⟨k, hk, rfl, hown, hb⟩ := hrel
    clear hE hal
    by_cases hlt : k < N
    · obtain ⟨q, hq⟩ : ∃ q, k * n = q := ⟨_, rfl⟩
      have hqi : (k : Int) * (n : Int) = (q : Int) := by rw [← hq, Int.natCast_mul]
      have hqs : q ≤ s.size := by
        rcases Nat.eq_zero_or_pos k with rfl | h0
        · omega
        · have h1 := HIN.out (k - 1) (by omega)
          have e : (k - 1) * n + n = k * n := by
            obtain ⟨j, rfl⟩ : ∃ j, k = j + 1 := ⟨k - 1, by omega⟩
            rw [Nat.succ_mul]
            simp
          omega
      have HEk := Lib.hid (HE.out k)
      have HVk := Lib.hid (HV.out k)
      rw [hq] at HEk
      generalize (spL s n k).map Value.string = xs at *
      have hm1 : min (s.size : Int) ((q : Int) + n) = ((min s.size (q + n) : Nat) : Int) := by omega
      have hm2 : q ≤ min s.size (q + n) := by omega
      have hm3 : min s.size (q + n) ≤ s.size := by omega
      generalize min s.size (q + n) = m at *
      clear hq HE HV HIN
      go_wp2_with (at_builtin; refine append_one (W := w) rfl _ _ 24 rfl w.heap.size 9 i0 (.string ByteArray.empty) 16 Try.underlying24 hi hz0 hz1 hz2 rfl _ _ _ rfl hown (.string (s.extract q m)) rfl rfl ?d1 ?d2 w.heap.size (Nat.le_refl _) hb.size hb ?_)
      case d1 => unfold maxLen; omega
      case d2 => omega
      intro v2 w3 hown2 hb2
      rw [← HEk.out, ← HVk.out] at hown2
      clear hown hb
      go_wp2_with fail
      go_roundw
      case rel => exact ⟨k + 1, by omega, by go_num, hown2, hb2⟩
      case measure => simp [intOf]; omega
    · obtain rfl : k = N := by omega
      go_wp2_with fail
      go_ret
      exact ⟨_, rfl, hown, hb⟩
end Go.Proofs.Ytihbhgimceglnaa
