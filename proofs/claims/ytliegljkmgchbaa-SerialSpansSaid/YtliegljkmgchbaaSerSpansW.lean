/- SerialSpans: the walk. -/
import Derived.Test.YtliegljkmgchbaaSerDiffsW
namespace Go.Proofs.Ytliegljkmgchbaa
open Go.RowKit
set_option linter.unusedVariables false
/-- n numbers, one behind the other, going round. -/
def spanOf (a : Int) (n : Nat) : List Int := (List.range n).map fun (i : Nat) => (a + (i : Int)) % 65536
theorem spanOf_len (a : Int) (n : Nat) : (spanOf a n).length = n := by simp [spanOf]
theorem spanOf_succ (a : Int) (n : Nat) : spanOf a (n + 1) = spanOf a n ++ [(a + (n : Int)) % 65536] := by simp [spanOf, List.range_succ]
theorem info16s : (Try.prog.info? 22).map (fun i => (i.zero, i.size, i.bytes)) = some (some (.int .u16 0), 1, 2) := by kernel_rfl
theorem span_any (a b : Int) (n : Nat) (w : World) (h1 : 0 ≤ a) (h2 : a ≤ 65535) (h3 : 0 ≤ b) (h4 : b ≤ 65535) (hn : (b - a) % 65536 + 1 = n) :
    Calls Try.prog 25 #[.int .u16 a, .int .u16 b] w fun e w' => ∃ v, e = .returned v ∧ w'.ownsRow w.heap.size 22 1 v n ((spanOf a n).map (Value.int .u16)) ∧ Below w.heap.size w w' := by
  obtain ⟨i0, hi, hz0, hz1, hz2⟩ := info_parts info16s
  have B := low_wrap
  have hn1 : 1 ≤ n := by omega
  have hn2 : n ≤ 65536 := by omega
  have Hn := Lib.hid hn
  have hm : (b - a) % 65536 + 1 = (n : Int) := hn
  clear hn
  go_enter Try.func25, Try.ntmps25
  go_wp2_with (at_make; refine wpList_make_own w rfl _ _ 32 rfl w.heap.size 22 i0 (.int .u16 0) 1 Try.underlying32 hi hz0 hz1 .i64 .i64 _ n rfl rfl ?c1 ?c2 ?c3 ?c4 ?_)
  case c1 => rfl
  case c2 => rw [hz2]; omega
  case c3 => unfold maxLen; omega
  case c4 => exact Nat.le_refl _
  intro w1 hown hgrow
  have hb1 : Below w.heap.size w w1 := (Below.refl _ _).grown hgrow (Nat.le_refl _) (by intro k hk; cases hk)
  clear hgrow
  go_wp2
  go_loopw [6, 16] (fun v i wr => ∃ k : Nat, k ≤ n ∧ i = .int .i64 k ∧ wr.ownsRow w.heap.size 22 1 v k ((spanOf a k).map (Value.int .u16)) ∧ Below w.heap.size w wr) (fun _ i _ => n - (intOf i).toNat)
  case atStart => exact ⟨0, by omega, rfl, hown, hb1⟩
  case round =>
    obtain ⟨k, hk, rfl, hown', hb⟩ := hrel
    clear hown hb1
    by_cases hlt : k < n
    · go_wp2_with (at_builtin; refine append_one (W := w) rfl _ _ 32 rfl w.heap.size 22 i0 (.int .u16 0) 2 Try.underlying32 hi hz0 hz1 hz2 rfl _ _ _ rfl hown' (.int .u16 ((a + (k : Int)) % 65536)) rfl rfl ?d1 ?d2 w.heap.size (Nat.le_refl _) hb.size hb ?_)
      case d1 => unfold maxLen; omega
      case d2 => omega
      intro v' w' hown2 hb2
      clear hown' hb
      have H2 : w'.ownsRow w.heap.size 22 1 v' (k + 1) ((spanOf a (k + 1)).map (Value.int .u16)) := by rw [spanOf_succ, List.map_append]; exact hown2
      clear hown2
      go_wp2
      go_roundw
      case rel => exact ⟨k + 1, by omega, by go_num, H2, hb2⟩
      case measure => simp [intOf]; omega
    · go_wp2
      go_ret
      obtain rfl : k = n := by omega
      exact ⟨_, rfl, hown', hb⟩
namespace serialSpans
theorem spanOf_at (a : Int) (n k : Nat) (h : k < n) : (spanOf a n)[k]?.getD 0 = (a + (k : Int)) % 65536 := by simp [spanOf, h]
theorem walk (a0 a1 : Int) (w0 : (Lit.int .u16 a0).wf = true) (w1 : (Lit.int .i64 a1).wf = true) (w : World) :
    Calls Try.prog 6 #[.int .u16 a0, .int .i64 a1] w fun e w' => e = .returned (.bool true) ∧ Below w.heap.size w w' := by
  obtain ⟨b1, b2⟩ := u16_bd w0
  clear w0 w1
  have hm := i64_and4095 a1
  have B := low_wrap
  obtain ⟨n, hn⟩ : ∃ n : Nat, (n : Int) = a1 % 4096 + 1 := ⟨(a1 % 4096 + 1).toNat, by omega⟩
  have hn1 : 1 ≤ n := by omega
  have hn2 : n ≤ 4096 := by omega
  have h16 : a1 % 4096 % 65536 = a1 % 4096 := by omega
  have Hn := Lib.hid hn
  have hnb : ((n : Int) != a1 % 4096 + 1) = false := by simp [hn]
  clear hn
  go_enter Try.func6, Try.ntmps6
  go_wp2_with fail
  refine (awake_any _).mono ?_
  rintro e w1 ⟨rfl, hb⟩
  go_wp2_with fail
  refine (span_any a0 _ n w1 b1 b2 (by omega) (by omega) (by have := Hn.out; omega)).mono ?_
  rintro e w2 ⟨v, rfl, hown, hb2⟩
  obtain ⟨ad, c, rfl, hlen, hc1, hc2, hr⟩ := own_reads hown
  have hbb := hb.trans (hb2.mono hb.size)
  have HL := Lib.hid hlen
  clear hown hb hb2 hlen
  go_wp2
  go_loop [25] (fun i => ∃ k : Nat, k ≤ n ∧ i = .int .i64 k) (fun i => n - (intOf i).toNat)
  case atStart => exact ⟨0, by omega, rfl⟩
  case round =>
    obtain ⟨k, hk, rfl⟩ := hrel
    by_cases hlt : k < n
    · obtain ⟨b, off, rfl, hcell⟩ := hr.at (i := k) (by have := HL.out; omega)
      rw [spanOf_at a0 n k hlt] at hcell
      go_wp2
      go_round
      case rel => exact ⟨k + 1, by omega, by go_num⟩
      case measure => simp [intOf]; omega
    · go_wp2
      go_ret
      exact ⟨rfl, hbb⟩
end serialSpans
end Go.Proofs.Ytliegljkmgchbaa
