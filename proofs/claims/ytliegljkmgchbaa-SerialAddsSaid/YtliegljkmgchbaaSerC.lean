/- What serial's calls, and the document's, on numbers answer. -/
import Derived.Test.YtliegljkmgchbaaRows
import Derived.Test.YtliegljkmgchbaaSerMath
import Derived.Test.YtliegljkmgchbaaRow
import Derived.WalkKit
import Derived.ProofKit
import Derived.OpenShut
import Derived.ShutString
import Derived.WalkLawsBesides
import Derived.WalkSpells
import Derived.Lib.Hide
import Derived.Outline
import Derived.Handy
namespace Go.Proofs.Ytliegljkmgchbaa
open Go.RowKit
theorem ret_eq {k : IntKind} {a b : Int} (h : a = b) : Ending.returned (.int k a) = .returned (.int k b) := by rw [h]
theorem ret_bool {a b : Bool} (h : a = b) : Ending.returned (.bool a) = .returned (.bool b) := by rw [h]

theorem diff_any (a b : Int) (w : World) : Calls Try.prog 15 #[.int .u16 a, .int .u16 b] w fun e w' => e = .returned (.int .i64 (d16 a b)) ∧ w = w' := by
  go_enter Try.func15, Try.ntmps15
  go_wp2
  go_ret
  exact ⟨ret_eq (d16_wrap a b), rfl⟩

theorem less_any (a b : Int) (w : World) : Calls Try.prog 17 #[.int .u16 a, .int .u16 b] w fun e w' => e = .returned (.bool (decide (0 < d16 a b))) ∧ w = w' := by
  go_enter Try.func17, Try.ntmps17
  go_wp2_with (go_at_call 15; refine (diff_any _ _ _).mono ?_; rintro e w' ⟨rfl, rfl⟩)
  go_ret
  exact ⟨rfl, rfl⟩

theorem low_wrap (a : Int) : IntKind.u16.wrap a = a % 65536 := by simp [IntKind.wrap, IntKind.bits, IntKind.signed]

theorem ext_close (last X n : Int) (h : X = near62 last) : wrap64 (X + d16 (IntKind.u16.wrap X) n) = near62 last + d16 (near62 last % 65536) n := by
  have hb := d16_bd (near62 last % 65536) n
  have h62 : -4611686018427387904 ≤ near62 last ∧ near62 last ≤ 4611686018427387904 := by unfold near62; omega
  rw [h, low_wrap]
  exact IntWalk.wrap64_in _ ⟨by omega, by omega⟩

theorem extend_any (last n : Int) (w : World) : Calls Try.prog 18 #[.int .i64 last, .int .u16 n] w fun e w' => e = .returned (.int .i64 (near62 last + d16 (near62 last % 65536) n)) ∧ w = w' := by
  by_cases c1 : last < -4611686018427387904
  · go_enter Try.func18, Try.ntmps18
    go_wp2_with (go_at_call 15; refine (diff_any _ _ _).mono ?_; rintro e w' ⟨rfl, rfl⟩)
    go_ret
    exact ⟨ret_eq (ext_close last _ n (by unfold near62; omega)), rfl⟩
  · by_cases c2 : 4611686018427387904 < last
    · go_enter Try.func18, Try.ntmps18
      go_wp2_with (go_at_call 15; refine (diff_any _ _ _).mono ?_; rintro e w' ⟨rfl, rfl⟩)
      go_ret
      exact ⟨ret_eq (ext_close last _ n (by unfold near62; omega)), rfl⟩
    · go_enter Try.func18, Try.ntmps18
      go_wp2_with (go_at_call 15; refine (diff_any _ _ _).mono ?_; rintro e w' ⟨rfl, rfl⟩)
      go_ret
      exact ⟨ret_eq (ext_close last _ n (by unfold near62; omega)), rfl⟩

theorem refDiff_any (a b : Int) (w : World) (h1 : 0 ≤ a) (h2 : a ≤ 65535) (h3 : 0 ≤ b) (h4 : b ≤ 65535) : Calls Try.prog 16 #[.int .i64 a, .int .i64 b] w fun e w' => e = .returned (.int .i64 (d16 a b)) ∧ w = w' := by
  go_enter Try.func16, Try.ntmps16
  go_wp2
  all_goals
    have h := Int.tmod_eq_emod (a := b - a) (b := 65536)
    go_ret
    refine ⟨ret_eq ?_, rfl⟩
    unfold d16
    (try simp only [wrap64] at *)
    split at h <;> (try simp at h) <;> omega

theorem low_any (a : Int) (w : World) : Calls Try.prog 20 #[.int .i64 a] w fun e w' => e = .returned (.int .i64 (a % 65536)) ∧ w = w' := by
  go_enter Try.func20, Try.ntmps20
  go_wp2
  all_goals
    have h := Int.tmod_eq_emod (a := a) (b := 65536)
    go_ret
    refine ⟨ret_eq ?_, rfl⟩
    (try simp only [wrap64] at *)
    (split at h <;> (try simp at h) <;> omega)

theorem refExt_close (last X n : Int) (h : X = near62 last) : wrap64 (X + d16 (X % 65536) n) = near62 last + d16 (near62 last % 65536) n := by
  rw [← low_wrap]; exact ext_close last X n h

theorem refExtend_any (last n : Int) (w : World) (h3 : 0 ≤ n) (h4 : n ≤ 65535) : Calls Try.prog 19 #[.int .i64 last, .int .i64 n] w fun e w' => e = .returned (.int .i64 (near62 last + d16 (near62 last % 65536) n)) ∧ w = w' := by
  by_cases c1 : last < -4611686018427387904
  · go_enter Try.func19, Try.ntmps19
    go_wp2_with (first | (go_at_call 20; refine (low_any _ _).mono ?_; rintro e w' ⟨rfl, rfl⟩) | (go_at_call 16; refine (refDiff_any _ _ _ (by omega) (by omega) (by omega) (by omega)).mono ?_; rintro e w' ⟨rfl, rfl⟩))
    go_ret
    exact ⟨ret_eq (refExt_close last (-4611686018427387904) n (by unfold near62; omega)), rfl⟩
  · by_cases c2 : 4611686018427387904 < last
    · go_enter Try.func19, Try.ntmps19
      go_wp2_with (first | (go_at_call 20; refine (low_any _ _).mono ?_; rintro e w' ⟨rfl, rfl⟩) | (go_at_call 16; refine (refDiff_any _ _ _ (by omega) (by omega) (by omega) (by omega)).mono ?_; rintro e w' ⟨rfl, rfl⟩))
      go_ret
      exact ⟨ret_eq (refExt_close last 4611686018427387904 n (by unfold near62; omega)), rfl⟩
    · go_enter Try.func19, Try.ntmps19
      go_wp2_with (first | (go_at_call 20; refine (low_any _ _).mono ?_; rintro e w' ⟨rfl, rfl⟩) | (go_at_call 16; refine (refDiff_any _ _ _ (by omega) (by omega) (by omega) (by omega)).mono ?_; rintro e w' ⟨rfl, rfl⟩))
      all_goals go_ret
      all_goals first | exact ⟨ret_eq (refExt_close last last n (by unfold near62; omega)), rfl⟩ | exact ⟨ret_eq (refExt_close last (-4611686018427387904) n (by unfold near62; omega)), rfl⟩

/-- The last of numbers that was later than the one so far. -/
def latest (f : Int) (zs : List Int) : Int := zs.foldl (fun m n => if 0 < d16 m n then n else m) f
theorem latest_snoc (f : Int) (zs : List Int) (k : Nat) (h : k < zs.length) :
    latest f (zs.take (k + 1)) = if 0 < d16 (latest f (zs.take k)) (zs[k]?.getD 0) then zs[k]?.getD 0 else latest f (zs.take k) := by
  unfold latest
  rw [List.take_succ_eq_append_getElem h, List.foldl_append]
  simp [h]

theorem latest_any (f : Int) (zs : List Int) (a : Option Addr) (c : Nat) (w : World) (hr : Reads .u16 w a zs) (hl : zs.length ≤ maxLen) :
    Calls Try.prog 22 #[.int .u16 f, .slice a zs.length c] w fun e w' => e = .returned (.int .u16 (latest f zs)) ∧ w = w' := by
  unfold maxLen at hl
  go_enter Try.func22, Try.ntmps22
  go_wp2
  go_loop [5, 11] (fun m i => ∃ k : Nat, k ≤ zs.length ∧ i = .int .i64 k ∧ m = .int .u16 (latest f (zs.take k))) (fun _ i => zs.length - (intOf i).toNat)
  case atStart => exact ⟨0, Nat.zero_le _, rfl, rfl⟩
  case round =>
    obtain ⟨k, hk, rfl, rfl⟩ := hrel
    by_cases hlt : k < zs.length
    · have hs := latest_snoc f zs k hlt
      have HS := Lib.hid hs
      clear hs
      rcases hr with hr | ⟨b, off, rfl, hc⟩
      · simp [hr] at hlt
      have hcell := hc k hlt
      clear hc
      generalize zs[k]?.getD 0 = x at hcell HS
      by_cases h0 : 0 < d16 (latest f (zs.take k)) x
      all_goals
        go_wp2_with (go_at_call 17; refine (less_any _ _ _).mono ?_; rintro e w' ⟨rfl, rfl⟩)
        go_round
        case rel => exact ⟨k + 1, by omega, by go_num, by rw [HS.out]; first | rw [if_pos h0] | rw [if_neg (by omega)]⟩
        case measure => simp [intOf]; omega
    · go_wp2
      go_ret
      exact ⟨ret_eq (by rw [List.take_of_length_le (by omega)]), rfl⟩

theorem awake_any (w : World) : Calls Try.prog 14 #[] w fun e w' => e = .returned (.bool true) ∧ Below w.heap.size w w' := by
  have e1 : d16 65535 1 = 2 := by decide
  have e2 : d16 1 65535 = -2 := by decide
  have e3 : near62 70000 + d16 (near62 70000 % 65536) 4463 = 69999 := by decide
  have e4 : latest 5 [6, 4] = 6 := by decide
  go_enter Try.func14, Try.ntmps14
  go_wp2_with (first | (go_at_call 15; refine (diff_any _ _ _).mono ?_; rintro e w' ⟨rfl, rfl⟩) | (go_at_call 17; refine (less_any _ _ _).mono ?_; rintro e w' ⟨rfl, rfl⟩) | (go_at_call 18; refine (extend_any _ _ _).mono ?_; rintro e w' ⟨rfl, rfl⟩))
  have hr : Reads .u16 (w.alloc (.cells #[.int .u16 6, .int .u16 4] 22)) (some ⟨w.heap.size, 0, none⟩) [6, 4] := by
    refine Or.inr ⟨_, _, rfl, fun i hi => ?_⟩
    match i, hi with
    | 0, _ => simp
    | 1, _ => simp
  refine (latest_any 5 [6, 4] _ 2 _ hr (by decide)).mono ?_
  rintro e w' ⟨rfl, rfl⟩
  go_wp2
  go_ret
  exact ⟨rfl, (Below.refl _ _).alloc (Nat.le_refl _) _⟩
end Go.Proofs.Ytliegljkmgchbaa
