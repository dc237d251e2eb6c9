/- What serial's calls, and the document's, on numbers answer. -/
import Derived.Test.YtncpepbpphpkoaaRows
import Derived.Test.YtncpepbpphpkoaaSerMath
import Derived.Test.YtncpepbpphpkoaaRow
import Derived.Test.YtncpepbpphpkoaaBase
import Derived.Test.YtncpepbpphpkoaaSerE
import Derived.WalkKit
import Derived.ProofKit
import Derived.OpenShut
import Derived.ShutString
import Derived.WalkLawsBesides
import Derived.WalkSpells
import Derived.Lib.Hide
import Derived.Outline
import Derived.Handy
namespace Go.Proofs.Ytncpepbpphpkoaa
open Go.RowKit
theorem refDiff_any (a b : Int) (w : World) (h1 : 0 ≤ a) (h2 : a ≤ 65535) (h3 : 0 ≤ b) (h4 : b ≤ 65535) : Calls Try.prog 32 #[.int .i64 a, .int .i64 b] w fun e w' => e = .returned (.int .i64 (d16 a b)) ∧ w = w' := by
  go_enter Try.func32, Try.ntmps32
  go_wp2
  all_goals
    have h := Int.tmod_eq_emod (a := b - a) (b := 65536)
    go_ret
    refine ⟨ret_eq ?_, rfl⟩
    unfold d16
    (try simp only [wrap64] at *)
    split at h <;> (try simp at h) <;> omega

theorem low_any (a : Int) (w : World) : Calls Try.prog 33 #[.int .i64 a] w fun e w' => e = .returned (.int .i64 (a % 65536)) ∧ w = w' := by
  go_enter Try.func33, Try.ntmps33
  go_wp2
  all_goals
    have h := Int.tmod_eq_emod (a := a) (b := 65536)
    go_ret
    refine ⟨ret_eq ?_, rfl⟩
    (try simp only [wrap64] at *)
    (split at h <;> (try simp at h) <;> omega)

theorem refExt_close (last X n : Int) (h : X = near62 last) : wrap64 (X + d16 (X % 65536) n) = near62 last + d16 (near62 last % 65536) n := by
  rw [← low_wrap]; exact ext_close last X n h

theorem refExtend_any (last n : Int) (w : World) (h3 : 0 ≤ n) (h4 : n ≤ 65535) : Calls Try.prog 20 #[.int .i64 last, .int .i64 n] w fun e w' => e = .returned (.int .i64 (near62 last + d16 (near62 last % 65536) n)) ∧ w = w' := by
  go_enter Try.func20, Try.ntmps20
  go_wp2_with (first | (go_at_call 33; refine (low_any _ _).mono ?_; rintro e w' ⟨rfl, rfl⟩) | (go_at_call 32; refine (refDiff_any _ _ _ (by omega) (by omega) (by omega) (by omega)).mono ?_; rintro e w' ⟨rfl, rfl⟩))
  go_ret
  exact ⟨ret_eq (refExt_close last _ n rfl), rfl⟩

/-- The last of numbers that was later than the one so far. -/
def latest (f : Int) (zs : List Int) : Int := zs.foldl (fun m n => if 0 < d16 m n then n else m) f
theorem latest_snoc (f : Int) (zs : List Int) (k : Nat) (h : k < zs.length) :
    latest f (zs.take (k + 1)) = if 0 < d16 (latest f (zs.take k)) (zs[k]?.getD 0) then zs[k]?.getD 0 else latest f (zs.take k) := by
  unfold latest
  rw [List.take_succ_eq_append_getElem h, List.foldl_append]
  simp [h]

end Go.Proofs.Ytncpepbpphpkoaa
