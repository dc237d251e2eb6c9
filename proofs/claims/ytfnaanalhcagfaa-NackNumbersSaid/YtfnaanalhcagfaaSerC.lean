/- What serial's calls, and the document's, on numbers answer. -/
import Derived.Test.YtfnaanalhcagfaaRows
import Derived.Test.YtfnaanalhcagfaaSerMath
import Derived.Test.YtfnaanalhcagfaaRow
import Derived.Test.YtfnaanalhcagfaaBase
import Derived.Test.YtfnaanalhcagfaaSerE
import Derived.WalkKit
import Derived.ProofKit
import Derived.OpenShut
import Derived.ShutString
import Derived.WalkLawsBesides
import Derived.WalkSpells
import Derived.Lib.Hide
import Derived.Outline
import Derived.Handy
namespace Go.Proofs.Ytfnaanalhcagfaa
open Go.RowKit
theorem refDiff_any (a b : Int) (w : World) (h1 : 0 ≤ a) (h2 : a ≤ 65535) (h3 : 0 ≤ b) (h4 : b ≤ 65535) : Calls Try.prog 79 #[.int .i64 a, .int .i64 b] w fun e w' => e = .returned (.int .i64 (d16 a b)) ∧ w = w' := by
  go_enter Try.func79, Try.ntmps79
  go_wp2
  all_goals
    have h := Int.tmod_eq_emod (a := b - a) (b := 65536)
    go_ret
    refine ⟨ret_eq ?_, rfl⟩
    unfold d16
    (try simp only [wrap64] at *)
    split at h <;> (try simp at h) <;> omega

theorem refExt_close (last X n : Int) (h : X = near62 last) : wrap64 (X + d16 (X % 65536) n) = near62 last + d16 (near62 last % 65536) n := by
  rw [← low_wrap]; exact ext_close last X n h

/-- The last of numbers that was later than the one so far. -/
def latest (f : Int) (zs : List Int) : Int := zs.foldl (fun m n => if 0 < d16 m n then n else m) f
theorem latest_snoc (f : Int) (zs : List Int) (k : Nat) (h : k < zs.length) :
    latest f (zs.take (k + 1)) = if 0 < d16 (latest f (zs.take k)) (zs[k]?.getD 0) then zs[k]?.getD 0 else latest f (zs.take k) := by
  unfold latest
  rw [List.take_succ_eq_append_getElem h, List.foldl_append]
  simp [h]

end Go.Proofs.Ytfnaanalhcagfaa
