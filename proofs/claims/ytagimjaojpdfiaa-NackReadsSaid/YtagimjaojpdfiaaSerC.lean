/- What serial's calls, and the document's, on numbers answer. -/
import Derived.Test.YtagimjaojpdfiaaRows
import Derived.Test.YtagimjaojpdfiaaSerMath
import Derived.Test.YtagimjaojpdfiaaRow
import Derived.Test.YtagimjaojpdfiaaBase
import Derived.Test.YtagimjaojpdfiaaSerE
import Derived.WalkKit
import Derived.ProofKit
import Derived.OpenShut
import Derived.ShutString
import Derived.WalkLawsBesides
import Derived.WalkSpells
import Derived.Lib.Hide
import Derived.Outline
import Derived.Handy
namespace Go.Proofs.Ytagimjaojpdfiaa
open Go.RowKit
theorem refExt_close (last X n : Int) (h : X = near62 last) : wrap64 (X + d16 (X % 65536) n) = near62 last + d16 (near62 last % 65536) n := by
  rw [← low_wrap]; exact ext_close last X n h

/-- The last of numbers that was later than the one so far. -/
def latest (f : Int) (zs : List Int) : Int := zs.foldl (fun m n => if 0 < d16 m n then n else m) f
theorem latest_snoc (f : Int) (zs : List Int) (k : Nat) (h : k < zs.length) :
    latest f (zs.take (k + 1)) = if 0 < d16 (latest f (zs.take k)) (zs[k]?.getD 0) then zs[k]?.getD 0 else latest f (zs.take k) := by
  unfold latest
  rw [List.take_succ_eq_append_getElem h, List.foldl_append]
  simp [h]

end Go.Proofs.Ytagimjaojpdfiaa
