/- NetBag: for every input the call answers true, and each argument reads behind the call as it read before. No conditions. -/
import Derived.Test.YtmicpmcmjnbcjaaNeBgW
import Derived.WalkKit
import Derived.ProofKit
import Derived.OpenShut
import Derived.ShutString
import Derived.ChangeOld
import Derived.Below
import Derived.SliceStrings
import Derived.Lib.SmallJoins
namespace Go.Proofs.Ytmicpmcmjnbcjaa.netBag
open Go.ChangeShapes Go.WideShapes Go.ChangeAt Go.RowKit Go.Joins
open Go.ChangeMaps (open_string shut_string)
set_option linter.unusedVariables false

theorem own : ownKnob Try.prog.godebug = none := by kernel_rfl
theorem laidOut : laidOutB Try.prog = true := by kernel_rfl
set_option maxRecDepth 100000 in
theorem lifted (os : Os) (started : os.Started) (H : Type) (enc : TypeId × Value → H) :
    ReturnsInHanded {} Try.checked os 4 .any (Rows.netBagSpec.pre6 enc Try.prog Try.f4 Rows.netBagRow.domain false) (Rows.netBagSpec.post enc Try.prog Try.f4 false true false false) := by
  refine returnsInHanded_of_change (C := Try.checked) own started (by kernel_rfl) Try.func4
    (ChangeSpec.witness6 (enc := enc) (C := Try.checked) false ⟨#[], #[.int .i64 0, .slice none 0 0], []⟩ 8 (by kernel_rfl) (by kernel_rfl) (by kernel_rfl) (by kernel_rfl)) ?_
  intro W base args ds gs before hval0 hW hcnd _
  have hval : ∀ (j : Nat) t v, Try.f4.params[j]? = some t → args[j]? = some v → Value.okWide Try.prog W .any base t v := hval0
  have hW' := hW
  obtain ⟨p, q, hA0, hV, rfl, hfz, hnd⟩ := hW
  have hA : DataW.TrodAll enc Try.prog W 0 (fun _ => true) true Try.f4.params.toList args.toList ds p := hA0
  rw [Try.params4] at hA hval
  obtain ⟨v0, vs0, d0, ds0, p0, q0, hargs, rfl, rfl, h0, r0⟩ := trodAll_cons hA
  obtain ⟨v1, vs1, d1, ds1, p1, q1, rfl, rfl, rfl, h1, r1⟩ := trodAll_cons r0
  obtain ⟨rfl, rfl, rfl⟩ := trodAll_nil r1
  obtain rfl : args = #[v0, v1] := by cases args; simp_all
  obtain ⟨rfl, rfl⟩ := trodVars_none hV
  obtain ⟨a0, rfl, rfl, rfl, w0⟩ := open_int Try.underlying3 (hval 0 3 v0 rfl rfl) h0
  obtain ⟨pp1, len1, cap1, rfl⟩ := okWide_slice Try.underlying22 (hval 1 22 v1 rfl rfl)
  have k1 := h1
  have lt1 : ∀ x ∈ p1, x.block < W.heap.size := by obtain ⟨m, hm⟩ := k1; exact DataW.trod_lt m _ _ _ hm
  obtain ⟨w1, l1⟩ : Recs neActP W pp1 len1 ∧ len1 ≤ 9223372036854775807 := by
    obtain ⟨fuel, hf⟩ := h1
    refine recs_open (cap := cap1) neActP Try.underlying22 Try.underlying40 (by kernel_rfl) (by kernel_rfl) rfl (by decide) ?_ (by simpa [Value.cells] using hf)
    intro q f p hq hp n v y hy
    match q, hq, hp with
    | 0, hq, hp => cases hq; cases hp; obtain ⟨a, e, _, hw⟩ := DataW.trod_int Try.underlying3 hy; cases e; exact ⟨a, rfl, hw⟩
    | 1, hq, hp => cases hq; cases hp; obtain ⟨a, e, _, hw⟩ := DataW.trod_int Try.underlying3 hy; cases e; exact ⟨a, rfl, hw⟩
    | 2, hq, hp => cases hq; cases hp; obtain ⟨a, e, _, hw⟩ := DataW.trod_int Try.underlying3 hy; cases e; exact ⟨a, rfl, hw⟩
    | 3, hq, hp => cases hq; cases hp; obtain ⟨a, e, _, hw⟩ := DataW.trod_int Try.underlying3 hy; cases e; exact ⟨a, rfl, hw⟩
    | 4, hq, hp => cases hq; cases hp; obtain ⟨a, e, _, hw⟩ := DataW.trod_int Try.underlying3 hy; cases e; exact ⟨a, rfl, hw⟩
    | 5, hq, hp => cases hq; cases hp; obtain ⟨a, e, _, hw⟩ := DataW.trod_int Try.underlying38 hy; cases e; exact ⟨a, rfl, hw⟩
    | 6, hq, hp => cases hq; cases hp; obtain ⟨a, e, _, hw⟩ := DataW.trod_string Try.underlying9 hy; cases e; exact ⟨a, rfl, hw⟩
    | k + 7, hq, _ => simp at hq
  clear hA0 hval0
  refine (walk a0 pp1 len1 cap1 w0 W w1 l1).mono fun e W' ⟨he, bel⟩ => ?_
  subst he
  exact ⟨_, rfl, _, _, _, [], _, [], hW', trodAll_mk1 (shut_bool Try.underlying4 _), (trodAll_cons_mk (shut_int Try.underlying3 w0) (trodAll_cons_mk (Below.trod laidOut (by kernel_rfl) (of_decide_eq_true (by kernel_rfl)) k1 bel lt1) trodAll_mk0)), rfl, bel.frame _, fun h => by cases h⟩

theorem over : Rows.netBagRow.holds Try.pinned (OpenSpec.ofChange Rows.netBagSpec) :=
  OpenClaim.holds_of_wide 4 Try.f4 rfl rfl rfl rfl rfl rfl rfl ⟨rfl, rfl, rfl, rfl, rfl⟩ rfl rfl rfl rfl rfl (by kernel_rfl) Try.func4 (by kernel_rfl)
    (of_decide_eq_true (by kernel_rfl)) (by unfold Func.isWrapper; first | (rw [if_pos (by decide +kernel)]; kernel_rfl) | (rw [if_neg (by decide +kernel)]; exact ⟨rfl, rfl⟩))
    (fun os started H enc _ => lifted os started H enc)

/-- THE STATEMENT. -/
theorem proved : Rows.NetBagSaid := over
#print axioms proved
end Go.Proofs.Ytmicpmcmjnbcjaa.netBag
