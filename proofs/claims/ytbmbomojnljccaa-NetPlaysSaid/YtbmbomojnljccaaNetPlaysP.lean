/- NetPlays: for every input the call answers true, and each argument reads behind the call as it read before. No conditions. -/
import Derived.Test.YtbmbomojnljccaaNePlW
import Derived.WalkKit
import Derived.ProofKit
import Derived.OpenShut
import Derived.ShutString
import Derived.ChangeOld
import Derived.Below
import Derived.SliceStrings
import Derived.Lib.SmallJoins
namespace Go.Proofs.Ytbmbomojnljccaa.netPlays
open Go.ChangeShapes Go.WideShapes Go.ChangeAt Go.RowKit Go.Joins
open Go.ChangeMaps (open_string shut_string)
set_option linter.unusedVariables false

theorem own : ownKnob Try.prog.godebug = none := by kernel_rfl
theorem laidOut : laidOutB Try.prog = true := by kernel_rfl
theorem cells0 : Try.prog.cellsOf 24 = 4 := by kernel_rfl
set_option maxRecDepth 100000 in
theorem lifted (os : Os) (started : os.Started) (H : Type) (enc : TypeId × Value → H) :
    ReturnsInHanded {} Try.checked os 3 .any (Rows.netPlaysSpec.pre6 enc Try.prog Try.f3 Rows.netPlaysRow.domain false) (Rows.netPlaysSpec.post enc Try.prog Try.f3 false true false false) := by
  refine returnsInHanded_of_change (C := Try.checked) own started (by kernel_rfl) Try.func3
    (ChangeSpec.witness6 (enc := enc) (C := Try.checked) false ⟨#[], #[.agg #[.int .i64 0, .int .i64 0, .slice none 0 0, .slice none 0 0]], []⟩ 8 (by kernel_rfl) (by kernel_rfl) (by kernel_rfl) (by kernel_rfl)) ?_
  intro W base args ds gs before hval0 hW hcnd _
  have hval : ∀ (j : Nat) t v, Try.f3.params[j]? = some t → args[j]? = some v → Value.okWide Try.prog W .any base t v := hval0
  have hW' := hW
  obtain ⟨p, q, hA0, hV, rfl, hfz, hnd⟩ := hW
  have hA : DataW.TrodAll enc Try.prog W 0 (fun _ => true) true Try.f3.params.toList args.toList ds p := hA0
  rw [Try.params3] at hA hval
  obtain ⟨v0, vs0, d0, ds0, p0, q0, hargs, rfl, rfl, h0, r0⟩ := trodAll_cons hA
  obtain ⟨rfl, rfl, rfl⟩ := trodAll_nil r0
  obtain rfl : args = #[v0] := by cases args; simp_all
  obtain ⟨rfl, rfl⟩ := trodVars_none hV
  have k0 := h0
  have lt0 : ∀ x ∈ p0, x.block < W.heap.size := by obtain ⟨m, hm⟩ := k0; exact DataW.trod_lt m _ _ _ hm
  obtain ⟨c00, c01, c02, c03, y00, y01, y02, y03, m0, rfl, rfl, rfl, hy00, hy01, hy02, hy03⟩ := open_agg4 Try.underlying24 (by kernel_rfl) cells0 (hval 0 24 v0 rfl rfl) h0
  obtain ⟨a00, e00, rfl, w00⟩ := DataW.trod_int Try.underlying3 hy00
  obtain ⟨a01, e01, rfl, w01⟩ := DataW.trod_int Try.underlying3 hy01
  obtain ⟨pp02, len02, cap02, ec02, w02, l02⟩ : ∃ pp ln cp, c02 = .slice pp ln cp ∧ Recs neActQ W pp ln ∧ ln ≤ 9223372036854775807 := by
    refine recs_openV neActQ Try.underlying22 Try.underlying40 (by kernel_rfl) (by kernel_rfl) rfl (by decide) ?_ hy02
    intro q f p hq hp n v y hy
    match q, hq, hp with
    | 0, hq, hp => cases hq; cases hp; obtain ⟨a, e, _, hw⟩ := DataW.trod_int Try.underlying3 hy; cases e; exact ⟨a, rfl, hw⟩
    | 1, hq, hp => cases hq; cases hp; obtain ⟨a, e, _, hw⟩ := DataW.trod_int Try.underlying3 hy; cases e; exact ⟨a, rfl, hw⟩
    | 2, hq, hp => cases hq; cases hp; obtain ⟨a, e, _, hw⟩ := DataW.trod_int Try.underlying3 hy; cases e; exact ⟨a, rfl, hw⟩
    | 3, hq, hp => cases hq; cases hp; obtain ⟨a, e, _, hw⟩ := DataW.trod_int Try.underlying3 hy; cases e; exact ⟨a, rfl, hw⟩
    | 4, hq, hp => cases hq; cases hp; obtain ⟨a, e, _, hw⟩ := DataW.trod_int Try.underlying3 hy; cases e; exact ⟨a, rfl, hw⟩
    | 5, hq, hp => cases hq; cases hp; obtain ⟨a, e, _, hw⟩ := DataW.trod_int Try.underlying38 hy; cases e; exact ⟨a, rfl, hw⟩
    | 6, hq, hp => cases hq; cases hp; obtain ⟨a, e, _, hw⟩ := DataW.trod_string Try.underlying9 hy; cases e; exact ⟨a, rfl, hw⟩
    | k + 7, hq, _ => simp at hq
  subst ec02
  obtain ⟨pp03, len03, cap03, ec03, w03, l03⟩ : ∃ pp ln cp, c03 = .slice pp ln cp ∧ Recs neActQ W pp ln ∧ ln ≤ 9223372036854775807 := by
    refine recs_openV neActQ Try.underlying22 Try.underlying40 (by kernel_rfl) (by kernel_rfl) rfl (by decide) ?_ hy03
    intro q f p hq hp n v y hy
    match q, hq, hp with
    | 0, hq, hp => cases hq; cases hp; obtain ⟨a, e, _, hw⟩ := DataW.trod_int Try.underlying3 hy; cases e; exact ⟨a, rfl, hw⟩
    | 1, hq, hp => cases hq; cases hp; obtain ⟨a, e, _, hw⟩ := DataW.trod_int Try.underlying3 hy; cases e; exact ⟨a, rfl, hw⟩
    | 2, hq, hp => cases hq; cases hp; obtain ⟨a, e, _, hw⟩ := DataW.trod_int Try.underlying3 hy; cases e; exact ⟨a, rfl, hw⟩
    | 3, hq, hp => cases hq; cases hp; obtain ⟨a, e, _, hw⟩ := DataW.trod_int Try.underlying3 hy; cases e; exact ⟨a, rfl, hw⟩
    | 4, hq, hp => cases hq; cases hp; obtain ⟨a, e, _, hw⟩ := DataW.trod_int Try.underlying3 hy; cases e; exact ⟨a, rfl, hw⟩
    | 5, hq, hp => cases hq; cases hp; obtain ⟨a, e, _, hw⟩ := DataW.trod_int Try.underlying38 hy; cases e; exact ⟨a, rfl, hw⟩
    | 6, hq, hp => cases hq; cases hp; obtain ⟨a, e, _, hw⟩ := DataW.trod_string Try.underlying9 hy; cases e; exact ⟨a, rfl, hw⟩
    | k + 7, hq, _ => simp at hq
  subst ec03
  simp at e00 e01
  subst e00 e01
  clear hA0 hval0
  refine (walk a00 a01 pp02 len02 cap02 pp03 len03 cap03 W w02 l02 w03 l03).mono fun e W' ⟨he, bel⟩ => ?_
  subst he
  exact ⟨_, rfl, _, _, _, [], _, [], hW', trodAll_mk1 (shut_bool Try.underlying4 _), (trodAll_cons_mk (Below.trod laidOut (by kernel_rfl) (of_decide_eq_true (by kernel_rfl)) k0 bel lt0) trodAll_mk0), rfl, bel.frame _, fun h => by cases h⟩

theorem over : Rows.netPlaysRow.holds Try.pinned (OpenSpec.ofChange Rows.netPlaysSpec) :=
  OpenClaim.holds_of_wide 3 Try.f3 rfl rfl rfl rfl rfl rfl rfl ⟨rfl, rfl, rfl, rfl, rfl⟩ rfl rfl rfl rfl rfl (by kernel_rfl) Try.func3 (by kernel_rfl)
    (of_decide_eq_true (by kernel_rfl)) (by unfold Func.isWrapper; first | (rw [if_pos (by decide +kernel)]; kernel_rfl) | (rw [if_neg (by decide +kernel)]; exact ⟨rfl, rfl⟩))
    (fun os started H enc _ => lifted os started H enc)

/-- THE STATEMENT. -/
theorem proved : Rows.NetPlaysSaid := over
#print axioms proved
end Go.Proofs.Ytbmbomojnljccaa.netPlays
