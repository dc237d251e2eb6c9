/- SerialLatest: the walk. -/
import Derived.Test.YtagimjaojpdfiaaSerDiffsW
import Derived.Test.YtagimjaojpdfiaaDistMath
import Derived.Maps.OwnOps
import Derived.Maps.OwnSet
namespace Go.Proofs.Ytagimjaojpdfiaa
open Go.RowKit Go.Maps
set_option linter.unusedVariables false
theorem info16 : (Try.prog.info? 129).map (fun i => (i.zero, i.size, i.bytes)) = some (some (.int .u16 0), 1, 2) := by kernel_rfl
theorem info64 : (Try.prog.info? 3).map (fun i => (i.zero, i.size, i.bytes)) = some (some (.int .i64 0), 1, 8) := by kernel_rfl
theorem law16 : Keyed Try.prog 129 := int_keyed Try.underlying129
theorem zeroU (w : World) : (zeroValue 191).run Try.prog w = .ok (.agg #[]) w := by kernel_rfl
theorem zeroI (w : World) : (zeroValue 3).run Try.prog w = .ok (.int .i64 0) w := by kernel_rfl
/-- A row of the call's own, from 'base' on, is no block below 'base' (the map's, say). -/
theorem row_neL {w : World} {base : Nat} {e : TypeId} {size : Nat} {v : Value} {n : Nat} {xs : List Value} (h : w.ownsRow base e size v n xs) {b : Nat} (hb : b < base) : some b ≠ v.ownBlock := fun e1 => by
  have := (h.lt b e1.symm).1
  omega
theorem wf_at {k : IntKind} {zs : List Int} (hwz : ∀ n ∈ zs, (Lit.int k n).wf = true) {i : Nat} (hk : i < zs.length) : (Lit.int k (zs[i]?.getD 0)).wf = true := by
  rw [List.getElem?_eq_getElem hk]
  exact hwz _ (List.getElem_mem hk)
theorem latest_bd (f : Int) (zs : List Int) (hf : 0 ≤ f ∧ f ≤ 65535) (hz : ∀ n ∈ zs, 0 ≤ n ∧ n ≤ 65535) : 0 ≤ latest f zs ∧ latest f zs ≤ 65535 := by
  unfold latest
  induction zs generalizing f with
  | nil => exact hf
  | cons a r ih =>
    rw [List.foldl_cons]
    refine ih _ ?_ (fun n hn => hz n (List.mem_cons_of_mem _ hn))
    have := hz a (by simp)
    split <;> omega
namespace serialLatest
theorem contains_take_succ (l : List Int) (k : Nat) (h : k < l.length) (hn : l.Nodup) : (l.take k).contains (l[k]?.getD 0) = false := by
  rw [← Bool.not_eq_true, List.contains_iff_mem]
  intro hm
  have e : l = l.take k ++ l[k] :: l.drop (k + 1) := by rw [← List.drop_eq_getElem_cons h, List.take_append_drop]
  have hx : l[k]?.getD 0 = l[k] := by simp [h]
  rw [hx] at hm
  rw [e] at hn
  rw [List.nodup_append] at hn
  exact hn.2.2 _ hm _ List.mem_cons_self rfl
theorem lit_inj {H : Type} {q : IntKind} {a c : Int} (h : (DataW.lit (.int q a) : DataW H) = .lit (.int q c)) : a = c := by
  injection h with h; injection h
end serialLatest
end Go.Proofs.Ytagimjaojpdfiaa
