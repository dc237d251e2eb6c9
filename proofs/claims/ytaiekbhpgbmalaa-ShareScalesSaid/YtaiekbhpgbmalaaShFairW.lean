/- ShareFair: the walk. -/
import Derived.Test.YtaiekbhpgbmalaaShFairM
namespace Go.Proofs.Ytaiekbhpgbmalaa
open Go.RowKit
set_option linter.unusedVariables false
set_option linter.unusedSimpArgs false
theorem row_other {W W' : World} {B B2 e e2 m m2 n n2 : Nat} {v v2 : Value} {xs xs2 : List Value} (h : W.ownsRow B e m v n xs) (h2 : W.ownsRow B2 e2 m2 v2 n2 xs2) (hg : W.grownBy W' v2.ownBlock) (hne : e ≠ e2) : W'.ownsRow B e m v n xs :=
  row_keepT h (fun k cs hk => by rw [hg.block k (lt_of_block hk) (row_neL h2 hk hne)]; exact hk)
theorem at1_other {W W' : World} {B2 e2 m2 n2 g : Nat} {T : TypeId} {v v2 : Value} {xs2 : List Value} (h : At1 T W g v) (h2 : W.ownsRow B2 e2 m2 v2 n2 xs2) (hg : W.grownBy W' v2.ownBlock) (hne : T ≠ e2) : At1 T W' g v := by
  unfold At1 at h ⊢
  rw [hg.block g (lt_of_block h) (row_neL h2 h hne)]
  exact h
theorem sh_readsI {w : World} {g : Nat} {a : Option Addr} {c : Nat} {zs : List Int} (h : w.ownsRow g 3 1 (.slice a zs.length c) zs.length (zs.map (Value.int .i64))) : Reads .i64 w a zs := by
  obtain ⟨a', c', e, _, _, _, hr⟩ := own_reads h
  cases e
  exact hr
theorem row_kb {W W' : World} {B e m n g : Nat} {T : TypeId} {v u : Value} {xs : List Value} (h : W.ownsRow B e m v n xs) (hk : KB W.heap.size g W W') (hg : At1 T W g u) (hT : T ≠ e) : W'.ownsRow B e m v n xs :=
  row_keepT h (fun k cs hc => by
    rw [hk k (lt_of_block hc) (fun e' => by subst e'; unfold At1 at hg; rw [hg] at hc; simp only [Option.some.injEq, Obj.cells.injEq] at hc; exact hT hc.2.1)]
    exact hc)
theorem row_but {W W' : World} {B B2 e e2 m m2 n n2 : Nat} {v v2 : Value} {xs xs2 : List Value} (h : W.ownsRow B e m v n xs) (h2 : W.ownsRow B2 e2 m2 v2 n2 xs2) (hk : ∀ k, k < W.heap.size → v2.ownBlock ≠ some k → W'.heap[k]? = W.heap[k]?) (hne : e ≠ e2) : W'.ownsRow B e m v n xs :=
  row_keepT h (fun k cs hc => by rw [hk k (lt_of_block hc) (fun e' => row_neL h2 hc hne e'.symm)]; exact hc)
theorem row_form {W : World} {B e m n : Nat} {v : Value} {xs : List Value} (h : W.ownsRow B e m v n xs) : ∃ a c, v = .slice a n c := by
  rcases h.2 with ⟨rfl, h0⟩ | ⟨g, cap, cur, rfl, _⟩
  · exact ⟨none, 0, by rw [h0]⟩
  · exact ⟨_, _, rfl⟩
theorem info_intS : (Try.prog.info? 3).map (fun i => (i.zero, i.size, i.bytes)) = some (some (.int .i64 0), 1, 8) := by kernel_rfl
namespace shareFair
end shareFair
end Go.Proofs.Ytaiekbhpgbmalaa
