/- rtp: reading a header. -/
import Derived.Test.YtagimjaojpdfiaaRtpW
import Derived.Test.YtagimjaojpdfiaaByM
import Derived.RegionTactic
import Derived.BigRegion
namespace Go.Proofs.Ytagimjaojpdfiaa
open Go.RowKit
set_option linter.unusedVariables false
theorem row_ne {w : World} {B : Nat} {e : TypeId} {v : Value} {n : Nat} {xs : List Value} (h : w.ownsRow B e 1 v n xs) {k : Nat} {o : Obj} (hk : w.heap[k]? = some o) (hn : ∀ cur p, o ≠ .cells cur e p) : some k ≠ v.ownBlock := by
  intro he
  rcases h.2 with ⟨rfl, _⟩ | ⟨g, cap, cur, rfl, _, hg, _⟩
  · cases he
  · simp only [Value.ownBlock, Option.some.injEq] at he
    subst he
    rw [hg] at hk
    exact hn _ _ (Option.some.inj hk).symm
theorem own_only {w w' : World} {B b : Nat} {e : TypeId} {v : Value} {n : Nat} {xs : List Value} {o : Obj} (h : w.ownsRow B e 1 v n xs) (hk : w.heap[b]? = some o) (hn : ∀ cur p, o ≠ .cells cur e p) (ho : Only b w w') : w'.ownsRow B e 1 v n xs := by
  refine h.kept (row := some b) ⟨ho.os, ho.tape, ho.output, by rw [ho.size]; exact Nat.le_refl _, fun k _ hkb => ho.block k (fun e => hkb (by rw [e]))⟩ (.inr (fun e => row_ne h hk hn e.symm))
theorem in_ne (s : ByteArray) (er : Int) (q : Nat × Nat) : ∀ cur p, Obj.cells #[.string s, .int .i64 er] 199 q ≠ .cells cur 22 p := by intro cur p e; cases e
section
variable {W w' : World} {g b : Nat} {c0 c1 c2 c3 c4 c5 c6 c7 c8 c9 c10 : Value}
end
theorem inAt_set {w : World} {b b' i : Nat} {s : ByteArray} {er : Int} {u : Value} (h : InAt w b s er) (hne : b' ≠ b) : InAt (w.setCell ⟨b', i, none⟩ u) b s er := by
  unfold InAt; rw [Below.heap_setCell _ _ _ _ (fun e => hne e.symm)]; exact h
def rds (st : ByteArray × Int) : Nat → ByteArray × Int
  | 0 => st
  | k + 1 => rd (rds st k) 4
def osF (st : ByteArray × Int) (k : Nat) : List Int := (List.range k).map fun i => (getN (by_ (rawT (rds st i).1 4)) : Int)
theorem osF_succ (st : ByteArray × Int) (k : Nat) : osF st (k + 1) = osF st k ++ [(getN (by_ (rawT (rds st k).1 4)) : Int)] := by simp [osF, List.range_succ]
theorem osF_len (st : ByteArray × Int) (k : Nat) : (osF st k).length = k := by simp [osF]
theorem rds_le (st : ByteArray × Int) : ∀ k, (rds st k).1.size ≤ st.1.size
  | 0 => Nat.le_refl _
  | k + 1 => Nat.le_trans (rawS_le _ _ _) (rds_le st k)
theorem info32 : (Try.prog.info? 22).map (fun i => (i.zero, i.size, i.bytes)) = some (some (.int .u32 0), 1, 4) := by kernel_rfl
theorem i64_and128 (n : Nat) (h : n ≤ 255) : bits .and .i64 (n : Int) 128 = ((n / 128 * 128 : Nat) : Int) := by
  have key : ∀ m : Fin 256, bits .and .i64 ((m.val : Nat) : Int) 128 = ((m.val / 128 * 128 : Nat) : Int) := by decide +kernel
  exact key ⟨n, by omega⟩
theorem i64_and127 (n : Nat) (h : n ≤ 255) : bits .and .i64 (n : Int) 127 = ((n % 128 : Nat) : Int) := by
  have h2 := i64_mask (n : Int) 7 (by decide)
  simp only [show (2 ^ 7 - 1 : Nat) = 127 from rfl, show (2 ^ 7 : Nat) = 128 from rfl] at h2
  have h3 : bits .and .i64 (n : Int) 127 = (n : Int) % 128 := h2
  rw [h3]; omega
theorem i64_and15 (n : Nat) (h : n ≤ 255) : bits .and .i64 (n : Int) 15 = ((n % 16 : Nat) : Int) := by
  have h2 := i64_mask (n : Int) 4 (by decide)
  have h3 : bits .and .i64 (n : Int) 15 = (n : Int) % 16 := h2
  rw [h3]; omega
theorem i64_and16 (n : Nat) (h : n ≤ 255) : bits .and .i64 (n : Int) 16 = ((n / 16 % 2 * 16 : Nat) : Int) := by
  have key : ∀ m : Fin 256, bits .and .i64 ((m.val : Nat) : Int) 16 = ((m.val / 16 % 2 * 16 : Nat) : Int) := by decide +kernel
  exact key ⟨n, by omega⟩
theorem i64_and32 (n : Nat) (h : n ≤ 255) : bits .and .i64 (n : Int) 32 = ((n / 32 % 2 * 32 : Nat) : Int) := by
  have key : ∀ m : Fin 256, bits .and .i64 ((m.val : Nat) : Int) 32 = ((m.val / 32 % 2 * 32 : Nat) : Int) := by decide +kernel
  exact key ⟨n, by omega⟩
theorem i64_not63 (n : Nat) (h : n ≤ 255) : bits .andNot .i64 (n : Int) 63 = ((n / 64 * 64 : Nat) : Int) := by
  have key : ∀ m : Fin 256, bits .andNot .i64 ((m.val : Nat) : Int) 63 = ((m.val / 64 * 64 : Nat) : Int) := by decide +kernel
  exact key ⟨n, by omega⟩
end Go.Proofs.Ytagimjaojpdfiaa
