/- The statements' Cut of a packet. -/
import Derived.Test.YtilobmebfeenfaaRtpT
import Derived.Test.YtilobmebfeenfaaCut
import Derived.Deep.DeepCutAuto
import Derived.Deep.RegionWith
import Derived.Laws.AppendOwnNone
namespace Go.Proofs.Ytilobmebfeenfaa
open Go.RowKit
set_option linter.unusedVariables false
theorem own_made (W : World) (B n : Nat) (hB : B ≤ W.heap.size) (hn : n = W.heap.size) : (W.alloc (.cells #[] 25)).ownsRow B 25 1 (.slice (some ⟨n, 0, none⟩) 0 0) 0 [] := by
  subst hn; exact World.ownsRow_made _ _ _ hB (by decide) rfl
theorem append_none_stop {P : Program} {w : World} {ops : Array Oper} {rest : List Oper} {o : Oper} {a : Act} {Q : Exit → Act → World → Prop} (hgd : o.guard = none) (s x : Operand) (t : TypeId)
    (ho : o.op = .call { callee := .builtin .append, args := #[s, x], argTypes := #[t, t] }) (base : Nat) (e : TypeId) (i : TypeInfo) (size : Nat) (ht : P.underlying t = some (.slice e)) (hi : P.info? e = some i)
    (ad : Option Addr) (xs : List Value) (hs : a.eval s = .slice ad 0 0) (hown : w.ownsRow base e size (.slice ad 0 0) 0 xs) (hx : a.eval x = .slice none 0 0)
    (h : ∀ W ad', Hid (W = w ∧ ad' = ad) → wpList P ops Q rest (a.put o.dst (.slice ad' 0 0)) W) : wpList P ops Q (o :: rest) a w :=
  wpList_append_own_none hgd s x t ho base e i size ht hi _ 0 xs hs hown hx (h w ad (Lib.hid ⟨rfl, rfl⟩))
/-- A packet with short parts. -/
def cutP (p : PK) : PK := { p with others := p.others.take 17, ext := cutB p.ext 60, data := cutB p.data 60 }
/-- What Cut answers. -/
def CutR (p : PK) (w : World) (e : Ending) (w' : World) : Prop := Below w.heap.size w w' ∧ ∃ a' c', e = .returned (.agg ((cutP p).cells a' c')) ∧ w'.ownsRow w.heap.size 25 1 (.slice a' (cutP p).others.length c') (cutP p).others.length ((cutP p).others.map (Value.int .u32))
end Go.Proofs.Ytilobmebfeenfaa
