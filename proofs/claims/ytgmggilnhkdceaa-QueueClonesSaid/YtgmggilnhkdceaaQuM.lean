/- queue: the acts in memory; one act, of both sides, in the middle of a law. -/
import Derived.Test.YtgmggilnhkdceaaQuL
import Derived.Test.YtgmggilnhkdceaaRecs
namespace Go.Proofs.Ytgmggilnhkdceaa
open Go.RowKit
set_option linter.unusedVariables false
set_option linter.unusedSimpArgs false
def isTxts (w : World) (v : Value) : Prop := ∃ a n c zs, v = .slice a n c ∧ IsTexts w a n c zs
def quActP (w : World) : List (Value → Prop) := [isNum .i64, isNum .i64, isTxts w]
theorem quAct_at {w wr : World} {a : Option Addr} {n k : Nat} (h : Recs (quActP w) w a n) (hb : Below w.heap.size w wr) (hk : k < n) :
    ∃ b off, a = some ⟨b, off, none⟩ ∧ b < w.heap.size ∧ ∃ (kd z : Int) (es : List ByteArray) (aL : Option Addr) (cL : Nat), wr.cell? ⟨b, off + k * 3, none⟩ = some (.int .i64 kd) ∧ wr.cell? ⟨b, off + k * 3 + 1, none⟩ = some (.int .i64 z) ∧ wr.cell? ⟨b, off + k * 3 + 2, none⟩ = some (.slice aL es.length cL) ∧ ReadsT wr aL es ∧ es.length ≤ 9223372036854775807 ∧ ∀ s ∈ es, s.size ≤ 9223372036854775807 := by
  rcases h with h | ⟨b, off, rfl, hlt, hc⟩
  · omega
  · obtain ⟨v0, h0, kd, rfl, _⟩ := hc k hk 0 _ rfl
    obtain ⟨v1, h1, z, rfl, _⟩ := hc k hk 1 _ rfl
    obtain ⟨v2, h2, aL, nL, cL, zs, rfl, hT⟩ := hc k hk 2 _ rfl
    obtain ⟨es, rfl, l1, l2, hr, hz⟩ := hT.reads
    refine ⟨b, off, rfl, hlt, kd, z, es, aL, cL, ?_, ?_, ?_, hr.later hb, by omega, fun s hs => by have := hz s hs; unfold maxLen at this; omega⟩
    · rw [hb.cell (p := ⟨b, off + k * 3, none⟩) hlt]; exact h0
    · rw [hb.cell (p := ⟨b, off + k * 3 + 1, none⟩) hlt]; exact h1
    · rw [hb.cell (p := ⟨b, off + k * 3 + 2, none⟩) hlt]; exact h2
end Go.Proofs.Ytgmggilnhkdceaa
