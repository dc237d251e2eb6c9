/- XOrdM: an operation whose guard says no is taken first, too. -/
import Derived.Test.YtkefpedijjbmfaaOrdM
namespace Go.Proofs.Ytkefpedijjbmfaa
open Go
set_option linter.unusedVariables false
theorem ordM_skip {P : Program} {Q : Exit → Act → World → Prop} {md : Region.Mode} {S : World → Prop} {L : Nat → Bool} {l : List Oper} (i : Nat) {oi : Oper} {fuel : Nat} {listed : Array Bool} {a : Act} {w : World} (hi : l[i]? = some oi)
    (hs : Region.noSelect l.toArray = true) (hf : Region.free md l.toArray listed i = true) (hr : (Region.ready md l.toArray listed).contains i = true) (hw : allWait md l L i = true)
    (hQ : ∀ c a w, Q (.panic c) (a.put oi.dst undef) w → Q (.panic c) a w) (hg : Region.wanted oi (yielded l.toArray a.tmps) = false) (hS : S w)
    (h : wpAnyM P md l.toArray Q S L fuel (listed.setIfInBounds i true) (a.put oi.dst undef) w) : wpAnyM P md l.toArray Q S L (fuel + 1) listed a w :=
  wpAnyM_first (by simpa using hi) (Region.noSelect_spec hs) hQ (allWait_spec hw) fuel listed a w (Region.free_spec (by simpa using hi) hf) (by simpa using hr) (.inr ⟨hg, rfl⟩) hS h
end Go.Proofs.Ytkefpedijjbmfaa
