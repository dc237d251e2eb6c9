/- RtpApart: the walk. -/
import Derived.Test.YtilobmebfeenfaaRtpS
import Derived.Test.YtilobmebfeenfaaRtpS2
import Derived.Test.YtilobmebfeenfaaRtpM
import Derived.Test.YtilobmebfeenfaaRtpControlsW
import Derived.Test.YtilobmebfeenfaaPkF
import Derived.RegionTactic
import Derived.BigRegion
namespace Go.Proofs.Ytilobmebfeenfaa.rtpApart
open Go.RowKit
set_option linter.unusedVariables false
/-- What Pack answers. -/
def packS (p : PK) : ByteArray := if mayOk p then ofL (packL p) else { data := #[] }
theorem pack_any (p : PK) (a : Option Addr) (c : Nat) (w : World) (hs : p.ext.size ≤ 9223372036854775807) (hl : p.others.length ≤ 9223372036854775807) (hd : p.data.size ≤ 1099511000000) (hk : p.ok) (hr : Reads .u32 w a p.others) :
    Calls Try.prog 12 #[.agg (p.cells a c)] w fun e w' => e = .returned (.string (packS p)) ∧ Below w.heap.size w w' := by
  by_cases hp : mayOk p
  · rw [packS, if_pos hp]; exact packGood_any p a c w hd hk hr hp
  · rw [packS, if_neg hp]; exact packBad_any p a c w hs hl hp
theorem packS_bad {p : PK} (h : ¬ mayOk p) : packS p = { data := #[] } := by rw [packS, if_neg h]
theorem packS_good {p : PK} (h : mayOk p) : (packS p).size ≠ 0 := by
  rw [packS, if_pos h, ofL_size]
  unfold packL hdrL
  simp only [List.length_append, be_len]
  omega
theorem apart {p q : PK} (hp : mayOk p) (hq : mayOk q) (kp : p.ok) (kq : q.ok) : packS p = packS q ↔ p = q := by
  constructor
  · intro h
    rw [packS, packS, if_pos hp, if_pos hq] at h
    have h1 := parse_pack p hp kp
    have h2 := parse_pack q hq kq
    rw [h, h2] at h1
    exact (Sum.inr.inj h1).symm
  · intro h; rw [h]
theorem cutP_ok {p : PK} (h : p.ok) : (cutP p).ok := by
  obtain ⟨h1, h2, h3, h4⟩ := h
  exact ⟨h1, h2, h3, fun x hx => h4 x (List.mem_of_mem_take hx)⟩
theorem cutP_small (p : PK) : (cutP p).others.length ≤ 17 ∧ (cutP p).ext.size ≤ 60 ∧ (cutP p).data.size ≤ 60 := ⟨by simp only [cutP, List.length_take]; omega, (cut_size p.ext 60).1, (cut_size p.data 60).1⟩
theorem pk_at (W : World) (n : Nat) (c0 c1 c2 c3 c4 c5 c6 c7 c8 c9 c10 : Value) (hn : n = W.heap.size) : PkIn (W.alloc (.cells #[c0, c1, c2, c3, c4, c5, c6, c7, c8, c9, c10] 30)) n c0 c1 c2 c3 c4 c5 c6 c7 c8 c9 c10 := by subst hn; exact heap_alloc_new W _
theorem pk_store {W : World} {g : Nat} {c0 c1 c2 c3 c4 c5 c6 c7 c8 c9 c10 : Value} (d0 d1 d2 d3 d4 d5 d6 d7 d8 d9 d10 : Value) (h : PkIn W g c0 c1 c2 c3 c4 c5 c6 c7 c8 c9 c10) :
    PkIn (((((((((((W.setCell ⟨g, 0, none⟩ d0).setCell ⟨g, 1, none⟩ d1).setCell ⟨g, 2, none⟩ d2).setCell ⟨g, 3, none⟩ d3).setCell ⟨g, 4, none⟩ d4).setCell ⟨g, 5, none⟩ d5).setCell ⟨g, 6, none⟩ d6).setCell ⟨g, 7, none⟩ d7).setCell ⟨g, 8, none⟩ d8).setCell ⟨g, 9, none⟩ d9).setCell ⟨g, 10, none⟩ d10) g d0 d1 d2 d3 d4 d5 d6 d7 d8 d9 d10 := by
  have h0 : PkIn (W.setCell ⟨g, 0, none⟩ d0) g d0 c1 c2 c3 c4 c5 c6 c7 c8 c9 c10 := block_setCell h
  have h1 : PkIn ((W.setCell ⟨g, 0, none⟩ d0).setCell ⟨g, 1, none⟩ d1) g d0 d1 c2 c3 c4 c5 c6 c7 c8 c9 c10 := block_setCell h0
  have h2 : PkIn (((W.setCell ⟨g, 0, none⟩ d0).setCell ⟨g, 1, none⟩ d1).setCell ⟨g, 2, none⟩ d2) g d0 d1 d2 c3 c4 c5 c6 c7 c8 c9 c10 := block_setCell h1
  have h3 : PkIn ((((W.setCell ⟨g, 0, none⟩ d0).setCell ⟨g, 1, none⟩ d1).setCell ⟨g, 2, none⟩ d2).setCell ⟨g, 3, none⟩ d3) g d0 d1 d2 d3 c4 c5 c6 c7 c8 c9 c10 := block_setCell h2
  have h4 : PkIn (((((W.setCell ⟨g, 0, none⟩ d0).setCell ⟨g, 1, none⟩ d1).setCell ⟨g, 2, none⟩ d2).setCell ⟨g, 3, none⟩ d3).setCell ⟨g, 4, none⟩ d4) g d0 d1 d2 d3 d4 c5 c6 c7 c8 c9 c10 := block_setCell h3
  have h5 : PkIn ((((((W.setCell ⟨g, 0, none⟩ d0).setCell ⟨g, 1, none⟩ d1).setCell ⟨g, 2, none⟩ d2).setCell ⟨g, 3, none⟩ d3).setCell ⟨g, 4, none⟩ d4).setCell ⟨g, 5, none⟩ d5) g d0 d1 d2 d3 d4 d5 c6 c7 c8 c9 c10 := block_setCell h4
  have h6 : PkIn (((((((W.setCell ⟨g, 0, none⟩ d0).setCell ⟨g, 1, none⟩ d1).setCell ⟨g, 2, none⟩ d2).setCell ⟨g, 3, none⟩ d3).setCell ⟨g, 4, none⟩ d4).setCell ⟨g, 5, none⟩ d5).setCell ⟨g, 6, none⟩ d6) g d0 d1 d2 d3 d4 d5 d6 c7 c8 c9 c10 := block_setCell h5
  have h7 : PkIn ((((((((W.setCell ⟨g, 0, none⟩ d0).setCell ⟨g, 1, none⟩ d1).setCell ⟨g, 2, none⟩ d2).setCell ⟨g, 3, none⟩ d3).setCell ⟨g, 4, none⟩ d4).setCell ⟨g, 5, none⟩ d5).setCell ⟨g, 6, none⟩ d6).setCell ⟨g, 7, none⟩ d7) g d0 d1 d2 d3 d4 d5 d6 d7 c8 c9 c10 := block_setCell h6
  have h8 : PkIn (((((((((W.setCell ⟨g, 0, none⟩ d0).setCell ⟨g, 1, none⟩ d1).setCell ⟨g, 2, none⟩ d2).setCell ⟨g, 3, none⟩ d3).setCell ⟨g, 4, none⟩ d4).setCell ⟨g, 5, none⟩ d5).setCell ⟨g, 6, none⟩ d6).setCell ⟨g, 7, none⟩ d7).setCell ⟨g, 8, none⟩ d8) g d0 d1 d2 d3 d4 d5 d6 d7 d8 c9 c10 := block_setCell h7
  have h9 : PkIn ((((((((((W.setCell ⟨g, 0, none⟩ d0).setCell ⟨g, 1, none⟩ d1).setCell ⟨g, 2, none⟩ d2).setCell ⟨g, 3, none⟩ d3).setCell ⟨g, 4, none⟩ d4).setCell ⟨g, 5, none⟩ d5).setCell ⟨g, 6, none⟩ d6).setCell ⟨g, 7, none⟩ d7).setCell ⟨g, 8, none⟩ d8).setCell ⟨g, 9, none⟩ d9) g d0 d1 d2 d3 d4 d5 d6 d7 d8 d9 c10 := block_setCell h8
  have h10 : PkIn (((((((((((W.setCell ⟨g, 0, none⟩ d0).setCell ⟨g, 1, none⟩ d1).setCell ⟨g, 2, none⟩ d2).setCell ⟨g, 3, none⟩ d3).setCell ⟨g, 4, none⟩ d4).setCell ⟨g, 5, none⟩ d5).setCell ⟨g, 6, none⟩ d6).setCell ⟨g, 7, none⟩ d7).setCell ⟨g, 8, none⟩ d8).setCell ⟨g, 9, none⟩ d9).setCell ⟨g, 10, none⟩ d10) g d0 d1 d2 d3 d4 d5 d6 d7 d8 d9 d10 := block_setCell h9
  exact h10
theorem pk_store_only (W : World) (g : Nat) (d0 d1 d2 d3 d4 d5 d6 d7 d8 d9 d10 : Value) :
    Only g W (((((((((((W.setCell ⟨g, 0, none⟩ d0).setCell ⟨g, 1, none⟩ d1).setCell ⟨g, 2, none⟩ d2).setCell ⟨g, 3, none⟩ d3).setCell ⟨g, 4, none⟩ d4).setCell ⟨g, 5, none⟩ d5).setCell ⟨g, 6, none⟩ d6).setCell ⟨g, 7, none⟩ d7).setCell ⟨g, 8, none⟩ d8).setCell ⟨g, 9, none⟩ d9).setCell ⟨g, 10, none⟩ d10) :=
  (((((((((((Only.refl _ _).setCell 0 _).setCell 1 _).setCell 2 _).setCell 3 _).setCell 4 _).setCell 5 _).setCell 6 _).setCell 7 _).setCell 8 _).setCell 9 _).setCell 10 _
theorem below_store {w W : World} {n g : Nat} (h : Below n w W) (hg : n ≤ g) (d0 d1 d2 d3 d4 d5 d6 d7 d8 d9 d10 : Value) : Below n w (((((((((((W.setCell ⟨g, 0, none⟩ (d0)).setCell ⟨g, 1, none⟩ (d1)).setCell ⟨g, 2, none⟩ (d2)).setCell ⟨g, 3, none⟩ (d3)).setCell ⟨g, 4, none⟩ (d4)).setCell ⟨g, 5, none⟩ (d5)).setCell ⟨g, 6, none⟩ (d6)).setCell ⟨g, 7, none⟩ (d7)).setCell ⟨g, 8, none⟩ (d8)).setCell ⟨g, 9, none⟩ (d9)).setCell ⟨g, 10, none⟩ (d10)) :=
  (((((((((((h.setCell (p := ⟨g, 0, none⟩) hg _).setCell (p := ⟨g, 1, none⟩) hg _).setCell (p := ⟨g, 2, none⟩) hg _).setCell (p := ⟨g, 3, none⟩) hg _).setCell (p := ⟨g, 4, none⟩) hg _).setCell (p := ⟨g, 5, none⟩) hg _).setCell (p := ⟨g, 6, none⟩) hg _).setCell (p := ⟨g, 7, none⟩) hg _).setCell (p := ⟨g, 8, none⟩) hg _).setCell (p := ⟨g, 9, none⟩) hg _).setCell (p := ⟨g, 10, none⟩) hg _)
theorem str_eq {s t : ByteArray} {b : Bool} (h : s = t ↔ b = true) : (s.toList == t.toList) = b := by
  rw [Bool.eq_iff_iff, beq_iff_eq, ByteArray.toList_eq, ByteArray.toList_eq, ← h]
  constructor
  · intro e
    obtain ⟨⟨l⟩⟩ := s
    obtain ⟨⟨m⟩⟩ := t
    simp at e
    rw [e]
  · rintro rfl; rfl
end Go.Proofs.Ytilobmebfeenfaa.rtpApart
