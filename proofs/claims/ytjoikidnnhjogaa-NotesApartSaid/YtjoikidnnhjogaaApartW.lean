/- RtpApart: the walk. -/
import Derived.Test.YtjoikidnnhjogaaRtpS
import Derived.Test.YtjoikidnnhjogaaRtpS2
import Derived.Test.YtjoikidnnhjogaaRtpM
import Derived.Test.YtjoikidnnhjogaaRtpControlsW
import Derived.Test.YtjoikidnnhjogaaPkF
import Derived.RegionTactic
import Derived.BigRegion
namespace Go.Proofs.Ytjoikidnnhjogaa.rtpApart
open Go.RowKit
set_option linter.unusedVariables false
/-- What Pack answers. -/
def packS (p : PK) : ByteArray := if mayOk p then ofL (packL p) else { data := #[] }
theorem packS_bad {p : PK} (h : ¬ mayOk p) : packS p = { data := #[] } := by rw [packS, if_neg h]
theorem packS_good {p : PK} (h : mayOk p) : (packS p).size ≠ 0 := by
  rw [packS, if_pos h, ofL_size]
  unfold packL hdrL
  simp only [List.length_append, be_len]
  omega
theorem apart {p q : PK} (hp : mayOk p) (hq : mayOk q) (kp : p.ok) (kq : q.ok) : packS p = packS q ↔ p = q := by
  constructor
  · intro h
    rw [packS, packS, if_pos hp, if_pos hq] at h
    have h1 := parse_pack p hp kp
    have h2 := parse_pack q hq kq
    rw [h, h2] at h1
    exact (Sum.inr.inj h1).symm
  · intro h; rw [h]
theorem cutP_ok {p : PK} (h : p.ok) : (cutP p).ok := by
  obtain ⟨h1, h2, h3, h4⟩ := h
  exact ⟨h1, h2, h3, fun x hx => h4 x (List.mem_of_mem_take hx)⟩
theorem cutP_small (p : PK) : (cutP p).others.length ≤ 17 ∧ (cutP p).ext.size ≤ 60 ∧ (cutP p).data.size ≤ 60 := ⟨by simp only [cutP, List.length_take]; omega, (cut_size p.ext 60).1, (cut_size p.data 60).1⟩
theorem pk_store_only (W : World) (g : Nat) (d0 d1 d2 d3 d4 d5 d6 d7 d8 d9 d10 : Value) :
    Only g W (((((((((((W.setCell ⟨g, 0, none⟩ d0).setCell ⟨g, 1, none⟩ d1).setCell ⟨g, 2, none⟩ d2).setCell ⟨g, 3, none⟩ d3).setCell ⟨g, 4, none⟩ d4).setCell ⟨g, 5, none⟩ d5).setCell ⟨g, 6, none⟩ d6).setCell ⟨g, 7, none⟩ d7).setCell ⟨g, 8, none⟩ d8).setCell ⟨g, 9, none⟩ d9).setCell ⟨g, 10, none⟩ d10) :=
  (((((((((((Only.refl _ _).setCell 0 _).setCell 1 _).setCell 2 _).setCell 3 _).setCell 4 _).setCell 5 _).setCell 6 _).setCell 7 _).setCell 8 _).setCell 9 _).setCell 10 _
theorem below_store {w W : World} {n g : Nat} (h : Below n w W) (hg : n ≤ g) (d0 d1 d2 d3 d4 d5 d6 d7 d8 d9 d10 : Value) : Below n w (((((((((((W.setCell ⟨g, 0, none⟩ (d0)).setCell ⟨g, 1, none⟩ (d1)).setCell ⟨g, 2, none⟩ (d2)).setCell ⟨g, 3, none⟩ (d3)).setCell ⟨g, 4, none⟩ (d4)).setCell ⟨g, 5, none⟩ (d5)).setCell ⟨g, 6, none⟩ (d6)).setCell ⟨g, 7, none⟩ (d7)).setCell ⟨g, 8, none⟩ (d8)).setCell ⟨g, 9, none⟩ (d9)).setCell ⟨g, 10, none⟩ (d10)) :=
  (((((((((((h.setCell (p := ⟨g, 0, none⟩) hg _).setCell (p := ⟨g, 1, none⟩) hg _).setCell (p := ⟨g, 2, none⟩) hg _).setCell (p := ⟨g, 3, none⟩) hg _).setCell (p := ⟨g, 4, none⟩) hg _).setCell (p := ⟨g, 5, none⟩) hg _).setCell (p := ⟨g, 6, none⟩) hg _).setCell (p := ⟨g, 7, none⟩) hg _).setCell (p := ⟨g, 8, none⟩) hg _).setCell (p := ⟨g, 9, none⟩) hg _).setCell (p := ⟨g, 10, none⟩) hg _)
theorem str_eq {s t : ByteArray} {b : Bool} (h : s = t ↔ b = true) : (s.toList == t.toList) = b := by
  rw [Bool.eq_iff_iff, beq_iff_eq, ByteArray.toList_eq, ByteArray.toList_eq, ← h]
  constructor
  · intro e
    obtain ⟨⟨l⟩⟩ := s
    obtain ⟨⟨m⟩⟩ := t
    simp at e
    rw [e]
  · rintro rfl; rfl
end Go.Proofs.Ytjoikidnnhjogaa.rtpApart

