/- A sealed packet is the packet whose first four bytes of data are the seal: plain facts. -/
import Derived.Test.YtiffocdohknopaaApartW
import Derived.Test.YtiffocdohknopaaCrcTR
import Derived.Test.YtiffocdohknopaaCrcS
namespace Go.Proofs.Ytiffocdohknopaa
open Go.RowKit rtpApart
set_option linter.unusedVariables false
theorem packL_nopad (p : PK) (h : p.pad = 0) : packL p = hdrL p false ++ by_ p.data := by
  unfold packL
  rw [h]
  simp
theorem hdrL_data (p : PK) (b : Bool) (d : ByteArray) : hdrL { p with data := d } b = hdrL p b := rfl
theorem mayOk_data (p : PK) (d : ByteArray) : mayOk { p with data := d } ↔ mayOk p := Iff.rfl
theorem four_len (x : BitVec 32) : (Crc.four x).length = 4 := rfl
/-- Sealed over its first four bytes of data, a packet is another packet. -/
theorem wire_seal (p : PK) (hm : mayOk p) (hk : p.ok) (h0 : p.pad = 0) (d : ByteArray) (hd : p.data = { data := #[0, 0, 0, 0] } ++ d) :
    ∃ d2 : ByteArray, d2.size = 4 + d.size ∧ d2.extract 4 d2.size = d ∧ ofL (sealL (packL p) (hdrL p false).length) = ofL (packL { p with data := d2 }) ∧ parseR (ofL (packL { p with data := d2 })) = .inr { p with data := d2 } := by
  have hb : by_ p.data = [0, 0, 0, 0] ++ by_ d := by rw [hd, by_append]; rfl
  have hp : packL p = hdrL p false ++ ([0, 0, 0, 0] ++ by_ d) := by rw [packL_nopad p h0, hb]
  generalize hx : Crc.four (Crc.halfs (8 * ((packL p).drop ((hdrL p false).length + 4)).length) (sealX (packL p) (hdrL p false).length)) = f
  have hf : f.length = 4 := by rw [← hx]; rfl
  refine ⟨ofL (f ++ by_ d), ?_, ?_, ?_, ?_⟩
  · rw [ofL_size, List.length_append, hf, by_len]
  · apply by_inj
    rw [by_extract _ _ _ (Nat.le_refl _), ofL_size, by_ofL, List.take_length, ← hf, List.drop_left]
  · have e : packL { p with data := ofL (f ++ by_ d) } = hdrL p false ++ (f ++ by_ d) := by
      rw [packL_nopad _ (show ({ p with data := ofL (f ++ by_ d) } : PK).pad = 0 from h0), hdrL_data]
      show _ ++ by_ (ofL (f ++ by_ d)) = _
      rw [by_ofL]
    rw [e]
    unfold sealL
    rw [hx, hp]
    congr 1
    rw [List.take_left, List.append_assoc]
    congr 2
    rw [← List.append_assoc, List.drop_append_of_le_length (by simp)]
    simp
  · exact parse_pack _ ((mayOk_data p _).2 hm) hk
/-- A turned text is right just if it is as it was. -/
theorem wire_turn (t : ByteArray) (at_ : Int) (m : Nat) (h0 : remOf (by_ t) = 0#32) : (((remOf (by_ (ofL (turnL (by_ t) at_ m)))).toNat : Int) == 0) = decide (ofL (turnL (by_ t) at_ m) = t) := by
  rw [by_ofL]
  by_cases e : turnL (by_ t) at_ m = by_ t
  · rw [e, h0, ofL_by]
    simp
  · have h1 := turn_right (by_ t) at_ m h0
    obtain ⟨_, _, h3⟩ := span_turn (by_ t) at_ m
    have hne : by_ t ≠ turnL (by_ t) at_ m := fun h => e h.symm
    have hpos := h3.2 hne
    have hz : (span (dif (by_ t) (turnL (by_ t) at_ m)) (8 * (by_ t).length) == 0) = false := by rw [beq_eq_false_iff_ne]; omega
    rw [h1, hz]
    symm
    rw [decide_eq_false_iff_not]
    intro h
    exact e (by have h4 := congrArg by_ h; rwa [by_ofL] at h4)
end Go.Proofs.Ytiffocdohknopaa
