/- Notes: plain facts on what an application says. -/
import Derived.Test.YtjoikidnnhjogaaAtN
namespace Go.Proofs.Ytjoikidnnhjogaa
open Go.RowKit
set_option linter.unusedVariables false
instance pc_dec (a b : PC) : Decidable (a = b) := decidable_of_iff (a.count = b.count ∧ a.kind = b.kind ∧ a.body = b.body) (by
  obtain ⟨x, y, z⟩ := a
  obtain ⟨x2, y2, z2⟩ := b
  simp)
structure AP where
  sub : Int
  src : Int
  name : ByteArray
  data : ByteArray
def zeroAP : AP := ⟨0, 0, { data := #[] }, { data := #[] }⟩
def AP.cells (a : AP) : Array Value := #[.int .i64 a.sub, .int .u32 a.src, .string a.name, .string a.data]
def apMay (a : AP) : Prop := 0 ≤ a.sub ∧ a.sub ≤ 31 ∧ a.name.size = 4 ∧ a.data.size % 4 = 0 ∧ a.data.size ≤ 1024
instance apMay_dec (a : AP) : Decidable (apMay a) := by unfold apMay; infer_instance
def apL (a : AP) : List UInt8 := be a.src 4 ++ by_ a.name ++ by_ a.data
def apP (a : AP) : PC := if apMay a then ⟨a.sub, 204, ofL (apL a)⟩ else zeroPC
/-- What the program reads of a piece. -/
def apRd (p : PC) : AP := ⟨p.count, (getN (by_ (rawT p.body 4)) : Nat), rawT (rd (p.body, 0) 4).1 4, rawT (rd (rd (p.body, 0) 4) 4).1 ((rd (rd (p.body, 0) 4) 4).1.size : Nat)⟩
def toAE (p : PC) : Int := if p.kind ≠ 204 then 5 else if apP (apRd p) = p then 0 else 1
def toA (p : PC) : AP := if toAE p = 0 then apRd p else zeroAP
theorem apL_size (a : AP) (h : apMay a) : (apL a).length = 8 + a.data.size := by
  unfold apL
  simp only [List.length_append, be_len, by_len]
  have := h.2.2.1
  omega
theorem ap_rd (a : AP) (h : apMay a) (h0 : 0 ≤ a.src) (h1 : a.src ≤ 4294967295) : apRd (apP a) = a := by
  have hn : (by_ a.name).length = 4 := by rw [by_len]; exact h.2.2.1
  have e : apP a = ⟨a.sub, 204, ofL (be a.src 4 ++ (by_ a.name ++ by_ a.data))⟩ := by
    unfold apP
    rw [if_pos h]
    unfold apL
    rw [List.append_assoc]
  rw [e]
  unfold apRd
  simp only
  obtain ⟨t1, s1, e1⟩ := raw_ahead (be a.src 4) (by_ a.name ++ by_ a.data) 0 4 (by rw [be_len]; rfl)
  have r1 : rd (ofL (be a.src 4 ++ (by_ a.name ++ by_ a.data)), 0) 4 = (ofL (by_ a.name ++ by_ a.data), 0) := by unfold rd; rw [s1, e1]
  obtain ⟨t2, s2, e2⟩ := raw_ahead (by_ a.name) (by_ a.data) 0 4 (by rw [hn]; rfl)
  have r2 : rd (ofL (by_ a.name ++ by_ a.data), 0) 4 = (ofL (by_ a.data), 0) := by unfold rd; rw [s2, e2]
  rw [r1, r2, t1, t2]
  simp only
  have t3 : rawT (ofL (by_ a.data)) (((ofL (by_ a.data)).size : Nat) : Int) = ofL (by_ a.data) := by
    have := (raw_ahead (by_ a.data) [] 0 ((ofL (by_ a.data)).size : Nat) (by rw [ofL_size])).1
    rw [List.append_nil] at this
    exact this
  rw [t3, ofL_by, ofL_by, by_ofL]
  have g := getN_be4 a.src
  obtain ⟨sub, src, name, data⟩ := a
  simp only at *
  rw [show ((getN (be src 4) : Nat) : Int) = src from by omega]
theorem ap_back (a : AP) (h : apMay a) (h0 : 0 ≤ a.src) (h1 : a.src ≤ 4294967295) : toAE (apP a) = 0 ∧ toA (apP a) = a := by
  have e := ap_rd a h h0 h1
  have hk : (apP a).kind = 204 := by unfold apP; rw [if_pos h]
  have hE : toAE (apP a) = 0 := by
    unfold toAE
    rw [if_neg (by rw [hk]; decide), e, if_pos rfl]
  exact ⟨hE, by unfold toA; rw [if_pos hE, e]⟩
theorem apP_small (a : AP) (h : a.data.size ≤ 2000) : (apP a).body.size ≤ 4000 ∧ (apP a = zeroPC ↔ ¬ apMay a) ∧ (apMay a → pcMay (apP a)) := by
  by_cases hm : apMay a
  · have hl := apL_size a hm
    have e : apP a = ⟨a.sub, 204, ofL (apL a)⟩ := by unfold apP; rw [if_pos hm]
    obtain ⟨m1, m2, m3, m4, m5⟩ := id hm
    refine ⟨?_, ?_, ?_⟩
    · rw [e]; simp only [ofL_size]; omega
    · rw [e]
      refine ⟨fun h => ?_, fun h => absurd hm h⟩
      have : (204 : Int) = 0 := congrArg PC.kind h
      cases this
    · intro _
      rw [e]
      unfold pcMay
      simp only [ofL_size]
      omega
  · have e : apP a = zeroPC := by unfold apP; rw [if_neg hm]
    refine ⟨?_, ?_, fun h => absurd h hm⟩
    · rw [e]; decide
    · rw [e]; exact ⟨fun _ => hm, fun _ => rfl⟩
end Go.Proofs.Ytjoikidnnhjogaa

