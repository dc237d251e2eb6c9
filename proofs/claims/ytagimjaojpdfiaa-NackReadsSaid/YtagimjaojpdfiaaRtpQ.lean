/- rtp: Parse. -/
import Derived.Test.YtagimjaojpdfiaaRtpH
import Derived.Test.YtagimjaojpdfiaaRtpU
import Derived.Deep.DeepCutAuto
namespace Go.Proofs.Ytagimjaojpdfiaa
open Go.RowKit
set_option linter.unusedVariables false
/-- A header, and what is left behind it. -/
def hdrR (s : ByteArray) (first : Nat) : PK × (ByteArray × Int) :=
  let a1 := rd (s, 0) 1
  let a2 := rd a1 2
  let a3 := rd a2 4
  let a4 := rd a3 4
  let a5 := rds a4 (first % 16)
  let a6 := rd a5 2
  let a7 := rd a6 2
  let m : Int := 4 * (getN (by_ (rawT a6.1 2)) : Int)
  let p : PK := ⟨decide (getN (by_ (rawT s 1)) / 128 = 1), ((getN (by_ (rawT s 1)) % 128 : Nat) : Int), (getN (by_ (rawT a1.1 2)) : Int), (getN (by_ (rawT a2.1 4)) : Int), (getN (by_ (rawT a3.1 4)) : Int), osF a4 (first % 16), decide (first / 16 % 2 = 1),
    if first / 16 % 2 = 1 then (getN (by_ (rawT a5.1 2)) : Int) else 0, if first / 16 % 2 = 1 then rawT a7.1 m else { data := #[] }, { data := #[] }, 0⟩
  (p, if first / 16 % 2 = 1 then rd a7 m else a5)
/-- What Parse finds: an error, or a packet. -/
def parseR (s : ByteArray) : Sum Int PK :=
  if s.size < 12 then .inl 2 else
  if getN (by_ (rawT s 1)) / 64 ≠ 2 then .inl 1 else
  if (hdrR (rd (s, 0) 1).1 (getN (by_ (rawT s 1)))).2.2 ≠ 0 then .inl (hdrR (rd (s, 0) 1).1 (getN (by_ (rawT s 1)))).2.2 else
  if getN (by_ (rawT s 1)) / 32 % 2 = 1 then
    if (hdrR (rd (s, 0) 1).1 (getN (by_ (rawT s 1)))).2.1.size ≠ 0 ∧ lastN (hdrR (rd (s, 0) 1).1 (getN (by_ (rawT s 1)))).2.1 ≠ 0 ∧ lastN (hdrR (rd (s, 0) 1).1 (getN (by_ (rawT s 1)))).2.1 ≤ (hdrR (rd (s, 0) 1).1 (getN (by_ (rawT s 1)))).2.1.size ∧ by_ ((hdrR (rd (s, 0) 1).1 (getN (by_ (rawT s 1)))).2.1.extract ((hdrR (rd (s, 0) 1).1 (getN (by_ (rawT s 1)))).2.1.size - lastN (hdrR (rd (s, 0) 1).1 (getN (by_ (rawT s 1)))).2.1) (hdrR (rd (s, 0) 1).1 (getN (by_ (rawT s 1)))).2.1.size) = padL (lastN (hdrR (rd (s, 0) 1).1 (getN (by_ (rawT s 1)))).2.1) then
      .inr { (hdrR (rd (s, 0) 1).1 (getN (by_ (rawT s 1)))).1 with data := (hdrR (rd (s, 0) 1).1 (getN (by_ (rawT s 1)))).2.1.extract 0 ((hdrR (rd (s, 0) 1).1 (getN (by_ (rawT s 1)))).2.1.size - lastN (hdrR (rd (s, 0) 1).1 (getN (by_ (rawT s 1)))).2.1), pad := (lastN (hdrR (rd (s, 0) 1).1 (getN (by_ (rawT s 1)))).2.1 : Int) }
    else .inl 1
  else .inr { (hdrR (rd (s, 0) 1).1 (getN (by_ (rawT s 1)))).1 with data := (hdrR (rd (s, 0) 1).1 (getN (by_ (rawT s 1)))).2.1 }
/-- A zero packet. -/
def zeroA : Value := .agg #[.bool false, .int .i64 0, .int .u16 0, .int .u32 0, .int .u32 0, .slice none 0 0, .bool false, .int .i64 0, .string { data := #[] }, .string { data := #[] }, .int .i64 0]
/-- What Parse answers. -/
def Parsed (s : ByteArray) (w : World) (e : Ending) (w' : World) : Prop :=
  Below w.heap.size w w' ∧ ((∃ er : Int, e = .returned (.tuple #[zeroA, .int .i64 er]) ∧ parseR s = .inl er) ∨
    ∃ (p : PK) (a : Option Addr) (c : Nat), e = .returned (.tuple #[.agg (p.cells a c), .int .i64 0]) ∧ parseR s = .inr p ∧ w'.ownsRow w.heap.size 22 1 (.slice a p.others.length c) p.others.length (p.others.map (Value.int .u32)))
theorem padOk_iff (s : ByteArray) : padOk s ↔ (s.size ≠ 0 ∧ lastN s ≠ 0 ∧ lastN s ≤ s.size ∧ by_ (s.extract (s.size - lastN s) s.size) = padL (lastN s)) := by
  unfold padOk
  constructor
  · rintro ⟨h0, h1, h2, h3⟩; exact ⟨h0, h1, h2, by rw [h3, by_ofL]⟩
  · rintro ⟨h0, h1, h2, h3⟩; exact ⟨h0, h1, h2, by rw [← h3, ofL_by]⟩
theorem parseR1 (s : ByteArray) (h0 : ¬ s.size < 12) (h1 : getN (by_ (rawT s 1)) / 64 ≠ 2) : parseR s = .inl 1 := by unfold parseR; rw [if_neg h0, if_pos h1]
theorem parseR2 (s : ByteArray) (h0 : ¬ s.size < 12) (h1 : ¬ getN (by_ (rawT s 1)) / 64 ≠ 2) (h2 : (hdrR (rd (s, 0) 1).1 (getN (by_ (rawT s 1)))).2.2 ≠ 0) : parseR s = .inl (hdrR (rd (s, 0) 1).1 (getN (by_ (rawT s 1)))).2.2 := by unfold parseR; rw [if_neg h0, if_neg h1, if_pos h2]
theorem parseR3 (s : ByteArray) (h0 : ¬ s.size < 12) (h1 : ¬ getN (by_ (rawT s 1)) / 64 ≠ 2) (h2 : ¬ (hdrR (rd (s, 0) 1).1 (getN (by_ (rawT s 1)))).2.2 ≠ 0) (h3 : getN (by_ (rawT s 1)) / 32 % 2 = 1) (h4 : padOk (hdrR (rd (s, 0) 1).1 (getN (by_ (rawT s 1)))).2.1) :
    parseR s = .inr { (hdrR (rd (s, 0) 1).1 (getN (by_ (rawT s 1)))).1 with data := (hdrR (rd (s, 0) 1).1 (getN (by_ (rawT s 1)))).2.1.extract 0 ((hdrR (rd (s, 0) 1).1 (getN (by_ (rawT s 1)))).2.1.size - lastN (hdrR (rd (s, 0) 1).1 (getN (by_ (rawT s 1)))).2.1), pad := (lastN (hdrR (rd (s, 0) 1).1 (getN (by_ (rawT s 1)))).2.1 : Int) } := by
  unfold parseR; rw [if_neg h0, if_neg h1, if_neg h2, if_pos h3, if_pos ((padOk_iff _).1 h4)]
theorem parseR4 (s : ByteArray) (h0 : ¬ s.size < 12) (h1 : ¬ getN (by_ (rawT s 1)) / 64 ≠ 2) (h2 : ¬ (hdrR (rd (s, 0) 1).1 (getN (by_ (rawT s 1)))).2.2 ≠ 0) (h3 : getN (by_ (rawT s 1)) / 32 % 2 = 1) (h4 : ¬ padOk (hdrR (rd (s, 0) 1).1 (getN (by_ (rawT s 1)))).2.1) : parseR s = .inl 1 := by
  unfold parseR; rw [if_neg h0, if_neg h1, if_neg h2, if_pos h3, if_neg (fun h => h4 ((padOk_iff _).2 h))]
theorem parseR5 (s : ByteArray) (h0 : ¬ s.size < 12) (h1 : ¬ getN (by_ (rawT s 1)) / 64 ≠ 2) (h2 : ¬ (hdrR (rd (s, 0) 1).1 (getN (by_ (rawT s 1)))).2.2 ≠ 0) (h3 : ¬ getN (by_ (rawT s 1)) / 32 % 2 = 1) :
    parseR s = .inr { (hdrR (rd (s, 0) 1).1 (getN (by_ (rawT s 1)))).1 with data := (hdrR (rd (s, 0) 1).1 (getN (by_ (rawT s 1)))).2.1 } := by
  unfold parseR; rw [if_neg h0, if_neg h1, if_neg h2, if_neg h3]
theorem hdrR_le (s : ByteArray) (first : Nat) : (hdrR s first).2.1.size ≤ s.size := by
  have l1 : (rd (s, 0) 1).1.size ≤ s.size := rawS_le _ _ _
  have l2 : (rd (rd (s, 0) 1) 2).1.size ≤ s.size := Nat.le_trans (rawS_le _ _ _) l1
  have l3 : (rd (rd (rd (s, 0) 1) 2) 4).1.size ≤ s.size := Nat.le_trans (rawS_le _ _ _) l2
  have l4 : (rd (rd (rd (rd (s, 0) 1) 2) 4) 4).1.size ≤ s.size := Nat.le_trans (rawS_le _ _ _) l3
  have l5 : (rds (rd (rd (rd (rd (s, 0) 1) 2) 4) 4) (first % 16)).1.size ≤ s.size := Nat.le_trans (rds_le _ _) l4
  have l6 : (rd (rds (rd (rd (rd (rd (s, 0) 1) 2) 4) 4) (first % 16)) 2).1.size ≤ s.size := Nat.le_trans (rawS_le _ _ _) l5
  have l7 : (rd (rd (rds (rd (rd (rd (rd (s, 0) 1) 2) 4) 4) (first % 16)) 2) 2).1.size ≤ s.size := Nat.le_trans (rawS_le _ _ _) l6
  show (ite (first / 16 % 2 = 1) _ _ : ByteArray × Int).1.size ≤ _
  split
  · exact Nat.le_trans (rawS_le _ _ _) l7
  · exact l5
theorem rawT_whole (s : ByteArray) : rawT s (s.size : Int) = s := by
  have hN : rawN (s.size : Int) = s.size := by unfold rawN; omega
  unfold rawT
  rw [hN, if_neg (by omega)]
  simp
theorem own_base {w : World} {B B' : Nat} {e : TypeId} {v : Value} {n : Nat} {xs : List Value} (h : w.ownsRow B e 1 v n xs) (hB : B' ≤ B) : w.ownsRow B' e 1 v n xs := by
  refine ⟨h.1, ?_⟩
  rcases h.2 with h' | ⟨g, cap, cur, hv, hb, r⟩
  · exact .inl h'
  · exact .inr ⟨g, cap, cur, hv, by omega, r⟩
theorem own_later {w w' : World} {B : Nat} {e : TypeId} {v : Value} {n : Nat} {xs : List Value} (h : w.ownsRow B e 1 v n xs) (hb : Below w.heap.size w w') : w'.ownsRow B e 1 v n xs :=
  h.kept (row := none) ⟨hb.os, hb.tape, hb.output, hb.size, fun k hk _ => hb.block k hk⟩ (by cases hv : v.ownBlock <;> simp)
theorem parsedGood {s : ByteArray} {w w' : World} {e : Ending} (P : PK) (a : Option Addr) (c : Nat) (hb : Below w.heap.size w w') (he : e = .returned (.tuple #[.agg (P.cells a c), .int .i64 0])) (hr : Hid (parseR s = .inr P)) (hv : w'.ownsRow w.heap.size 22 1 (.slice a P.others.length c) P.others.length (P.others.map (Value.int .u32))) : Parsed s w e w' := ⟨hb, .inr ⟨P, a, c, he, hr.out, hv⟩⟩
theorem parsedBad {s : ByteArray} {w w' : World} {e : Ending} (er : Int) (hb : Below w.heap.size w w') (he : e = .returned (.tuple #[zeroA, .int .i64 er])) (hr : Hid (parseR s = .inl er)) : Parsed s w e w' := ⟨hb, .inl ⟨er, he, hr.out⟩⟩
end Go.Proofs.Ytagimjaojpdfiaa
