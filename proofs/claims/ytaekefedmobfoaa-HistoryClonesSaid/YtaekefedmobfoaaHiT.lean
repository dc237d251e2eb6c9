/- history: a call, of both sides, in general. -/
import Derived.Test.YtaekefedmobfoaaHiS
import Derived.Test.YtaekefedmobfoaaHiR
import Derived.Test.YtaekefedmobfoaaRecs
namespace Go.Proofs.Ytaekefedmobfoaa
open Go.RowKit
set_option linter.unusedVariables false
set_option linter.unusedSimpArgs false
theorem hiDo_any {w : World} {base gh : Nat} {m t : Int} {v vx : Value} {l : List HR} {ag : Int} (h : HIn w base gh m t v l ag) (hx : OwnE w 0 125 4 vx l.length (hiV l)) (hnn : HiNn l) (hag : 0 ≤ ag ∧ ag ≤ 1000) (kd s p : Int) (d : ByteArray) (hd : d.size ≤ 9223372036854775807) :
    Calls Try.prog 25 #[.pointer (some ⟨gh, 0, none⟩), .agg #[.int .i64 (hiC m), .int .i64 (hiT t), .int .i64 ag, vx], .agg #[.int .i64 kd, .int .i64 s, .int .i64 p, .string d]] w fun e w' => ∃ v' vx', e = .returned (.tuple #[.agg #[.int .i64 (hiC m), .int .i64 (hiT t), .int .i64 (hiDoN (hiT t) kd s p l ag), vx'], .bool true]) ∧ HIn w' base gh m t v' (hiDoL (hiC m) (hiT t) kd s p d l) (hiDoN (hiT t) kd s p l ag) ∧ OwnE w' 0 125 4 vx' (hiDoL (hiC m) (hiT t) kd s p d l).length (hiV (hiDoL (hiC m) (hiT t) kd s p d l)) ∧ Below base w w' ∧ KeptH w w' := by
  unfold hiDoL hiDoN
  by_cases h0 : kd = 0
  · rw [if_pos h0, if_neg (by omega)]
    exact hiDo0 h hx hnn hag kd s p d hd h0
  · rw [if_neg h0]
    by_cases h1 : kd = 1
    · rw [if_pos h1, if_pos h1]
      exact hiDo1 h hx hnn hag kd s p d hd h1
    · rw [if_neg h1, if_neg h1]
      by_cases h2 : kd = 2
      · rw [if_pos h2]
        exact hiDo2 h hx hnn hag kd s p d hd h2
      · rw [if_neg h2]
        exact hiDo3 h hx hnn hag kd s p d hd ⟨h0, h1, h2⟩
theorem hiNn_do {l : List HR} (h : HiNn l) (M T kd s p : Int) (d : ByteArray) : HiNn (hiDoL M T kd s p d l) := by
  unfold hiDoL
  split
  · exact hiNn_put h M s p (cutB d 20)
  · split
    · unfold hiAgL
      split
      · exact hiNn_ag h s p
      · exact h
    · split
      · exact h
      · exact hiNn_fg h s
theorem hiDoN_bd (T kd s p : Int) (l : List HR) (ag : Int) : ag ≤ hiDoN T kd s p l ag ∧ hiDoN T kd s p l ag ≤ ag + 1 := by
  unfold hiDoN hiAgN
  split
  · split <;> omega
  · omega
def hiActQ : List (Value → Prop) := [isNum .i64, isNum .i64, isNum .i64, isText]
theorem hiActQ_at {w wr : World} {a : Option Addr} {n k : Nat} (h : Recs hiActQ w a n) (hb : Below w.heap.size w wr) (hk : k < n) :
    ∃ b off, a = some ⟨b, off, none⟩ ∧ b < w.heap.size ∧ ∃ (kd s p : Int) (d : ByteArray), wr.cell? ⟨b, off + k * 4, none⟩ = some (.int .i64 kd) ∧ wr.cell? ⟨b, off + k * 4 + 1, none⟩ = some (.int .i64 s) ∧ wr.cell? ⟨b, off + k * 4 + 2, none⟩ = some (.int .i64 p) ∧ wr.cell? ⟨b, off + k * 4 + 3, none⟩ = some (.string d) ∧ d.size ≤ 9223372036854775807 := by
  rcases h with h | ⟨b, off, rfl, hlt, hc⟩
  · omega
  · obtain ⟨v0, h0, kd, rfl, _⟩ := hc k hk 0 _ rfl
    obtain ⟨v1, h1, s, rfl, _⟩ := hc k hk 1 _ rfl
    obtain ⟨v2, h2, p, rfl, _⟩ := hc k hk 2 _ rfl
    obtain ⟨v3, h3, d, rfl, w3⟩ := hc k hk 3 _ rfl
    refine ⟨b, off, rfl, hlt, kd, s, p, d, ?_, ?_, ?_, ?_, by unfold maxLen at w3; omega⟩
    · rw [hb.cell (p := ⟨b, off + k * 4, none⟩) hlt]; exact h0
    · rw [hb.cell (p := ⟨b, off + k * 4 + 1, none⟩) hlt]; exact h1
    · rw [hb.cell (p := ⟨b, off + k * 4 + 2, none⟩) hlt]; exact h2
    · rw [hb.cell (p := ⟨b, off + k * 4 + 3, none⟩) hlt]; exact h3
end Go.Proofs.Ytaekefedmobfoaa
