/- HistoryTries: plain facts; the acts in memory. -/
import Derived.Test.YtaekefedmobfoaaHiJ
import Derived.Test.YtaekefedmobfoaaMpA
import Derived.Test.YtaekefedmobfoaaRecs
import Derived.Test.YtaekefedmobfoaaCrcD
namespace Go.Proofs.Ytaekefedmobfoaa
open Go.RowKit
set_option linter.unusedVariables false
set_option linter.unusedSimpArgs false
theorem cutB_le (s : ByteArray) (m : Nat) : (cutB s m).size ≤ m := by
  unfold cutB
  split
  · rw [ByteArray.size_extract]; omega
  · omega
def hiActP : List (Value → Prop) := [isNum .i64, isNum .i64, isNum .i64, isText]
theorem hiAct_at {w wr : World} {a : Option Addr} {n k : Nat} (h : Recs hiActP w a n) (hb : Below w.heap.size w wr) (hk : k < n) :
    ∃ b off, a = some ⟨b, off, none⟩ ∧ b < w.heap.size ∧ ∃ (kd s p : Int) (d : ByteArray), wr.cell? ⟨b, off + k * 4, none⟩ = some (.int .i64 kd) ∧ wr.cell? ⟨b, off + k * 4 + 1, none⟩ = some (.int .i64 s) ∧ wr.cell? ⟨b, off + k * 4 + 2, none⟩ = some (.int .i64 p) ∧ wr.cell? ⟨b, off + k * 4 + 3, none⟩ = some (.string d) ∧ d.size ≤ 9223372036854775807 ∧ (Lit.int .i64 kd).wf = true ∧ (Lit.int .i64 s).wf = true ∧ (Lit.int .i64 p).wf = true := by
  rcases h with h | ⟨b, off, rfl, hlt, hc⟩
  · omega
  · obtain ⟨v0, h0, kd, rfl, w0⟩ := hc k hk 0 _ rfl
    obtain ⟨v1, h1, s, rfl, w1⟩ := hc k hk 1 _ rfl
    obtain ⟨v2, h2, p, rfl, w2⟩ := hc k hk 2 _ rfl
    obtain ⟨v3, h3, d, rfl, w3⟩ := hc k hk 3 _ rfl
    refine ⟨b, off, rfl, hlt, kd, s, p, d, ?_, ?_, ?_, ?_, by unfold maxLen at w3; omega, w0, w1, w2⟩
    · rw [hb.cell (p := ⟨b, off + k * 4, none⟩) hlt]; exact h0
    · rw [hb.cell (p := ⟨b, off + k * 4 + 1, none⟩) hlt]; exact h1
    · rw [hb.cell (p := ⟨b, off + k * 4 + 2, none⟩) hlt]; exact h2
    · rw [hb.cell (p := ⟨b, off + k * 4 + 3, none⟩) hlt]; exact h3
/-- Under a change to a block that holds no cells. -/
theorem HIn.grownMap {W W' : World} {base gh b : Nat} {m t : Int} {v : Value} {l : List HR} {ag : Int} (h : HIn W base gh m t v l ag) (hg : W.grownBy W' (some b)) (hb : ∃ es c, W.heap[b]? = some (.map es c)) : HIn W' base gh m t v l ag := by
  obtain ⟨es, c, hm⟩ := hb
  refine ⟨h.bs, ?_, h.own.keep hg.size fun k cs hk hc => hg.block k (lt_of_obj hc) (fun e => ?_), h.len, h.up⟩
  · have h4 := h.at4
    unfold At4 at h4 ⊢
    rw [hg.block gh (lt_of_obj h4) (fun e => by cases e; rw [hm] at h4; cases h4)]
    exact h4
  · cases e
    rw [hm] at hc
    cases hc
namespace historyTries
/-- Numbers one behind the other, from 1 on. -/
def SeqOk (l : List HR) : Prop := ∀ (i : Nat) (r : HR), l[i]? = some r → r.s = (i : Int) + 1
theorem seqOk_nil : SeqOk [] := fun i r h => by simp at h
theorem seqOk_snoc {l : List HR} (h : SeqOk l) (x : HR) (hx : x.s = (l.length : Int) + 1) : SeqOk (l ++ [x]) := fun i r hi => by
  rcases Nat.lt_or_ge i l.length with h1 | h1
  · rw [List.getElem?_append_left h1] at hi
    exact h i r hi
  · rw [List.getElem?_append_right h1] at hi
    have : i = l.length := by
      have := (List.getElem?_eq_some_iff.1 hi).1
      simp at this
      omega
    subst this
    simp at hi
    subst hi
    exact hx
theorem seqOk_ag {l : List HR} (h : SeqOk l) (s p : Int) : SeqOk (hiAg s p l) := fun i r hi => by
  unfold hiAg at hi
  rw [List.getElem?_map] at hi
  obtain ⟨x, hx, rfl⟩ := Option.map_eq_some_iff.1 hi
  have := h i x hx
  split
  · exact this
  · exact this
theorem seqOk_ok {l : List HR} (h : SeqOk l) : hiOk ((l.length : Int) + 1) l = true := by
  unfold hiOk
  rw [List.all_eq_true]
  intro r hr
  obtain ⟨i, hi⟩ := List.getElem?_of_mem hr
  have h1 := h i r hi
  have h2 := (List.getElem?_eq_some_iff.1 hi).1
  simp
  omega
theorem put_twice (l : List HR) (x : HR) : hiOk x.s (l ++ [x]) = false := hiOk_no x.s l.length x (by simp) (Int.le_refl _)
theorem put_room {l : List HR} (h : SeqOk l) (hl : l.length ≤ 60) (x : HR) (hx : x.s = (l.length : Int) + 1) : hiPut (hiC 100) l x = l ++ [x] := by
  unfold hiPut hiAdd
  rw [hx, if_pos (seqOk_ok h), if_neg (by unfold hiC; omega)]
theorem put_none (M : Int) (l : List HR) (x : HR) (h : hiOk x.s l = false) : hiPut M l x = l := by
  unfold hiPut
  rw [h]
  rfl
/-- What was put, and how often it was sent once more. -/
def fS (l : List HR) (x : Int) : Option ByteArray := (hiFind x l).map (fun r => r.d)
def fI (l : List HR) (x : Int) : Option Int := match hiFind x l with | some r => if r.t = 0 then none else some r.t | none => none
theorem fI_get (l : List HR) (x : Int) : (fI l x).getD 0 = ((hiFind x l).map (fun r => r.t)).getD 0 := by
  unfold fI
  cases hiFind x l with
  | none => rfl
  | some r =>
    by_cases h : r.t = 0
    · simp [h]
    · simp [h]
theorem find_snoc {l : List HR} (h : SeqOk l) (x : HR) (hx : x.s = (l.length : Int) + 1) (y : Int) : hiFind y (l ++ [x]) = if y = x.s then some x else hiFind y l := by
  unfold hiFind
  rw [List.find?_append]
  by_cases e : y = x.s
  · subst e
    have hn : l.find? (fun r => decide (r.s = x.s)) = none := by
      rw [List.find?_eq_none]
      intro r hr
      obtain ⟨i, hi⟩ := List.getElem?_of_mem hr
      have h1 := h i r hi
      have h2 := (List.getElem?_eq_some_iff.1 hi).1
      simp
      omega
    rw [hn]
    simp
  · have hn : [x].find? (fun r => decide (r.s = y)) = none := by
      rw [List.find?_eq_none]
      intro r hr
      simp at hr
      subst hr
      simp
      exact fun h => e h.symm
    rw [hn]
    simp [e]
theorem find_ag (l : List HR) (s p y : Int) : hiFind y (hiAg s p l) = (hiFind y l).map (fun r => if r.s = s then r.ag p else r) := by
  unfold hiFind hiAg
  rw [List.find?_map]
  congr 2
  funext r
  simp only [Function.comp]
  by_cases h : r.s = s
  · simp [h, HR.ag]
  · simp [h]
theorem find_s {l : List HR} {y : Int} {r : HR} (h : hiFind y l = some r) : r.s = y := by
  have := List.find?_some h
  simpa using this
theorem fS_put {l : List HR} (h : SeqOk l) (x : HR) (hx : x.s = (l.length : Int) + 1) (y : Int) : fS (l ++ [x]) y = if y = (l.length : Int) + 1 then some x.d else fS l y := by
  unfold fS
  rw [find_snoc h x hx, hx]
  split <;> rfl
theorem fI_put {l : List HR} (h : SeqOk l) (x : HR) (hx : x.s = (l.length : Int) + 1) (ht : x.t = 0) (y : Int) : fI (l ++ [x]) y = fI l y := by
  unfold fI
  rw [find_snoc h x hx]
  by_cases e : y = x.s
  · have hn : hiFind y l = none := by
      unfold hiFind
      rw [List.find?_eq_none]
      intro r hr
      obtain ⟨i, hi⟩ := List.getElem?_of_mem hr
      have h1 := h i r hi
      have h2 := (List.getElem?_eq_some_iff.1 hi).1
      simp
      omega
    rw [if_pos e, hn]
    simp [ht]
  · rw [if_neg e]
theorem fS_ag (l : List HR) (s p y : Int) : fS (hiAg s p l) y = fS l y := by
  unfold fS
  rw [find_ag, Option.map_map]
  congr 1
  funext r
  simp only [Function.comp]
  split <;> rfl
theorem fI_ag {l : List HR} (hn : HiNn l) (s p : Int) (r : HR) (h : hiFind s l = some r) (y : Int) : fI (hiAg s p l) y = if y = s then some (r.t + 1) else fI l y := by
  unfold fI
  rw [find_ag]
  have h0 := hn r (List.mem_of_find?_eq_some h)
  by_cases e : y = s
  · subst e
    rw [h, if_pos rfl]
    have := find_s h
    simp only [Option.map, this, if_true, HR.ag]
    rw [if_neg (by omega)]
  · rw [if_neg e]
    cases hy : hiFind y l with
    | none => rfl
    | some x =>
      have := find_s hy
      simp only [Option.map]
      rw [if_neg (show ¬ x.s = s by omega)]
end historyTries
end Go.Proofs.Ytaekefedmobfoaa
