/- share: place, Carried. -/
import Derived.Test.YtaiekbhpgbmalaaShG
namespace Go.Proofs.Ytaiekbhpgbmalaa
open Go.RowKit
set_option linter.unusedVariables false
theorem shPlace_any (ls : List SL) (q : Int) (gs n c : Nat) (a : Option Addr) (w : World) (hs : w.cell? ⟨gs, 0, none⟩ = some (.slice a n c)) (hn : n = ls.length) (hl : n ≤ 1000) (hr : ShRd w a ls) (ho : ShOk ls) :
    Calls Try.prog 16 #[.pointer (some ⟨gs, 0, none⟩), .int .i64 q] w fun e w' => ∃ k f, e = .returned (.tuple #[.int .i64 (k : Nat), .bool f]) ∧ PosS ls q k f ∧ Below w.heap.size w w' := by
  have HB := Lib.hid (binS_any ls q n c a w hn hl hr ho)
  clear hn hr ho
  go_enter Try.func16, Try.ntmps16
  go_wp2_with fail
  refine HB.out.mono ?_
  rintro e w5 ⟨k, f, rfl, hp, hb⟩
  have HP := Lib.hid hp
  clear hp
  go_wp2_with fail
  go_ret2
  exact ⟨k, f, rfl, HP.out, hb⟩
/-- How many bytes a path carried. -/
def hadS (ls : List SL) (q : Int) : Int := match ls.find? (fun x => x.p == q) with | some x => x.c | none => 0
theorem hadS_yes {ls : List SL} (h : ShOk ls) (q : Int) (k : Nat) (x : SL) (hx : ls[k]? = some x) (he : x.p = q) : hadS ls q = x.c := by
  unfold hadS
  cases hf : ls.find? (fun x => x.p == q) with
  | none =>
    have := List.find?_eq_none.1 hf x (List.mem_of_getElem? hx)
    simp [he] at this
  | some y =>
    have h1 := List.find?_some hf
    have h2 := List.mem_of_find?_eq_some hf
    obtain ⟨m, hm⟩ := List.mem_iff_getElem?.1 h2
    have h3 : y.p = q := by simpa using h1
    have : y = x := by
      rcases Nat.lt_trichotomy m k with g | g | g
      · obtain ⟨a1, rfl⟩ := List.getElem?_eq_some_iff.1 hm
        obtain ⟨a2, rfl⟩ := List.getElem?_eq_some_iff.1 hx
        have := List.pairwise_iff_getElem.1 h.up m k a1 a2 g
        omega
      · rw [g, hx] at hm
        exact (Option.some.inj hm).symm
      · obtain ⟨a1, rfl⟩ := List.getElem?_eq_some_iff.1 hm
        obtain ⟨a2, rfl⟩ := List.getElem?_eq_some_iff.1 hx
        have := List.pairwise_iff_getElem.1 h.up k m a2 a1 g
        omega
    rw [this]
theorem hadS_no {ls : List SL} (h : ShOk ls) (q : Int) (k : Nat) (f : Bool) (hp : PosS ls q k f) (hf : f = false) : hadS ls q = 0 := by
  unfold hadS
  rw [List.find?_eq_none.2 ?_]
  intro x hx e
  have e1 : x.p = q := by simpa using e
  obtain ⟨m, hm⟩ := List.mem_iff_getElem?.1 hx
  by_cases hmk : m < k
  · have := hp.lo m x hm hmk
    omega
  · by_cases hk : m = k
    · subst hk
      have := hp.is.2 ⟨x, hm, e1⟩
      rw [hf] at this
      cases this
    · have h1 := hp.hi m x hm (by omega)
      have hm2 := (List.getElem?_eq_some_iff.1 hm).1
      have hx2 := hp.hi k _ (List.getElem?_eq_getElem (show k < ls.length by omega)) (Nat.le_refl _)
      obtain ⟨a1, rfl⟩ := List.getElem?_eq_some_iff.1 hm
      have := List.pairwise_iff_getElem.1 h.up k m (by omega) a1 (by omega)
      omega
end Go.Proofs.Ytaiekbhpgbmalaa
