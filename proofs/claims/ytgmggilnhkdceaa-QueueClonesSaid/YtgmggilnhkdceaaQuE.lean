/- queue: Push of too many; the law's awake. -/
import Derived.Test.YtgmggilnhkdceaaQuD
namespace Go.Proofs.Ytgmggilnhkdceaa
open Go.RowKit
set_option linter.unusedVariables false
set_option linter.unusedSimpArgs false
theorem quPushMany_any {w : World} {base gq : Nat} {m b : Int} {v : Value} {l : List ByteArray} (h : QIn w base gq m b v l) (a : Option Addr) (n c : Nat) (hno : quC m < (l.length : Int) + n) :
    Calls Try.prog 42 #[.pointer (some ⟨gq, 0, none⟩), .slice a n c] w fun e w' => e = .returned (.bool false) ∧ Below w.heap.size w w' := by
  have HR := Lib.hid (quRoom_q h)
  have hM : quC m - (l.length : Int) < n := by omega
  generalize quC m - (l.length : Int) = M at HR hM
  generalize quC b - quTot l = R at HR
  clear h hno
  go_enter Try.func42, Try.ntmps42
  go_wp2_with fail
  refine HR.out.mono ?_
  rintro e w2 ⟨rfl, hk2⟩
  go_wp2_with fail
  go_ret
  exact ⟨rfl, hk2⟩
/-- Texts in a row that was just made. -/
theorem row_texts (W : World) (zs : List ByteArray) (T : TypeId) : ∀ i s, zs[i]? = some s → (W.alloc (.cells (zs.map Value.string).toArray T)).cell? ⟨W.heap.size, 0 + i, none⟩ = some (.string s) := by
  intro i s e
  rw [Nat.zero_add, cell_of_row _ W.heap.size i _ _ (0, 0) (heap_alloc_new W _)]
  simp [e]
set_option maxRecDepth 100000 in
set_option maxHeartbeats 1600000 in
theorem quAwake_any (w : World) : Calls Try.prog 33 #[] w fun e w' => e = .returned (.bool true) ∧ Below w.heap.size w w' := by
  go_enter Try.func33, Try.ntmps33
  go_wp2_with fail
  refine (quNew_any 2 9 w).mono ?_
  rintro e w1 ⟨rfl, hQ1, hb1⟩
  go_wp2_with fail
  have hal : Below w1.heap.size w1 (w1.alloc (.cells #[.string (⟨#[97]⟩ : ByteArray), .string (⟨#[98, 99]⟩ : ByteArray)] 71)) := (Below.refl _ _).alloc (Nat.le_refl _) _
  have hQ2 := hQ1.later hal
  have hb2 := hb1.trans (hal.mono hb1.size)
  refine (quPush_any hQ2 [(⟨#[97]⟩ : ByteArray), (⟨#[98, 99]⟩ : ByteArray)] (by decide) w1.heap.size 0 2 (row_texts w1 [(⟨#[97]⟩ : ByteArray), (⟨#[98, 99]⟩ : ByteArray)] 71) (by decide) (by decide)).mono ?_
  rintro e w3 ⟨rfl, ⟨v3, hQ3⟩, hk3, _⟩
  have hb3 := hb2.trans hk3
  clear hQ1 hb1 hal hQ2 hb2 hk3
  go_wp2_with fail
  have hal : Below w3.heap.size w3 (w3.alloc (.cells #[.string (⟨#[100]⟩ : ByteArray)] 71)) := (Below.refl _ _).alloc (Nat.le_refl _) _
  have hQ4 := hQ3.later hal
  have hb4 := hb3.trans (hal.mono hb3.size)
  refine (quPushMany_any hQ4 _ 1 1 (by decide)).mono ?_
  rintro e w5 ⟨rfl, hk5⟩
  have hQ5 := hQ4.later hk5
  have hb5 := hb4.trans (hk5.mono hb4.size)
  clear hQ3 hb3 hal hQ4 hb4 hk5
  go_wp2_with fail
  refine (quPop1_any (l := [(⟨#[98, 99]⟩ : ByteArray)]) hQ5).mono ?_
  rintro e w6 ⟨rfl, ⟨v6, hQ6⟩, hk6, _⟩
  have hb6 := hb5.trans hk6
  clear hQ5 hb5 hk6
  go_wp2_with fail
  refine (quLen_q hQ6).mono ?_
  rintro e w7 ⟨rfl, rfl⟩
  go_wp2_with fail
  refine (quBytes_q hQ6).mono ?_
  rintro e w7 ⟨rfl, rfl⟩
  have ht : quTot [(⟨#[98, 99]⟩ : ByteArray)] = 2 := by decide
  rw [ht]
  go_wp2_with fail
  refine (quTSize_q _ _).mono ?_
  rintro e w8 ⟨rfl, rfl⟩
  have hz : ByteArray.size ⟨#[97]⟩ = 1 := rfl
  rw [hz]
  go_wp2_with fail
  go_ret
  exact ⟨by simp, hb6⟩
end Go.Proofs.Ytgmggilnhkdceaa
