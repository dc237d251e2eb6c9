/- history: Get in general; the law's awake. -/
import Derived.Test.YtaekefedmobfoaaHiI
namespace Go.Proofs.Ytaekefedmobfoaa
open Go.RowKit
set_option linter.unusedVariables false
set_option linter.unusedSimpArgs false
theorem hiGet_any {w : World} {base gh : Nat} {m t : Int} {v : Value} {l : List HR} {ag : Int} (h : HIn w base gh m t v l ag) (s : Int) :
    Calls Try.prog 60 #[.pointer (some ⟨gh, 0, none⟩), .int .i64 s] w fun e w' => e = .returned (.tuple #[((hiFind s l).getD hiZ).val, .bool (hiFind s l).isSome]) ∧ Below w.heap.size w w' := by
  cases hf : hiFind s l with
  | none => exact hiGetNo h s hf
  | some r => exact hiGetYes h s r hf
set_option maxRecDepth 100000 in
set_option maxHeartbeats 3200000 in
theorem hiAwake_any (w : World) : Calls Try.prog 22 #[] w fun e w' => e = .returned (.bool true) ∧ Below w.heap.size w w' := by
  go_enter Try.func22, Try.ntmps22
  go_wp2_with fail
  refine (hiNew_any 1 1 w).mono ?_
  rintro e w1 ⟨rfl, hQ1, hb1⟩
  go_wp2_with fail
  refine (hiPut_any hQ1 5 1 (⟨#[97]⟩ : ByteArray)).mono ?_
  rintro e w2 ⟨rfl, ⟨v2, hQ2⟩, hk2, _⟩
  have hb2 := hb1.trans hk2
  rw [show hiPut (hiC 1) [] ⟨5, 0, 1, ⟨#[97]⟩⟩ = [⟨5, 0, 1, ⟨#[97]⟩⟩] from rfl] at hQ2
  rw [show hiOk 5 [] = true from rfl]
  clear hQ1 hb1 hk2
  go_wp2_with fail
  have hA := hiAgain_any hQ2 (fun r hr => by simp at hr; subst hr; exact Int.le_refl _) 5 2 (by decide)
  rw [show hiTo (hiT 1) 5 2 [⟨5, 0, 1, ⟨#[97]⟩⟩] = some ⟨5, 1, 2, ⟨#[97]⟩⟩ from rfl, show hiAgL (hiT 1) 5 2 [⟨5, 0, 1, ⟨#[97]⟩⟩] = [⟨5, 1, 2, ⟨#[97]⟩⟩] from rfl, show hiAgN (hiT 1) 5 2 [⟨5, 0, 1, ⟨#[97]⟩⟩] 0 = 1 from rfl] at hA
  refine hA.mono ?_
  rintro e w3 ⟨rfl, ⟨v3, hQ3⟩, hk3, _⟩
  have hb3 := hb2.trans hk3
  clear hA hQ2 hb2 hk3
  simp only [Option.getD, Option.isSome, HR.val]
  have hal : Below w3.heap.size w3 (w3.alloc (.cells #[.int .i64 5, .int .i64 1, .int .i64 2, .string (⟨#[97]⟩ : ByteArray)] 64)) := (Below.refl _ _).alloc (Nat.le_refl _) _
  have hQ4 := hQ3.later hal
  have hb4 := hb3.trans (hal.mono hb3.size)
  have hX := at4_new 64 w3 w3.heap.size (.int .i64 5) (.int .i64 1) (.int .i64 2) (.string (⟨#[97]⟩ : ByteArray)) rfl
  have hgr : w.heap.size ≠ w3.heap.size := by have := hQ3.at4.lt; omega
  have hgv : v3.ownBlock ≠ some w3.heap.size := fun e => by have := (hQ3.own.1.lt _ e).2; omega
  go_upto_region 5 with fail
  generalize (w3.alloc (.cells #[.int .i64 5, .int .i64 1, .int .i64 2, .string (⟨#[97]⟩ : ByteArray)] 64)) = w4 at hX hQ4 hb4 ⊢
  generalize w3.heap.size = gr at hX hgr hgv ⊢
  clear hal hQ3 hb3
  go_wp2_with fail
  refine (hiAgainMuch hQ4 5 2 ⟨5, 1, 2, ⟨#[97]⟩⟩ rfl (by decide) (by decide)).mono ?_
  rintro e w5 ⟨rfl, hk5⟩
  have hQ5 := hQ4.later hk5
  replace hX := hX.later hk5
  have hb5 := hb4.trans (hk5.mono hb4.size)
  simp only [HR.val, hiZ]
  clear hQ4 hb4 hk5
  have hal : Below w5.heap.size w5 (w5.alloc (.cells #[.int .i64 0, .int .i64 0, .int .i64 0, .string (⟨#[]⟩ : ByteArray)] 64)) := (Below.refl _ _).alloc (Nat.le_refl _) _
  have hQ6 := hQ5.later hal
  have hb6 := hb5.trans (hal.mono hb5.size)
  replace hX := hX.later hal
  go_upto_region 6 with fail
  generalize (w5.alloc (.cells #[.int .i64 0, .int .i64 0, .int .i64 0, .string (⟨#[]⟩ : ByteArray)] 64)) = w6 at hX hQ6 hb6 ⊢
  clear hal hQ5 hb5
  go_wp2_with fail
  refine (hiPut_any hQ6 6 1 (⟨#[98]⟩ : ByteArray)).mono ?_
  rintro e w7 ⟨rfl, ⟨v7, hQ7⟩, hk7, _, hV7⟩
  have hX7 : At4 64 w7 gr (.int .i64 5) (.int .i64 1) (.int .i64 2) (.string (⟨#[97]⟩ : ByteArray)) := by
    unfold At4
    rw [hV7 gr hX.lt (fun e => hgr e.symm) hgv]
    exact hX
  have hb7 := hb6.trans hk7
  rw [show hiPut (hiC 1) [⟨5, 1, 2, ⟨#[97]⟩⟩] ⟨6, 0, 1, ⟨#[98]⟩⟩ = [⟨6, 0, 1, ⟨#[98]⟩⟩] from rfl] at hQ7
  rw [show hiOk 6 [⟨5, 1, 2, ⟨#[97]⟩⟩] = true from rfl]
  clear hQ6 hb6 hk7 hV7 hX
  rename At4 _ _ _ _ _ _ _ => hX
  have hG := hiGet_any hQ7 5
  rw [show hiFind 5 [⟨6, 0, 1, ⟨#[98]⟩⟩] = none from rfl] at hG
  simp only [Option.getD, Option.isSome, HR.val, hiZ] at hG
  go_wp2_with fail
  refine hG.mono ?_
  rintro e w8 ⟨rfl, hk8⟩
  have hQ8 := hQ7.later hk8
  replace hX := hX.later hk8
  have hb8 := hb7.trans (hk8.mono hb7.size)
  clear hG hQ7 hb7 hk8
  have hal : Below w8.heap.size w8 (w8.alloc (.cells #[.int .i64 0, .int .i64 0, .int .i64 0, .string (⟨#[]⟩ : ByteArray)] 64)) := (Below.refl _ _).alloc (Nat.le_refl _) _
  have hQ9 := hQ8.later hal
  have hb9 := hb8.trans (hal.mono hb8.size)
  replace hX := hX.later hal
  go_upto_region 8 with fail
  generalize (w8.alloc (.cells #[.int .i64 0, .int .i64 0, .int .i64 0, .string (⟨#[]⟩ : ByteArray)] 64)) = w9 at hX hQ9 hb9 ⊢
  clear hal hQ8 hb8
  obtain ⟨_, _, _, _⟩ := hX.cells
  have HL := Lib.hid (hiLen_q hQ9)
  clear hQ9
  go_wp2_with fail
  refine HL.out.mono ?_
  rintro e w10 ⟨rfl, rfl⟩
  go_wp2_with fail
  go_ret
  exact ⟨by simp, hb9⟩
end Go.Proofs.Ytaekefedmobfoaa
