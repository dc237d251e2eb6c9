/- split: Put of a part that is there. -/
import Derived.Test.YtgomijhckmcfeaaSpE
namespace Go.Proofs.Ytgomijhckmcfeaa
open Go.RowKit
set_option linter.unusedVariables false
set_option linter.unusedSimpArgs false
set_option maxRecDepth 100000 in
set_option maxHeartbeats 1600000 in
theorem spPutTwice {w : World} {base gf : Nat} {t cnt first : Int} {mp : Option Nat} {P : List (Option ByteArray)} (h : FIn w base gf t cnt first mp P) (i : Nat) (d s : ByteArray) (hi : P[i]? = some (some s)) :
    Calls Try.prog 31 #[.pointer (some ⟨gf, 0, none⟩), .agg #[.int .i64 i, .int .i64 (spK cnt)], .string d] w fun e w' => e = .returned (.int .i64 3) ∧ Below w.heap.size w w' := by
  have hbs := h.bs
  have hgl := h.at5.lt
  have hl := h.len
  have hK := spK_bd cnt
  have hil : i < P.length := (List.getElem?_eq_some_iff.1 hi).1
  have hFi := spF_at P i (some s) hi
  have hX := atS_new 43 w w.heap.size #[.int .i64 i, .int .i64 (spK cnt)] rfl
  have hal : Below w.heap.size w (w.alloc (.cells #[.int .i64 i, .int .i64 (spK cnt)] 43)) := (Below.refl _ _).alloc (Nat.le_refl _) _
  have hF2 := h.later hal
  have hb2 := hal
  have hne : w.heap.size ≠ gf := by omega
  have hs2 : w.heap.size ≤ (w.alloc (.cells #[.int .i64 i, .int .i64 (spK cnt)] 43)).heap.size := hal.size
  go_enter Try.func31, Try.ntmps31
  go_upto_region 1 with fail
  generalize (w.alloc (.cells #[.int .i64 i, .int .i64 (spK cnt)] 43)) = w2 at *
  obtain ⟨gp, hgp⟩ : ∃ gp, w.heap.size = gp := ⟨_, rfl⟩
  rw [hgp] at hX hne hs2 hb2 ⊢
  have HGP := Lib.hid hgp
  have HC := Lib.hid (fun q => spCount_q (hF2.later (below_drewN (Below.refl w2.heap.size w2) q)))
  obtain ⟨K, hKe⟩ : ∃ K, spK cnt = K := ⟨_, rfl⟩
  have HK := Lib.hid hKe
  rw [hKe] at hX HC hK hl ⊢
  clear hgp hgl h hal hKe
  obtain ⟨_, _⟩ := hX.cells2
  have hd1 : decide ((i : Int) < 0) = false := by simp
  have hd2 : decide (K ≤ i) = false := decide_eq_false (by omega)
  go_cut [25] (fun y wz => y = .bool false ∧ FIn wz base gf t cnt first mp P ∧ AtS 43 wz gp #[.int .i64 i, .int .i64 K] ∧ Below gp w wz ∧ gp ≤ wz.heap.size)
  case first =>
    go_region_law (first | (go_simp; go_at_call 42; refine (HC.out _).mono ?_; rintro e w4 ⟨rfl, rfl⟩))
    all_goals
      go_wp2_with fail
      go_meet
      exact ⟨rfl, hF2.later (below_drewN (Below.refl _ _) _), hX.later (below_drewN (Below.refl _ _) _), hb2.trans (below_drewN (Below.refl _ _) _), hs2⟩
  case rest =>
  obtain ⟨rfl, hF3, hX3, hb3, hs3⟩ := hcut
  rename World => w3
  clear hF2 hX hb2 hs2 HC hd1 hd2
  obtain ⟨_, _⟩ := hX3.cells2
  obtain ⟨_, _, _, _, _⟩ := hF3.at5.cells5
  have hwf := sp_small (i : Int) (by omega) (by omega)
  have HL := spLook hF3.drew hwf
  have HL2 := fun o => spLook (hF3.later ((Below.refl w3.heap.size w3).alloc (Nat.le_refl _) o)).drew hwf
  have HPI := Lib.hid hi
  have hal3 : Below w3.heap.size w3 (w3.alloc (.cells #[.string (⟨#[]⟩ : ByteArray)] 105)) := (Below.refl _ _).alloc (Nat.le_refl _) _
  have hXa := hX3.later hal3
  have hFa := hF3.later hal3
  obtain ⟨_, _⟩ := hXa.cells2
  obtain ⟨_, _, _, _, _⟩ := hFa.at5.cells5
  rw [hFi] at HL HL2
  simp only [Option.getD, Option.isSome] at HL HL2
  go_upto_region 3 with fail
  go_cut [8] (fun y wz => y = .bool true ∧ Below gp w wz)
  case first =>
    go_region_law (fail)
    all_goals
      go_wp2_with fail
      go_meet
      exact ⟨rfl, (hb3.alloc hs3 _).drew⟩
  case rest =>
  obtain ⟨rfl, hb4⟩ := hcut
  go_wp2_with fail
  go_ret
  exact ⟨rfl, by rw [HGP.out]; exact hb4⟩
end Go.Proofs.Ytgomijhckmcfeaa
