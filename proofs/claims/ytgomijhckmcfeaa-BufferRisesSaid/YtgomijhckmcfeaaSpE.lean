/- split: Put. -/
import Derived.Test.YtgomijhckmcfeaaSpD
namespace Go.Proofs.Ytgomijhckmcfeaa
open Go.RowKit
set_option linter.unusedVariables false
set_option linter.unusedSimpArgs false
theorem spF_at (P : List (Option ByteArray)) (i : Nat) (o : Option ByteArray) (h : P[i]? = some o) : spF P i = o := by
  unfold spF
  rw [if_pos (by omega), show ((i : Int)).toNat = i by omega, h]
  rfl
theorem spLook {W : World} {base gf : Nat} {t cnt first : Int} {mp : Option Nat} {P : List (Option ByteArray)} (h : FIn W base gf t cnt first mp P) {x : Int} (hx : (Lit.int .i64 x).wf = true) :
    (Instr.lookup 93 (.map mp) (.int .i64 x) true).run Try.prog W = .ok (.tuple #[.agg #[.string ((spF P x).getD (⟨#[]⟩ : ByteArray))], .bool (spF P x).isSome]) W := by
  rcases h.mem with ⟨rfl, hP⟩ | ⟨b, rfl, _, hm, _⟩
  · rw [hP, spF_no]
    exact Maps.look_nil true mpKey Try.underlying93 (zeroP W) (mp_key hx)
  · exact hm.okEq hx
set_option maxRecDepth 100000 in
set_option maxHeartbeats 1600000 in
theorem spPutNew {w : World} {base gf : Nat} {t cnt first : Int} {mp : Option Nat} {P : List (Option ByteArray)} (h : FIn w base gf t cnt first mp P) (i : Nat) (d : ByteArray) (hi : P[i]? = some none) (hd : spB P + d.size ≤ 4611686018427387904) :
    Calls Try.prog 31 #[.pointer (some ⟨gf, 0, none⟩), .agg #[.int .i64 i, .int .i64 (spK cnt)], .string d] w fun e w' => e = .returned (.int .i64 (if spH P + 1 = spK cnt then 2 else 1)) ∧ (∃ mp', FIn w' base gf t cnt first mp' (P.set i (some d)) ∧ (mp' = mp ∨ (mp = none ∧ ∃ b, w.heap.size ≤ b ∧ mp' = some b))) ∧ Below base w w' ∧ KeepF gf mp w w' := by
  obtain ⟨r, hr⟩ : ∃ r : Int, (if spH P + 1 = spK cnt then 2 else 1) = r := ⟨_, rfl⟩
  rw [hr]
  have HRR := Lib.hid hr
  clear hr
  have hbs := h.bs
  have hgl := h.at5.lt
  have hl := h.len
  have hK := spK_bd cnt
  have hil : i < P.length := (List.getElem?_eq_some_iff.1 hi).1
  have hFi := spF_at P i none hi
  have hX := atS_new 43 w w.heap.size #[.int .i64 i, .int .i64 (spK cnt)] rfl
  have hal : Below w.heap.size w (w.alloc (.cells #[.int .i64 i, .int .i64 (spK cnt)] 43)) := (Below.refl _ _).alloc (Nat.le_refl _) _
  have hF2 := h.later hal
  have hb2 : Below base w (w.alloc (.cells #[.int .i64 i, .int .i64 (spK cnt)] 43)) := hal.mono (by omega)
  have hk2 := keepF_below gf mp hal
  have hne : w.heap.size ≠ gf := by omega
  have hs2 : w.heap.size ≤ (w.alloc (.cells #[.int .i64 i, .int .i64 (spK cnt)] 43)).heap.size := hal.size
  go_enter Try.func31, Try.ntmps31
  go_upto_region 1 with fail
  generalize (w.alloc (.cells #[.int .i64 i, .int .i64 (spK cnt)] 43)) = w2 at *
  obtain ⟨gp, hgp⟩ : ∃ gp, w.heap.size = gp := ⟨_, rfl⟩
  rw [hgp] at hX hne hs2 ⊢
  have HGP := Lib.hid hgp
  have HC := Lib.hid (fun q => spCount_q (hF2.later (below_drewN (Below.refl w2.heap.size w2) q)))
  obtain ⟨K, hKe⟩ : ∃ K, spK cnt = K := ⟨_, rfl⟩
  have HK := Lib.hid hKe
  rw [hKe] at hX HC hK hl ⊢
  clear hgp hgl h hal hKe
  obtain ⟨_, _⟩ := hX.cells2
  have hd1 : decide ((i : Int) < 0) = false := by simp
  have hd2 : decide (K ≤ i) = false := decide_eq_false (by omega)
  go_cut [25] (fun y wz => y = .bool false ∧ FIn wz base gf t cnt first mp P ∧ AtS 43 wz gp #[.int .i64 i, .int .i64 K] ∧ Below base w wz ∧ KeepF gf mp w wz ∧ gp ≤ wz.heap.size)
  case first =>
    go_region_law (first | (go_simp; go_at_call 42; refine (HC.out _).mono ?_; rintro e w4 ⟨rfl, rfl⟩))
    all_goals
      go_wp2_with fail
      go_meet
      exact ⟨rfl, hF2.later (below_drewN (Below.refl _ _) _), hX.later (below_drewN (Below.refl _ _) _), hb2.trans (below_drewN (Below.refl _ _) _), hk2.trans (keepF_below gf mp (below_drewN (Below.refl _ _) _)), hs2⟩
  case rest =>
  obtain ⟨rfl, hF3, hX3, hb3, hk3, hs3⟩ := hcut
  rename World => w3
  clear hF2 hX hb2 hk2 hs2 HC hd1 hd2
  obtain ⟨_, _⟩ := hX3.cells2
  obtain ⟨_, _, _, _, _⟩ := hF3.at5.cells5
  have hwf := sp_small (i : Int) (by omega) (by omega)
  have HL := spLook hF3.drew hwf
  have HL2 := fun o => spLook (hF3.later ((Below.refl w3.heap.size w3).alloc (Nat.le_refl _) o)).drew hwf
  have hB3 : base ≤ w3.heap.size := by have := hF3.at5.lt; omega
  have HPI := Lib.hid hi
  have hal3 : Below w3.heap.size w3 (w3.alloc (.cells #[.string (⟨#[]⟩ : ByteArray)] 105)) := (Below.refl _ _).alloc (Nat.le_refl _) _
  have hXa := hX3.later hal3
  have hFa := hF3.later hal3
  obtain ⟨_, _⟩ := hXa.cells2
  obtain ⟨_, _, _, _, _⟩ := hFa.at5.cells5
  rw [hFi] at HL HL2
  simp only [Option.getD, Option.isSome] at HL HL2
  go_upto_region 3 with fail
  go_cut [8] (fun y wz => y = .bool false ∧ FIn wz base gf t cnt first mp P ∧ AtS 43 wz gp #[.int .i64 i, .int .i64 K] ∧ Below base w wz ∧ KeepF gf mp w wz)
  case first =>
    go_region_law (fail)
    all_goals
      go_wp2_with fail
      go_meet
      exact ⟨rfl, hFa.drew, hXa.later ((Below.refl _ _).drew), (hb3.trans (hal3.mono hB3)).drew, (hk3.trans (keepF_below gf mp hal3)).trans (keepF_below gf mp ((Below.refl _ _).drew))⟩
  case rest =>
  obtain ⟨rfl, hF4, hX4, hb4, hk4⟩ := hcut
  rename World => w4
  clear hF3 hX3 hb3 hk3 HL HL2 hXa hFa hal3 hB3
  obtain ⟨_, _⟩ := hX4.cells2
  have HKP := Lib.hid (spKeep_any hF4 i d hi hd)
  have hs4 := hk4.size
  rw [HGP.out] at hs4
  clear hi hFi
  go_wp2_with fail
  refine HKP.out.mono ?_
  rintro e w5 ⟨rfl, ⟨mp', hF5, hmp'⟩, hb5, hk5⟩
  have hF5' := hF5
  have HW := Lib.hid (spWhole_q hF5)
  rw [spH_set P i d HPI.out, HK.out] at HW
  have HR : Hid (FIn w5 base gf t cnt first mp' (P.set i (some d)) ∧ (mp' = mp ∨ (mp = none ∧ ∃ b, w.heap.size ≤ b ∧ mp' = some b))) := Lib.hid ⟨hF5, by
    rcases hmp' with h1 | ⟨h1, h2⟩
    · exact .inl h1
    · exact .inr ⟨h1, w4.heap.size, by rw [HGP.out]; exact hs4, h2⟩⟩
  have HB := Lib.hid (hb4.trans hb5)
  have HKK := Lib.hid (hk4.trans hk5)
  clear hF5 hF5' hmp' hb5 hk5 hb4 hk4 HKP hX4 hF4
  by_cases hw : spH P + 1 = K
  · rw [show decide (spH P + 1 = K) = true from decide_eq_true hw] at HW
    obtain rfl : r = 2 := by rw [← HRR.out, HK.out, if_pos hw]
    clear hw HRR
    go_wp2_with fail
    refine HW.out.mono ?_
    rintro e w6 ⟨rfl, hq⟩
    subst hq
    go_wp2_with fail
    go_ret
    exact ⟨rfl, ⟨mp', HR.out⟩, HB.out, HKK.out⟩
  · rw [show decide (spH P + 1 = K) = false from decide_eq_false hw] at HW
    obtain rfl : r = 1 := by rw [← HRR.out, HK.out, if_neg hw]
    clear hw HRR
    go_wp2_with fail
    refine HW.out.mono ?_
    rintro e w6 ⟨rfl, hq⟩
    subst hq
    go_wp2_with fail
    go_ret
    exact ⟨rfl, ⟨mp', HR.out⟩, HB.out, HKK.out⟩
end Go.Proofs.Ytgomijhckmcfeaa
