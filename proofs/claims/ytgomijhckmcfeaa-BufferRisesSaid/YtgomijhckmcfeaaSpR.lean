/- split: the document's Data. -/
import Derived.Test.YtgomijhckmcfeaaSpQ
namespace Go.Proofs.Ytgomijhckmcfeaa
open Go.RowKit
set_option linter.unusedVariables false
set_option linter.unusedSimpArgs false
open splitBack
def cB (P : List (Option ByteArray)) (k : Nat) : ByteArray := ⟨(spBy P k).toArray⟩
theorem cB_succ (P : List (Option ByteArray)) (k : Nat) (o : Option ByteArray) (h : P[k]? = some o) : cB P (k + 1) = cB P k ++ o.getD ByteArray.empty := by
  unfold cB
  rw [spBy_succ P k o h]
  apply bytes_inj
  simp
theorem cB_size (P : List (Option ByteArray)) (k : Nat) : (cB P k).size = (spBy P k).length := by
  show (spBy P k).toArray.size = _
  simp
theorem spBy_all (P : List (Option ByteArray)) : (spBy P P.length).length = spB P := by
  unfold spBy
  rw [List.take_length]
  induction P with
  | nil => simp [spB]
  | cons a P ih =>
    simp only [spB, List.map_cons, List.flatten_cons, List.length_append, List.sum_cons] at ih ⊢
    have e : (a.getD ByteArray.empty).data.toList.length = (a.getD ByteArray.empty).size := by rw [Array.length_toList]; rfl
    omega
theorem spLk_h (P : List (Option ByteArray)) (k : Nat) (hk : k ≤ P.length) : (spLk P k).length + spH (P.take k) = k := by
  induction k with
  | zero => simp [spLk, spH]
  | succ k ih =>
    obtain ⟨o, ho⟩ : ∃ o, P[k]? = some o := ⟨_, List.getElem?_eq_getElem (by omega)⟩
    have := ih (by omega)
    rw [spLk_succ P k o ho, List.length_append, List.take_add_one, ho]
    unfold spH at *
    rw [List.countP_append]
    cases o <;> simp <;> omega
theorem spLk_all (P : List (Option ByteArray)) : (spLk P P.length).length + spH P = P.length := by
  have := spLk_h P P.length (Nat.le_refl _)
  rwa [List.take_length] at this
set_option maxRecDepth 100000 in
set_option maxHeartbeats 1600000 in
theorem refSpData_any {w : World} {b b' N hc pc : Nat} {ha pa : Option Addr} (t now : Int) {P : List (Option ByteArray)} (hP : P.length = N) (h1 : 1 ≤ N) (h2 : N ≤ 255) (h : OwnE w b 4 1 (.slice ha N hc) N (hadV P)) (hp : OwnE w b' 9 1 (.slice pa N pc) N (txV P)) (hB : spB P ≤ 1099511627776) (r : ByteArray) (hr : r = if spH P = N then cB P N else (⟨#[]⟩ : ByteArray)) :
    Calls Try.prog 54 #[.agg #[.int .i64 t, .int .i64 now, .slice ha N hc, .slice pa N pc]] w fun e w' => e = .returned (.tuple #[.string r, .int .i64 (spB P)]) ∧ Below w.heap.size w w' := by
  have HS := Lib.hid (fun k o (ho : P[k]? = some o) => cB_succ P k o ho)
  have HL := Lib.hid (fun k => (by rw [cB_size]; exact spBy_len P k : (cB P k).size ≤ spB P))
  have HC0 : Hid (cB P 0 = (⟨#[]⟩ : ByteArray)) := Lib.hid rfl
  have HA : Hid ((cB P N).size = spB P) := Lib.hid (by rw [cB_size, ← hP]; exact spBy_all P)
  have HP := Lib.hid (fun k (hk : k < N) => (⟨P[k], List.getElem?_eq_getElem (by omega)⟩ : ∃ o, P[k]? = some o))
  have hlk : (spLk P N).length + spH P = N := by rw [← hP]; exact spLk_all P
  have HLK := Lib.hid (fun (W : World) (hW : Below w.heap.size w W) => refSpLacks_any (pa := pa) (pc := pc) t now hP h1 h2 (h.later hW))
  obtain ⟨g, off, rfl, hbg, hgl, _, hcl⟩ := tx_cells hP h1 hp
  have HC := Lib.hid (fun (W : World) (hW : Below w.heap.size w W) (i : Nat) (o : Option ByteArray) (ho : P[i]? = some o) => ((hW.cell hgl).trans (hcl i o ho).1 : W.cell? ⟨g, off + i, none⟩ = some (.string (o.getD ByteArray.empty))))
  have hX := atS_new 87 w w.heap.size #[.int .i64 t, .int .i64 now, .slice ha N hc, .slice (some ⟨g, off, none⟩) N pc] rfl
  have hal : Below w.heap.size w (w.alloc (.cells #[.int .i64 t, .int .i64 now, .slice ha N hc, .slice (some ⟨g, off, none⟩) N pc] 87)) := (Below.refl _ _).alloc (Nat.le_refl _) _
  clear h hp hcl hP
  have HR := Lib.hid hr
  clear hr
  go_enter Try.func54, Try.ntmps54
  go_upto_region 1 with fail
  generalize (w.alloc (.cells #[.int .i64 t, .int .i64 now, .slice ha N hc, .slice (some ⟨g, off, none⟩) N pc] 87)) = w2 at *
  obtain ⟨B, hBe⟩ : ∃ B, w.heap.size = B := ⟨_, rfl⟩
  have HBE := Lib.hid hBe
  rw [hBe] at HC HLK hal hgl hX ⊢
  clear hBe
  have d0 := hX.cell 0
  have d1 := hX.cell 1
  have d2 := hX.cell 2
  have d3 := hX.cell 3
  have hs2 := hal.size
  rw [HBE.out] at hs2
  clear hX
  go_wp2_with fail
  go_loopw [4, 10] (fun s4 i wr => ∃ k : Nat, k ≤ N ∧ i = .int .i64 k ∧ s4 = .string (cB P k) ∧ wr = w2) (fun _ i _ => N - (intOf i).toNat)
  case atStart => exact ⟨0, Nat.zero_le _, rfl, by rw [HC0.out], by simp⟩
  case round =>
    obtain ⟨k, hk, rfl, rfl, hq⟩ := hrel
    subst hq
    by_cases hlt : k < N
    · obtain ⟨o, ho⟩ := HP.out k hlt
      have c0 := HC.out _ hal k o ho
      have HSk := Lib.hid (HS.out k o ho)
      have hsz := HL.out k
      have hsz2 := HL.out (k + 1)
      rw [HSk.out, ByteArray.size_append] at hsz2
      generalize cB P k = A at *
      generalize o.getD ByteArray.empty = p at *
      have hsum : A.size + p.size ≤ 9223372036854775807 := by omega
      go_wp2_with fail
      go_roundw
      case rel => exact ⟨k + 1, by omega, by go_num, by rw [HSk.out], trivial⟩
      case measure => simp [intOf]; omega
    · obtain rfl : k = N := by omega
      have HLW := Lib.hid (HLK.out _ hal)
      have hnk : (spLk P k).length + spH P = k := hlk
      generalize hxs : (spLk P k).map (Value.int .i64) = xs at *
      generalize (spLk P k).length = nk at *
      go_wp2_with fail
      refine HLW.out.mono ?_
      rintro e w5 ⟨v, rfl, hO5, hb5⟩
      have hb5' := hal.trans (hb5.mono hs2)
      obtain ⟨a5, c5, rfl⟩ := hO5.formG
      have hfin := HA.out
      generalize hA : cB P k = A at *
      have HAe := Lib.hid hA
      clear hA
      by_cases hz : nk = 0
      · have hd : decide (0 < nk) = false := decide_eq_false (by omega)
        have HRt : Hid (r = A) := Lib.hid (by rw [HR.out, if_pos (by omega)])
        go_wp2_with fail
        go_ret2
        exact ⟨by rw [HRt.out, ← hfin]; rfl, by rw [HBE.out]; exact hb5'⟩
      · have hd : decide (0 < nk) = true := decide_eq_true (by omega)
        have HRf : Hid (r = (⟨#[]⟩ : ByteArray)) := Lib.hid (by rw [HR.out, if_neg (by omega)])
        go_wp2_with fail
        go_ret2
        exact ⟨by rw [HRf.out, ← hfin]; rfl, by rw [HBE.out]; exact hb5'⟩
end Go.Proofs.Ytgomijhckmcfeaa
