/- split: Data. -/
import Derived.Test.YtgomijhckmcfeaaSpW
import Derived.Test.YtgomijhckmcfeaaSpL
namespace Go.Proofs.Ytgomijhckmcfeaa
open Go.RowKit
set_option linter.unusedVariables false
set_option linter.unusedSimpArgs false
/-- The bytes of the first k parts. -/
def spBy (P : List (Option ByteArray)) (k : Nat) : List UInt8 := ((P.take k).map (fun o => (o.getD ByteArray.empty).data.toList)).flatten
theorem spBy_succ (P : List (Option ByteArray)) (k : Nat) (o : Option ByteArray) (h : P[k]? = some o) : spBy P (k + 1) = spBy P k ++ (o.getD ByteArray.empty).data.toList := by
  unfold spBy
  rw [List.take_add_one, h, List.map_append, List.flatten_append]
  simp
theorem spBy_len (P : List (Option ByteArray)) (k : Nat) : (spBy P k).length ≤ spB P := by
  induction P generalizing k with
  | nil => simp [spBy]
  | cons a P ih =>
    cases k with
    | zero => simp [spBy]
    | succ k =>
      have := ih k
      simp only [spBy, spB, List.take_succ_cons, List.map_cons, List.flatten_cons, List.length_append, List.sum_cons] at this ⊢
      have e : (a.getD ByteArray.empty).data.toList.length = (a.getD ByteArray.empty).size := by rw [Array.length_toList]; rfl
      omega
theorem spBy_cat (P : List (Option ByteArray)) (k : Nat) : (⟨(spBy P k).toArray⟩ : ByteArray) = spCat ((P.take k).map (fun o => o.getD ByteArray.empty)) := by
  induction k with
  | zero => rfl
  | succ k ih =>
    rcases Nat.lt_or_ge k P.length with h | h
    · obtain ⟨o, ho⟩ : ∃ o, P[k]? = some o := ⟨_, List.getElem?_eq_getElem h⟩
      rw [spBy_succ P k o ho, List.take_add_one, ho, List.map_append, show ((some o).toList.map (fun o : Option ByteArray => o.getD ByteArray.empty)) = [o.getD ByteArray.empty] from rfl, spCat_snoc, ← ih]
      apply bytes_inj
      simp
    · have e1 : P.take (k + 1) = P.take k := by rw [List.take_of_length_le h, List.take_of_length_le (by omega)]
      have e2 : spBy P (k + 1) = spBy P k := by unfold spBy; rw [e1]
      rw [e1, e2, ih]
theorem spLook2 {W : World} {base gf : Nat} {t cnt first : Int} {mp : Option Nat} {P : List (Option ByteArray)} (h : FIn W base gf t cnt first mp P) {x : Int} (hx : (Lit.int .i64 x).wf = true) :
    (Instr.lookup 93 (.map mp) (.int .i64 x) false).run Try.prog W = .ok (.agg #[.string ((spF P x).getD (⟨#[]⟩ : ByteArray))]) W := by
  rcases h.mem with ⟨rfl, hP⟩ | ⟨b, rfl, _, hm, _⟩
  · rw [hP, spF_no]
    exact Maps.look_nil false mpKey Try.underlying93 (zeroP W) (mp_key hx)
  · exact hm.eq hx
theorem spField (s : ByteArray) (W : World) : (Instr.field 105 (.agg #[.string s]) 0).run Try.prog W = .ok (.string s) W := by kernel_rfl
set_option maxRecDepth 100000 in
set_option maxHeartbeats 1600000 in
theorem spDataNo {w : World} {base gf : Nat} {t cnt first : Int} {mp : Option Nat} {P : List (Option ByteArray)} (h : FIn w base gf t cnt first mp P) (hw : ¬ spH P = spK cnt) :
    Calls Try.prog 26 #[.pointer (some ⟨gf, 0, none⟩)] w fun e w' => e = .returned (.tuple #[.string ⟨#[]⟩, .bool false]) ∧ w' = w := by
  have HW := Lib.hid (spWhole_q h)
  rw [decide_eq_false hw] at HW
  clear h hw
  go_enter Try.func26, Try.ntmps26
  go_wp2_with fail
  refine HW.out.mono ?_
  rintro e w' ⟨rfl, hq⟩
  subst hq
  go_wp2_with fail
  go_ret2
  exact ⟨rfl, rfl⟩
set_option maxRecDepth 100000 in
set_option maxHeartbeats 1600000 in
theorem spDataYes {w : World} {base gf : Nat} {t cnt first : Int} {mp : Option Nat} {P : List (Option ByteArray)} (h : FIn w base gf t cnt first mp P) (hw : spH P = spK cnt) (hB : spB P ≤ 1099511627776) :
    Calls Try.prog 26 #[.pointer (some ⟨gf, 0, none⟩)] w fun e w' => e = .returned (.tuple #[.string ⟨(spBy P P.length).toArray⟩, .bool true]) ∧ Below w.heap.size w w' := by
  have hl := h.len
  have hK := spK_bd cnt
  have HW := Lib.hid (spWhole_q h)
  rw [decide_eq_true hw] at HW
  have hal : Below w.heap.size w (w.alloc (.cells #[.pointer none, .slice none 0 0] 98)) := (Below.refl _ _).alloc (Nat.le_refl _) _
  have hbk : (w.alloc (.cells #[.pointer none, .slice none 0 0] 98)).heap[w.heap.size]? = some (.cells #[.pointer none, .slice none 0 0] 98 (0, 0)) := heap_alloc_new w _
  have hs2 : w.heap.size ≤ (w.alloc (.cells #[.pointer none, .slice none 0 0] 98)).heap.size := hal.size
  have hF2 := h.later hal
  have HG := Lib.hid (Try.Builder_Grow_fresh w.heap.size w.heap.size (spB P) (w.alloc (.cells #[.pointer none, .slice none 0 0] 98)) (Nat.le_refl _) hbk hs2 (by omega))
  have HF := Lib.hid (fun W (hW : Below w.heap.size w W) => h.later hW)
  have HS := Lib.hid (fun k o (ho : P[k]? = some o) => spBy_succ P k o ho)
  have HL := Lib.hid (spBy_len P)
  have HP := Lib.hid (fun k (hk : k < P.length) => (⟨P[k], List.getElem?_eq_getElem hk⟩ : ∃ o, P[k]? = some o))
  rw [← hl] at hK hw
  generalize hN : P.length = N at *
  have HN := Lib.hid hN
  have HNK := Lib.hid hl
  clear hN h hw hbk hl
  go_enter Try.func26, Try.ntmps26
  go_wp2_with fail
  refine HW.out.mono ?_
  rintro e w' ⟨rfl, hq⟩
  subst hq
  go_upto_region 4 with fail
  generalize (w'.alloc (.cells #[.pointer none, .slice none 0 0] 98)) = w2 at *
  obtain ⟨B, hBe⟩ : ∃ B, w'.heap.size = B := ⟨_, rfl⟩
  have HBE := Lib.hid hBe
  rw [hBe] at HG HF hal hs2 ⊢
  clear hBe
  obtain ⟨_, _, _, _, _⟩ := hF2.at5.cells5
  go_wp2_with fail
  refine HG.out.mono ?_
  rintro e w3 ⟨rfl, hA3, hb3⟩
  have hb3' := hal.trans hb3
  have hF3 := HF.out w3 hb3'
  have HC := Lib.hid (spCount_q hF3)
  rw [← HNK.out] at HC
  clear hF2 hF3 hb3 hal
  go_wp2_with fail
  refine HC.out.mono ?_
  rintro e w4 ⟨rfl, hq⟩
  subst hq
  go_wp2_with fail
  go_loopw [16] (fun i wr => ∃ k : Nat, k ≤ N ∧ i = .int .i64 k ∧ Lib.BuilderAt 98 5 B B (.pointer (some ⟨B, 0, none⟩)) (Lib.byteCells (spBy P k)) wr ∧ Below B w' wr) (fun i _ => N - (intOf i).toNat)
  case atStart => exact ⟨0, Nat.zero_le _, rfl, hA3, hb3'⟩
  case round =>
    obtain ⟨k, hk, rfl, hA, hb⟩ := hrel
    have hBr : B ≤ wr.heap.size := by have := hb.size; have := HBE.out; omega
    by_cases hlt : k < N
    · obtain ⟨o, ho⟩ := HP.out k hlt
      have hF := HF.out wr hb
      have hwf := sp_small (k : Int) (by omega) (by omega)
      have hlk := spLook2 hF hwf
      rw [spF_at P k o ho, show (⟨#[]⟩ : ByteArray) = ByteArray.empty from rfl] at hlk
      obtain ⟨_, _, _, _, _⟩ := hF.at5.cells5
      have hSk := HS.out k o ho
      have h1 := HL.out k
      have h2 := HL.out (k + 1)
      rw [hSk, List.length_append] at h2
      have hfd := spField (o.getD ByteArray.empty)
      have hsz : (o.getD ByteArray.empty).data.toList.length = (o.getD ByteArray.empty).size := by rw [Array.length_toList]; rfl
      rw [hsz] at h2
      have HSk := Lib.hid hSk
      generalize o.getD ByteArray.empty = s at *
      have HWr := Lib.hid (spWrite_any B B (spBy P k) s wr hA (by omega) hBr)
      clear hF ho hA hSk hsz h1 h2
      go_wp2_with fail
      refine HWr.out.mono ?_
      rintro e w6 ⟨rfl, hA6, hb6⟩
      rw [← HSk.out] at hA6
      have hb6' := hb.trans hb6
      go_wp2_with fail
      go_roundw
      case rel => exact ⟨k + 1, by omega, by go_num, hA6, hb6'⟩
      case measure => simp [intOf]; omega
    · obtain rfl : k = N := by omega
      have HST := Lib.hid (Try.Builder_String_any B B (spBy P k) wr (.inr hA) hBr)
      clear hA
      go_wp2_with fail
      refine HST.out.mono ?_
      rintro e w6 ⟨rfl, hb6⟩
      have hb6' := hb.trans hb6
      go_wp2_with fail
      go_ret2
      exact ⟨rfl, by rw [HBE.out]; exact hb6'⟩
end Go.Proofs.Ytgomijhckmcfeaa
