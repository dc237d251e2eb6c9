/- split: Lacks. -/
import Derived.Test.YtihbhgimceglnaaSpE
import Derived.Test.YtihbhgimceglnaaReB
namespace Go.Proofs.Ytihbhgimceglnaa
open Go.RowKit
set_option linter.unusedVariables false
set_option linter.unusedSimpArgs false
/-- The Indexes, below k, of the parts that aren't there. -/
def spLk (P : List (Option ByteArray)) (k : Nat) : List Int := ((List.range k).filter (fun i => (P[i]?).join.isNone)).map (fun (i : Nat) => (i : Int))
theorem spLk_succ (P : List (Option ByteArray)) (k : Nat) (o : Option ByteArray) (h : P[k]? = some o) : spLk P (k + 1) = spLk P k ++ (if o.isNone then [(k : Int)] else []) := by
  unfold spLk
  rw [List.range_succ, List.filter_append, List.map_append]
  congr 1
  rw [List.filter_cons, h]
  cases o <;> rfl
theorem spLk_len (P : List (Option ByteArray)) (k : Nat) : (spLk P k).length ≤ k := by
  unfold spLk
  rw [List.length_map]
  have := List.length_filter_le (fun i => (P[i]?).join.isNone) (List.range k)
  rw [List.length_range] at this
  exact this
set_option maxRecDepth 100000 in
set_option maxHeartbeats 1600000 in
theorem spLacks_any {w : World} {base gf : Nat} {t cnt first : Int} {mp : Option Nat} {P : List (Option ByteArray)} (h : FIn w base gf t cnt first mp P) :
    Calls Try.prog 23 #[.pointer (some ⟨gf, 0, none⟩)] w fun e w' => ∃ v, e = .returned v ∧ OwnE w' w.heap.size 3 1 v (spLk P P.length).length ((spLk P P.length).map (Value.int .i64)) ∧ Below w.heap.size w w' := by
  obtain ⟨i0, hi, hz0, hz1, hz2⟩ := info_parts info64g
  have hl := h.len
  have hK := spK_bd cnt
  have HC := Lib.hid (spCount_q h)
  have HF := Lib.hid (fun W (hW : Below w.heap.size w W) => (h.later hW))
  have HS := Lib.hid (fun k o (ho : P[k]? = some o) => spLk_succ P k o ho)
  have HL := Lib.hid (spLk_len P)
  have HP := Lib.hid (fun k (hk : k < P.length) => (⟨P[k], List.getElem?_eq_getElem hk⟩ : ∃ o, P[k]? = some o))
  rw [← hl] at HC hK
  generalize hN : P.length = N at *
  have HN := Lib.hid hN
  clear hN hl h
  go_enter Try.func23, Try.ntmps23
  go_wp2_with fail
  refine HC.out.mono ?_
  rintro e w' ⟨rfl, hq⟩
  subst hq
  go_wp2_with fail
  go_loopw [3, 9] (fun s3 i wr => ∃ k : Nat, k ≤ N ∧ i = .int .i64 k ∧ OwnE wr w'.heap.size 3 1 s3 (spLk P k).length ((spLk P k).map (Value.int .i64)) ∧ Below w'.heap.size w' wr) (fun _ i _ => N - (intOf i).toNat)
  case atStart => exact ⟨0, Nat.zero_le _, rfl, ownE_nil _ _ _ _, Below.refl _ _⟩
  case round =>
    obtain ⟨k, hk, rfl, hO, hb⟩ := hrel
    by_cases hlt : k < N
    · obtain ⟨o, ho⟩ := HP.out k hlt
      have hF := HF.out wr hb
      have hwf := sp_small (k : Int) (by omega) (by omega)
      have hlk := spLook hF hwf
      rw [spF_at P k o ho] at hlk
      obtain ⟨_, _, _, _, _⟩ := hF.at5.cells5
      have HSk := Lib.hid (HS.out k o ho)
      have hnk := HL.out k
      clear hF ho
      cases o with
      | none =>
        simp only [Option.getD, Option.isSome] at hlk
        have HV : Hid ((spLk P (k + 1)).map (Value.int .i64) = (spLk P k).map (Value.int .i64) ++ [.int .i64 k]) := Lib.hid (by rw [HSk.out, List.map_append]; rfl)
        have HLn : Hid ((spLk P (k + 1)).length = (spLk P k).length + 1) := Lib.hid (by rw [HSk.out, List.length_append]; rfl)
        have hb2 := hb.alloc hb.size (.cells #[.string (⟨#[]⟩ : ByteArray)] 120)
        have hO2 := hO.alloc (.cells #[.string (⟨#[]⟩ : ByteArray)] 120)
        generalize (spLk P k).map (Value.int .i64) = xs at *
        generalize (spLk P k).length = nk at *
        go_upto_region 7 with fail
        generalize wr.alloc (.cells #[.string (⟨#[]⟩ : ByteArray)] 120) = w2 at *
        go_wp2_with (at_builtin; refine append_recG (W := w') rfl (.tmp 23) (.tmp 25) 46 rfl 3 i0 (.int .i64 0) 1 8 Try.underlying46 hi hz0 hz1 hz2 rfl (by decide) w'.heap.size _ nk xs rfl hO2 #[.int .i64 (k : Int)] rfl rfl ?d0 ?d1 ?d2 hb2.size w'.heap.size (Nat.le_refl _) hb2 ?_)
        case d0 => rfl
        case d1 => unfold maxLen; omega
        case d2 => omega
        intro v4 w4 hO4 hb4 _ _
        have hO5 : OwnE w4 w'.heap.size 3 1 v4 (spLk P (k + 1)).length ((spLk P (k + 1)).map (Value.int .i64)) := by rw [HV.out, HLn.out]; exact hO4
        clear hO4 hO2 hb2 hO hb
        go_wp2_with fail
        go_roundw
        case rel => exact ⟨k + 1, by omega, by go_num, hO5, hb4⟩
        case measure => simp [intOf]; omega
      | some s =>
        simp only [Option.getD, Option.isSome] at hlk
        have HV : Hid (spLk P (k + 1) = spLk P k) := Lib.hid (by rw [HSk.out]; simp)
        have hb2 := hb.alloc hb.size (.cells #[.string s] 120)
        have hO2 := hO.alloc (.cells #[.string s] 120)
        go_wp2_with fail
        go_roundw
        case rel => exact ⟨k + 1, by omega, by go_num, by rw [HV.out]; exact hO2, hb2⟩
        case measure => simp [intOf]; omega
    · obtain rfl : k = N := by omega
      go_wp2_with fail
      go_ret
      exact ⟨_, rfl, hO, hb⟩
end Go.Proofs.Ytihbhgimceglnaa
