/- share: slices.Index, Contains at int. -/
import Derived.Test.YtaiekbhpgbmalaaShI
namespace Go.Proofs.Ytaiekbhpgbmalaa
open Go.RowKit
set_option linter.unusedVariables false
theorem ret_boolI {a b : Bool} (h : b = a) : Ending.returned (.bool a) = Ending.returned (.bool b) := by rw [h]
theorem readsI_at {k : IntKind} {w : World} {a : Option Addr} {zs : List Int} (h : Reads k w a zs) {i : Nat} (hi : i < zs.length) : ∃ b off, a = some ⟨b, off, none⟩ ∧ w.cell? ⟨b, off + i, none⟩ = some (.int k (zs[i]?.getD 0)) := by
  rcases h with h | ⟨b, off, ha, hc⟩
  · subst h; simp at hi
  · exact ⟨b, off, ha, hc i hi⟩
theorem take_notI (zs : List Int) (v : Int) (k : Nat) (hk : k < zs.length) (h : v ∉ zs.take k) (hne : zs[k]?.getD 0 ≠ v) : v ∉ zs.take (k + 1) := by
  intro hm
  rw [List.take_succ_eq_append_getElem hk] at hm
  rcases List.mem_append.1 hm with hm | hm
  · exact h hm
  · rw [List.mem_singleton] at hm
    rw [List.getElem?_eq_getElem hk] at hne
    exact hne hm.symm
set_option maxHeartbeats 1600000 in
theorem indexI_any (zs : List Int) (v : Int) (a : Option Addr) (c : Nat) (w : World) (hr : Reads .i64 w a zs) (hl : zs.length ≤ 1000000) :
    Calls Try.prog 21 #[.slice a zs.length c, .int .i64 v] w fun e w' => Below w.heap.size w w' ∧ ∃ r : Int, e = .returned (.int .i64 r) ∧ Hid (0 ≤ r ↔ v ∈ zs) ∧ -1 ≤ r ∧ r ≤ 1000000 := by
  have HR := Lib.hid hr
  clear hr
  go_enter Try.func21, Try.ntmps21
  go_wp2
  go_loop [8] (fun i => ∃ k : Nat, k ≤ zs.length ∧ i = .int .i64 k ∧ Hid (v ∉ zs.take k)) (fun i => zs.length - (intOf i).toNat)
  case atStart => exact ⟨0, Nat.zero_le _, rfl, Lib.hid (by simp)⟩
  case round =>
    obtain ⟨k, hk, rfl, HV⟩ := hrel
    by_cases hlt : k < zs.length
    · obtain ⟨b, off, rfl, hc⟩ := readsI_at HR.out hlt
      have hin : zs[k]?.getD 0 ∈ zs := by rw [List.getElem?_eq_getElem hlt]; exact List.getElem_mem hlt
      have HIn := Lib.hid hin
      have HT := Lib.hid (take_notI zs v k hlt HV.out)
      clear hin
      generalize zs[k]?.getD 0 = z at hc HIn HT
      by_cases he : v = z
      · subst he
        go_wp2
        go_ret
        exact ⟨Below.refl _ _, k, rfl, Lib.hid ⟨fun _ => HIn.out, fun _ => by omega⟩, by omega, by omega⟩
      · have HT2 := Lib.hid (HT.out (fun h => he h.symm))
        go_wp2
        go_round
        case rel => exact ⟨k + 1, by omega, by go_num, HT2⟩
        case measure => simp [intOf]; omega
    · obtain rfl : k = zs.length := by omega
      have hno : v ∉ zs := by have := HV.out; rw [List.take_length] at this; exact this
      have HNo := Lib.hid hno
      clear hno
      go_wp2
      go_ret
      exact ⟨Below.refl _ _, -1, rfl, Lib.hid ⟨fun h => absurd h (by decide), fun h => absurd h HNo.out⟩, by decide, by decide⟩
set_option maxHeartbeats 1600000 in
theorem containsI_any (zs : List Int) (v : Int) (a : Option Addr) (c : Nat) (w : World) (hr : Reads .i64 w a zs) (hl : zs.length ≤ 1000000) (b : Bool) (hb : b = true ↔ v ∈ zs) :
    Calls Try.prog 13 #[.slice a zs.length c, .int .i64 v] w fun e w' => e = .returned (.bool b) ∧ Below w.heap.size w w' := by
  have HI := Lib.hid (indexI_any zs v a c w hr hl)
  have HB := Lib.hid hb
  clear hr hb
  go_enter Try.func13, Try.ntmps13
  go_wp2_with fail
  refine HI.out.mono ?_
  rintro e w2 ⟨hb2, r, rfl, hR, h1, h2⟩
  have hd : Hid (b = decide (0 ≤ r)) := Lib.hid (by
    cases b with
    | true => exact (decide_eq_true (hR.out.2 (HB.out.1 rfl))).symm
    | false => exact (decide_eq_false (fun h => by have := HB.out.2 (hR.out.1 h); cases this)).symm)
  go_wp2
  go_ret
  exact ⟨ret_boolI (by rw [hd.out]), hb2⟩
end Go.Proofs.Ytaiekbhpgbmalaa
