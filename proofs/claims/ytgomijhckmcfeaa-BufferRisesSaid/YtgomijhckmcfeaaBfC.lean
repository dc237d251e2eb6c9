/- buffer: BinarySearchFunc over frames; leave. -/
import Derived.Test.YtgomijhckmcfeaaBfB
namespace Go.Proofs.Ytgomijhckmcfeaa
open Go.RowKit
set_option linter.unusedVariables false
set_option linter.unusedSimpArgs false
theorem bfCb_q {w : World} {base gf : Nat} {t cnt first : Int} {mp : Option Nat} {P : List (Option ByteArray)} (h : FIn w base gf t cnt first mp P) (q : Int) : Calls Try.prog 48 #[.pointer (some ⟨gf, 0, none⟩), .int .u32 q] w fun e w' => e = .returned (.int .i64 (bfCmp t q)) ∧ w' = w := by
  have H1 := Lib.hid (spTime_q h)
  go_enter Try.func48, Try.ntmps48
  go_wp2_with fail
  refine H1.out.mono ?_
  rintro e w' ⟨rfl, rfl⟩
  go_wp2_with fail
  refine (bfCompare_q _ _ _).mono ?_
  rintro e w' ⟨rfl, rfl⟩
  go_wp2
  go_ret
  exact ⟨rfl, rfl⟩
/-- Where the frame of a time is, or would be, and whether it is there. -/
structure PosB (l : List BF) (q : Int) (k : Nat) (f : Bool) : Prop where
  le : k ≤ l.length
  lo : ∀ m x, l[m]? = some x → m < k → x.t < q
  hi : ∀ m x, l[m]? = some x → k ≤ m → q ≤ x.t
  is : f = true ↔ ∃ x, l[k]? = some x ∧ x.t = q
theorem bup_mono {l : List BF} (h : l.Pairwise (fun x y => x.t < y.t)) (m k : Nat) (y x : BF) (hy : l[m]? = some y) (hx : l[k]? = some x) (hm : m ≤ k) : y.t ≤ x.t := by
  obtain ⟨h1, rfl⟩ := List.getElem?_eq_some_iff.1 hy
  obtain ⟨h2, rfl⟩ := List.getElem?_eq_some_iff.1 hx
  by_cases e : m = k
  · subst e; exact Int.le_refl _
  · exact Int.le_of_lt (List.pairwise_iff_getElem.1 h m k h1 h2 (by omega))
/-- A pointer of the row, read. -/
theorem bfV_at {W : World} {base : Nat} {v : Value} {l : List BF} (h : OwnE W base 66 1 v l.length (bfV l)) (i : Nat) (x : BF) (hx : l[i]? = some x) : ∃ g off c, v = .slice (some ⟨g, off, none⟩) l.length c ∧ l.length ≤ c ∧ c ≤ maxLen ∧ W.cell? ⟨g, off + i, none⟩ = some (.pointer (some ⟨x.g, 0, none⟩)) ∧ W.frozen? ⟨g, off + i, none⟩ = false := by
  have hlt := (List.getElem?_eq_some_iff.1 hx).1
  obtain ⟨g, off, c, hv, hc, hm, _, _, hh⟩ := h.1.cells (by omega)
  have := hh i x.ptr (by unfold bfV; rw [List.getElem?_map, hx]; rfl)
  exact ⟨g, off, c, hv, hc, hm, this.1, this.2⟩
set_option maxHeartbeats 3200000 in
theorem bfBin_any {w : World} {base : Nat} {v : Value} {l : List BF} (ho : OwnE w base 66 1 v l.length (bfV l)) (hf : FrIn w base l) (hu : l.Pairwise (fun x y => x.t < y.t)) (q : Int) (hl : l.length ≤ 1000000) :
    Calls Try.prog 47 #[v, .int .u32 q, .func (.func 48) #[] #[]] w fun e w' => (∃ k f, e = .returned (.tuple #[.int .i64 (k : Nat), .bool f]) ∧ PosB l q k f) ∧ w' = w := by
  obtain ⟨a, c, rfl⟩ := ho.formG
  have HO := Lib.hid ho
  have HF := Lib.hid hf
  have HU := Lib.hid hu
  clear ho hf hu
  go_enter Try.func47, Try.ntmps47
  go_wp2_with fail
  go_loopw [9, 10] (fun ti tj wr => ∃ i j : Nat, i ≤ j ∧ j ≤ l.length ∧ ti = .int .i64 i ∧ tj = .int .i64 j ∧ Hid (∀ m x, l[m]? = some x → m < i → x.t < q) ∧ Hid (∀ m x, l[m]? = some x → j ≤ m → q ≤ x.t) ∧ wr = w) (fun ti tj _ => (intOf tj).toNat - (intOf ti).toNat)
  case atStart => exact ⟨0, l.length, Nat.zero_le _, Nat.le_refl _, rfl, rfl, Lib.hid (fun m x _ h => absurd h (by omega)), Lib.hid (fun m x h h1 => absurd (List.getElem?_eq_some_iff.1 h).1 (by omega)), rfl⟩
  case round =>
    obtain ⟨i, j, hij, hj, rfl, rfl, hlo, hhi, rfl⟩ := hrel
    by_cases hc : i < j
    · obtain ⟨h, hh⟩ : ∃ h : Nat, h = (i + j) / 2 := ⟨_, rfl⟩
      have e1 : IntKind.u64.wrap ((i : Int) + (j : Int)) = (i : Int) + (j : Int) := by rw [IntKind.wrap_u64]; omega
      have e2 : IntKind.i64.wrap (((i : Int) + (j : Int)) / 2) = ((i : Int) + (j : Int)) / 2 := by rw [IntKind.wrap_i64]; omega
      have e3 : ((i : Int) + (j : Int)) / 2 = (h : Int) := by omega
      have hih : i ≤ h := by omega
      have hhj : h < j := by omega
      obtain ⟨x, hx⟩ : ∃ x, l[h]? = some x := ⟨_, List.getElem?_eq_getElem (by omega)⟩
      obtain ⟨g, off, c', hv, _, _, hcell, _⟩ := bfV_at HO.out h x hx
      cases hv
      have HX := Lib.hid hx
      have HT := Lib.hid (bfCb_q (HF.out.fr x (List.mem_of_getElem? hx)) q)
      have HC := Lib.hid (bfCmp_lt x.t q)
      clear hx hh
      generalize bfCmp x.t q = z at HT HC
      go_wp2_with fail
      refine HT.out.mono ?_
      rintro e w5 ⟨rfl, rfl⟩
      by_cases hz : z < 0
      · have hxq : Hid (x.t < q) := Lib.hid (HC.out.1 hz)
        go_wp2_with fail
        go_roundw
        case rel => exact ⟨h + 1, j, by omega, hj, by go_num, rfl, Lib.hid (fun m y hy hm => Int.lt_of_le_of_lt (bup_mono HU.out m h y x hy HX.out (by omega)) hxq.out), hhi, by first | trivial | rfl⟩
        case measure => simp [intOf]; omega
      · have hxq : Hid (q ≤ x.t) := Lib.hid (Int.not_lt.1 (fun k => hz (HC.out.2 k)))
        go_wp2_with fail
        go_roundw
        case rel => exact ⟨i, h, by omega, by omega, rfl, rfl, hlo, Lib.hid (fun m y hy hm => Int.le_trans hxq.out (bup_mono HU.out h m x y HX.out hy hm)), by first | trivial | rfl⟩
        case measure => simp [intOf]; omega
    · obtain rfl : i = j := by omega
      by_cases hn : i < l.length
      · obtain ⟨x, hx⟩ : ∃ x, l[i]? = some x := ⟨_, List.getElem?_eq_getElem (by omega)⟩
        obtain ⟨g, off, c', hv, _, _, hcell, _⟩ := bfV_at HO.out i x hx
        cases hv
        have HX := Lib.hid hx
        have HT := Lib.hid (bfCb_q (HF.out.fr x (List.mem_of_getElem? hx)) q)
        have HC := Lib.hid (bfCmp_z x.t q)
        clear hx
        generalize bfCmp x.t q = z at HT HC
        go_wp2_with fail
        refine HT.out.mono ?_
        rintro e w5 ⟨rfl, rfl⟩
        go_wp2_with fail
        go_ret2
        refine ⟨⟨i, z == 0, rfl, ⟨by omega, hlo.out, hhi.out, ?_⟩⟩, rfl⟩
        constructor
        · intro e
          exact ⟨x, HX.out, HC.out.1 (by simpa using e)⟩
        · rintro ⟨y, hy, he⟩
          rw [HX.out] at hy
          obtain rfl := Option.some.inj hy
          have := HC.out.2 he
          simpa using this
      · go_wp2_with fail
        go_ret2
        refine ⟨⟨i, false, rfl, ⟨by omega, hlo.out, hhi.out, ?_⟩⟩, rfl⟩
        constructor
        · intro e
          exact absurd e (by simp)
        · rintro ⟨y, hy, he⟩
          exact absurd (List.getElem?_eq_some_iff.1 hy).1 hn
end Go.Proofs.Ytgomijhckmcfeaa
