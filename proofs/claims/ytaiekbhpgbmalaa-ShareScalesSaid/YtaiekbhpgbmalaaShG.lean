/- share: slices.BinarySearchFunc over loads. -/
import Derived.Test.YtaiekbhpgbmalaaShF
namespace Go.Proofs.Ytaiekbhpgbmalaa
open Go.RowKit
set_option linter.unusedVariables false
/-- Where the load of a path is, or would be, and whether it is there. -/
structure PosS (ls : List SL) (q : Int) (at' : Nat) (f : Bool) : Prop where
  le : at' ≤ ls.length
  lo : ∀ m x, ls[m]? = some x → m < at' → x.p < q
  hi : ∀ m x, ls[m]? = some x → at' ≤ m → q ≤ x.p
  is : f = true ↔ ∃ x, ls[at']? = some x ∧ x.p = q
theorem upS_mono {ls : List SL} (h : ShOk ls) (m k : Nat) (y x : SL) (hy : ls[m]? = some y) (hx : ls[k]? = some x) (hm : m ≤ k) : y.p ≤ x.p := by
  obtain ⟨h1, rfl⟩ := List.getElem?_eq_some_iff.1 hy
  obtain ⟨h2, rfl⟩ := List.getElem?_eq_some_iff.1 hx
  by_cases e : m = k
  · subst e; exact Int.le_refl _
  · exact Int.le_of_lt (List.pairwise_iff_getElem.1 h.up m k h1 h2 (by omega))
set_option maxHeartbeats 3200000 in
theorem binS_any (ls : List SL) (q : Int) (n c : Nat) (a : Option Addr) (w : World) (hn : n = ls.length) (hl : n ≤ 1000) (hr : ShRd w a ls) (ho : ShOk ls) :
    Calls Try.prog 25 #[.slice a n c, .int .i64 q, .func (.func 24) #[] #[]] w fun e w' => ∃ k f, e = .returned (.tuple #[.int .i64 (k : Nat), .bool f]) ∧ PosS ls q k f ∧ Below w.heap.size w w' := by
  subst hn
  have HR : Hid (∀ W : World, Below w.heap.size w W → ShRd W a ls) := Lib.hid (fun W hW => hr.later hW)
  have HO := Lib.hid ho
  clear hr ho
  go_enter Try.func25, Try.ntmps25
  go_wp2_with fail
  go_loopw [9, 10] (fun ti tj wr => ∃ i j : Nat, i ≤ j ∧ j ≤ ls.length ∧ ti = .int .i64 i ∧ tj = .int .i64 j ∧ Hid (∀ m x, ls[m]? = some x → m < i → x.p < q) ∧ Hid (∀ m x, ls[m]? = some x → j ≤ m → q ≤ x.p) ∧ Below w.heap.size w wr) (fun ti tj _ => (intOf tj).toNat - (intOf ti).toNat)
  case atStart => exact ⟨0, ls.length, Nat.zero_le _, Nat.le_refl _, rfl, rfl, Lib.hid (fun m x _ h => absurd h (by omega)), Lib.hid (fun m x h h1 => absurd (List.getElem?_eq_some_iff.1 h).1 (by omega)), Below.refl _ _⟩
  case round =>
    obtain ⟨i, j, hij, hj, rfl, rfl, hlo, hhi, hbw⟩ := hrel
    by_cases hc : i < j
    · obtain ⟨h, hh⟩ : ∃ h : Nat, h = (i + j) / 2 := ⟨_, rfl⟩
      have e1 : IntKind.u64.wrap ((i : Int) + (j : Int)) = (i : Int) + (j : Int) := by rw [IntKind.wrap_u64]; omega
      have e2 : IntKind.i64.wrap (((i : Int) + (j : Int)) / 2) = ((i : Int) + (j : Int)) / 2 := by rw [IntKind.wrap_i64]; omega
      have e3 : ((i : Int) + (j : Int)) / 2 = (h : Int) := by omega
      have hih : i ≤ h := by omega
      have hhj : h < j := by omega
      obtain ⟨x, hx⟩ : ∃ x, ls[h]? = some x := ⟨_, List.getElem?_eq_getElem (by omega)⟩
      obtain ⟨g, rfl, _, _, _⟩ := (HR.out _ hbw).at h x hx
      have HX := Lib.hid hx
      have HT := Lib.hid (toPath_any x q)
      have HC := Lib.hid (cmpI_lt x.p q)
      simp only [SL.val] at HT
      clear hx hh
      generalize cmpI x.p q = z at HT HC
      go_wp2_with fail
      refine (HT.out _).mono ?_
      rintro e w5 ⟨rfl, hk5⟩
      have hb5 : Below w.heap.size w w5 := hbw.trans (hk5.mono hbw.size)
      by_cases hz : z < 0
      · have hxq : Hid (x.p < q) := Lib.hid (HC.out.1 hz)
        go_wp2_with fail
        go_roundw
        case rel => exact ⟨h + 1, j, by omega, hj, by go_num, rfl, Lib.hid (fun m y hy hm => Int.lt_of_le_of_lt (upS_mono HO.out m h y x hy HX.out (by omega)) hxq.out), hhi, hb5⟩
        case measure => simp [intOf]; omega
      · have hxq : Hid (q ≤ x.p) := Lib.hid (Int.not_lt.1 (fun k => hz (HC.out.2 k)))
        go_wp2_with fail
        go_roundw
        case rel => exact ⟨i, h, by omega, by omega, rfl, rfl, hlo, Lib.hid (fun m y hy hm => Int.le_trans hxq.out (upS_mono HO.out h m x y HX.out hy hm)), hb5⟩
        case measure => simp [intOf]; omega
    · obtain rfl : i = j := by omega
      by_cases hn : i < ls.length
      · obtain ⟨x, hx⟩ : ∃ x, ls[i]? = some x := ⟨_, List.getElem?_eq_getElem (by omega)⟩
        obtain ⟨g, rfl, hx0, hx1, hx2⟩ := (HR.out _ hbw).at i x hx
        have HSS : Hid (∀ W : World, Below wr.heap.size wr W → W.cell? ⟨g, i * 3, none⟩ = some (.int .i64 x.p) ∧ W.cell? ⟨g, i * 3 + 1, none⟩ = some (.int .i64 x.w) ∧ W.cell? ⟨g, i * 3 + 2, none⟩ = some (.int .i64 x.c)) := Lib.hid (fun W hW => ⟨cell_later hW hx0, cell_later hW hx1, cell_later hW hx2⟩)
        have HX := Lib.hid hx
        have HT := Lib.hid (toPath_any x q)
        simp only [SL.val] at HT
        have HC := Lib.hid (cmpI_z x.p q)
        clear hx
        generalize cmpI x.p q = z at HT HC
        go_wp2_with fail
        refine (HT.out _).mono ?_
        rintro e w5 ⟨rfl, hk5⟩
        have hb5 : Below w.heap.size w w5 := hbw.trans (hk5.mono hbw.size)
        go_wp2_with fail
        go_ret2
        refine ⟨i, z == 0, rfl, ⟨by omega, hlo.out, hhi.out, ?_⟩, hb5⟩
        constructor
        · intro e
          exact ⟨x, HX.out, HC.out.1 (by simpa using e)⟩
        · rintro ⟨y, hy, he⟩
          rw [HX.out] at hy
          obtain rfl := Option.some.inj hy
          have := HC.out.2 he
          simpa using this
      · go_wp2_with fail
        go_ret2
        refine ⟨i, false, rfl, ⟨by omega, hlo.out, hhi.out, ?_⟩, hbw⟩
        constructor
        · intro e
          exact absurd e (by simp)
        · rintro ⟨y, hy, he⟩
          exact absurd (List.getElem?_eq_some_iff.1 hy).1 hn
end Go.Proofs.Ytaiekbhpgbmalaa
