/- GapsClose: the walk. -/
import Derived.Test.YtdbmhgfdcdcgfaaGpP
namespace Go.Proofs.Ytdbmhgfdcdcgfaa
open Go.RowKit
set_option linter.unusedVariables false
set_option linter.unusedSimpArgs false
namespace gapsClose
theorem step (c : GC) (n p : Int) (k : Nat) (l : List GW) (hn : 0 ≤ n ∧ n ≤ 1000) (hp : 0 ≤ p ∧ p ≤ 15) (hm : 1 ≤ c.m) (hl : l.length ≤ 1024) (hk : k ≤ 20) (hpos : ∀ x ∈ l, 0 < x.n) :
    cmG true n (n + (1 + p)) = n + (1 + p) ∧ (∀ x ∈ cmL c true n l (n + (1 + p)) k, 0 < x.n) ∧ 0 ≤ cmU c true n l (n + (1 + p)) ∧ cmU c true n l (n + (1 + p)) ≤ 2000 := by
  have hN : gpN (n + (1 + p)) = n + (1 + p) := gpN_same ⟨by omega, by omega⟩
  have hlt : n < n + (1 + p) := by omega
  unfold cmG cmL cmU
  rw [if_pos rfl, if_pos rfl, if_pos rfl, hN, if_pos hlt, if_pos hlt, if_pos hlt]
  refine ⟨rfl, fun x hx => ?_, ?_, ?_⟩
  · rcases gpLeap_mem _ _ _ _ _ _ hx with h | h
    · exact hpos x h
    · omega
  · unfold gpGive; omega
  · unfold gpGive; omega
set_option maxRecDepth 100000 in
set_option maxHeartbeats 6400000 in
theorem walk (a00 a01 a02 a03 : Int) (p1 : Option Addr) (len1 cap1 : Nat) (z1 : List Int) (w00 : (Lit.int .i64 a00).wf = true) (w01 : (Lit.int .i64 a01).wf = true) (w02 : (Lit.int .i64 a02).wf = true) (w03 : (Lit.int .i64 a03).wf = true) (w : World) (w1 : IsRow .i64 w p1 len1 cap1 z1) :
    Calls Try.prog 6 #[.agg #[.int .i64 a00, .int .i64 a01, .int .i64 a02, .int .i64 a03], .slice p1 len1 cap1] w fun e w' => e = .returned (.bool true) ∧ Below w.heap.size w w' := by
  clear w00 w01 w02 w03
  have hm15 : ∀ z : Int, bits .and .i64 z 15 = z % 16 := fun z => i64_mask z 4 (by omega)
  obtain ⟨es, rfl, l1, l2, hr0, hwf⟩ := w1.reads
  clear w1 hwf
  have HR := Lib.hid (fun (W : World) (h : Below w.heap.size w W) => hr0.later h)
  clear hr0
  have hX := at4_new 23 w w.heap.size (.int .i64 a00) (.int .i64 a01) (.int .i64 a02) (.int .i64 a03) rfl
  have hb0 : Below w.heap.size w (w.alloc (.cells #[.int .i64 a00, .int .i64 a01, .int .i64 a02, .int .i64 a03] 23)) := (Below.refl _ _).alloc (Nat.le_refl _) _
  go_enter Try.func6, Try.ntmps6
  go_upto_region 1 with fail
  generalize (w.alloc (.cells #[.int .i64 a00, .int .i64 a01, .int .i64 a02, .int .i64 a03] 23)) = w0 at hX hb0 ⊢
  generalize w.heap.size = g0 at hX ⊢
  go_wp2_with fail
  refine (gpAwake_any w0).mono ?_
  rintro e wa ⟨rfl, hba⟩
  have hXa := hX.later hba
  have hb1 := hb0.trans (hba.mono hb0.size)
  obtain ⟨_, _, _, _⟩ := hXa.cells
  clear hX hb0 hba
  go_wp2_with fail
  refine (gpNew_any ⟨a00, a01, a02, a03⟩ wa).mono ?_
  rintro e wb ⟨gg, rfl, hGb, hkb⟩
  have hok := gcOk_clip ⟨a00, a01, a02, a03⟩
  have hbb := hb1.trans (hkb.mono hb1.size)
  have hgB : w.heap.size ≤ wa.heap.size := hb1.size
  generalize (⟨a00, a01, a02, a03⟩ : GC).clip = c at hGb hok
  generalize wa.heap.size = gh at hGb hgB hkb
  have hcm : 1 ≤ c.m := hok.1.1
  clear hXa hb1 hkb hok
  have h1 := gpCame_any hGb (fun _ => rfl) 0 0 (by decide)
  rw [show cmU c false 0 [] 0 = 0 from rfl, show cmG false 0 0 = 0 from rfl, show cmL c false 0 [] 0 0 = [] from rfl] at h1
  go_wp2_with fail
  refine h1.mono ?_
  rintro e wc ⟨rfl, ⟨vc, hGc⟩, hkc, _⟩
  have hbc := hbb.trans (hkc.mono hgB)
  clear h1 hGb hbb hkc
  go_upto_block 0 with fail
  go_cut [6] (fun s6 wx => ∃ (n : Int) (l : List GW) (v : Value) (gv : Int), s6 = .int .i64 n ∧ 0 ≤ n ∧ n ≤ 320 ∧ 0 ≤ gv ∧ gv ≤ 40000 ∧ GIn wx gh gg c true n v l gv ∧ (∀ x ∈ l, 0 < x.n) ∧ Below w.heap.size w wx)
  case first =>
    go_wp2_with fail
    go_loopw [6, 7] (fun s6 s7 wr => ∃ (k : Nat) (n : Int) (l : List GW) (v : Value) (gv : Int), k ≤ es.length ∧ k ≤ 20 ∧ s7 = .int .i64 k ∧ s6 = .int .i64 n ∧ 0 ≤ n ∧ n ≤ 16 * k ∧ 0 ≤ gv ∧ gv ≤ 2000 * k ∧ GIn wr gh gg c true n v l gv ∧ (∀ x ∈ l, 0 < x.n) ∧ Below w.heap.size w wr) (fun _ s7 _ => 20 - (intOf s7).toNat)
    case atStart => exact ⟨0, 0, [], vc, 0, Nat.zero_le _, by omega, rfl, rfl, Int.le_refl _, by omega, Int.le_refl _, by omega, hGc, by simp, hbc⟩
    case round =>
      obtain ⟨k, n, l, v, gv, hk, hk20, rfl, rfl, hn0, hn1, hg0, hg1, hG, hpos, hb⟩ := hrel
      clear hGc hbc
      by_cases hlt : k < es.length ∧ k < 20
      · obtain ⟨hlt, hlt20⟩ := hlt
        obtain ⟨ab, off, rfl, c0⟩ := (HR.out wr hb).at hlt
        generalize es[k]?.getD 0 = p at c0
        obtain ⟨q, hq⟩ : ∃ q, p % 16 = q := ⟨_, rfl⟩
        have hq0 : 0 ≤ q ∧ q ≤ 15 := by omega
        have hsm := hG.small
        obtain ⟨s1, s2, s3, s4⟩ := step c n q k l ⟨hn0, by omega⟩ hq0 hcm hsm hk20 hpos
        have HC := Lib.hid (gpCame_any hG (fun h => by cases h) (n + (1 + q)) k ⟨hg0, by omega⟩)
        rw [s1] at HC
        generalize cmL c true n l (n + (1 + q)) k = l' at *
        generalize cmU c true n l (n + (1 + q)) = U at *
        have HP := Lib.hid s2
        have hnn : n + (1 + q) ≤ 16 * ((k : Int) + 1) := by omega
        have hnn0 : 0 ≤ n + (1 + q) := by omega
        clear s1 s2 hG hpos hsm
        go_wp2_with fail
        refine HC.out.mono ?_
        rintro e w4 ⟨rfl, ⟨v4, hG4⟩, hk4, _⟩
        have hb4 := hb.trans (hk4.mono hgB)
        clear hk4 hb HC
        go_wp2_with fail
        go_roundw
        case rel => exact ⟨k + 1, n + (1 + q), l', v4, gv + U, by omega, by omega, by go_num, rfl, hnn0, by push_cast; omega, by omega, by push_cast; omega, hG4, HP.out, hb4⟩
        case measure => simp [intOf]; omega
      · by_cases hk1 : k < es.length
        · have hk2 : k = 20 := by omega
          subst hk2
          go_wp2_with fail
          go_meet
          exact ⟨n, l, v, gv, rfl, hn0, by omega, hg0, by omega, hG, hpos, hb⟩
        · have hk2 : k = es.length := by omega
          subst hk2
          go_wp2_with fail
          go_meet
          exact ⟨n, l, v, gv, rfl, hn0, by omega, hg0, by omega, hG, hpos, hb⟩
  case rest =>
  obtain ⟨n, l, v, gv, rfl, hn0, hn1, hg0, hg1, hG, hpos, hb⟩ := hcut
  rename World => w5
  clear hGc hbc
  have hgh : gh ≤ w5.heap.size := by have := hG.bs; have := hG.at8.lt; omega
  have hsm := hG.small
  have hnb := hG.nb
  go_wp2_with fail
  refine (gpWanting_any hG).mono ?_
  rintro e w6 ⟨v6, rfl, hO6, hk6⟩
  have hG6 := hG.later hk6
  have hb6 := hb.trans (hk6.mono hb.size)
  generalize w5.heap.size = B at hO6
  clear hG hb hk6
  obtain ⟨a6, c6, rfl⟩ := hO6.formG
  obtain ⟨N, hN⟩ : ∃ N, l.length = N := ⟨_, rfl⟩
  have HN := Lib.hid hN
  have hNl : N ≤ 1024 := by omega
  rw [hN] at hO6 ⊢
  have HL := Lib.hid (fun (k : Nat) (hk : k < N) => (⟨l[k]'(by omega), by rw [List.getElem?_eq_getElem]⟩ : ∃ r, l[k]? = some r))
  have HB := Lib.hid (fun (k : Nat) (r : GW) (hr : l[k]? = some r) => (⟨hpos r (List.mem_of_getElem? hr), (hnb r (List.mem_of_getElem? hr)).2⟩ : 0 < r.n ∧ r.n < n))
  have HD : Hid (∀ (k : Nat) (r : GW), l[k]? = some r → l.drop k = r :: l.drop (k + 1)) := Lib.hid fun k r hr => by
    obtain ⟨h1, h2⟩ := List.getElem?_eq_some_iff.1 hr
    rw [List.drop_eq_getElem_cons h1, h2]
  have HS : Hid (∀ (k : Nat) (r : GW), l[k]? = some r → ((gpS l).map (Value.int .i64))[k]? = some (.int .i64 r.n)) := Lib.hid fun k r hr => by
    unfold gpS
    rw [List.getElem?_map, List.getElem?_map, hr]
    rfl
  generalize (gpS l).map (Value.int .i64) = xs at hO6 HS
  have hD0 : l.drop 0 = l := rfl
  rw [← hD0] at hG6
  clear hN hsm hpos hnb hD0
  go_wp2_with fail
  go_loopw [47] (fun i wr => ∃ (k : Nat) (v : Value), k ≤ N ∧ i = .int .i64 k ∧ OwnE wr B 3 1 (.slice a6 N c6) N xs ∧ GIn wr gh gg c true n v (l.drop k) gv ∧ Below w.heap.size w wr) (fun i _ => N - (intOf i).toNat)
  case atStart => exact ⟨0, v, Nat.zero_le _, rfl, hO6, hG6, hb6⟩
  case round =>
    obtain ⟨k, v1, hk, rfl, hO, hG, hb⟩ := hrel
    clear hO6 hG6 hb6
    by_cases hlt : k < N
    · obtain ⟨r, hr⟩ := HL.out k hlt
      obtain ⟨g, off, cap, e6, _, hcm6, _, _, hcz⟩ := hO.1.cells (by omega)
      simp only [Value.slice.injEq, true_and] at e6
      obtain ⟨rfl, rfl⟩ := e6
      have c0 := (hcz k _ (HS.out k r hr)).1
      obtain ⟨hr0, hrn⟩ := HB.out k r hr
      have hlen : (l.drop (k + 1)).length = N - (k + 1) := by rw [List.length_drop, HN.out]
      have HC : Hid (Calls Try.prog 16 #[.pointer (some ⟨gg, 0, none⟩), .int .i64 r.n, .int .i64 30] wr fun e w' => e = .returned (.int .i64 0) ∧ (∃ v', GIn w' gh gg c true n v' (l.drop (k + 1)) gv) ∧ Below gh wr w' ∧ KeptG wr w') := Lib.hid (by
        have hN2 : gpN r.n = r.n := gpN_same ⟨by omega, by omega⟩
        have h := gpCameFound hG r.n 30 (by omega)
        rw [hN2, HD.out k r hr, gpRm_first] at h
        exact h)
      generalize hrr : r.n = rn at *
      clear hcz hG hrr hr
      obtain ⟨m, hm⟩ : ∃ m : Nat, N - (k + 1) = m := ⟨_, rfl⟩
      rw [hm] at hlen
      have hmi : (m : Int) = (N : Int) - 1 - k := by omega
      have hne : ((m : Int) != (N : Int) - 1 - k) = false := by simp [hmi]
      have hln := Lib.hid hlen
      clear hm hmi hlen
      go_wp2_with fail
      refine HC.out.mono ?_
      rintro e w7 ⟨rfl, ⟨v7, hG7⟩, hk7, hK7⟩
      have hO7 := hO.keptG hK7 (by decide) (by decide)
      have hb7 := hb.trans (hk7.mono hgB)
      clear hO hb hk7 hK7 HC c0
      go_wp2_with fail
      refine (gpWanting_any hG7).mono ?_
      rintro e w8 ⟨v8, rfl, hO8, hk8⟩
      rw [hln.out] at hO8
      obtain ⟨a8, c8, rfl⟩ := hO8.formG
      have hO9 := hO7.later hk8
      have hG9 := hG7.later hk8
      have hb9 := hb7.trans (hk8.mono hb7.size)
      clear hO8 hO7 hG7 hb7 hk8
      go_wp2_with fail
      go_roundw
      case rel => exact ⟨k + 1, v7, by omega, by go_num, hO9, hG9, hb9⟩
      case measure => simp [intOf]; omega
    · obtain rfl : k = N := by omega
      have hD : l.drop k = [] := List.drop_eq_nil_of_le (by have := HN.out; omega)
      rw [hD] at hG
      clear hD hO
      go_wp2_with fail
      refine (gpNext_nil hG).mono ?_
      rintro e w7 ⟨rfl, hk7⟩
      have hG7 := hG.later hk7
      have hb7 := hb.trans (hk7.mono hb.size)
      clear hG hb hk7
      go_wp2_with fail
      refine (gpDue_any hG7 1073741824 ⟨hg0, by omega⟩).mono ?_
      rintro e w8 ⟨v8, v8', rfl, hO8, hG8, hk8, _⟩
      rw [show gpDueD c (gpK 1073741824) [] = [] from rfl] at hO8
      rw [show gpDueK c (gpK 1073741824) [] = [] from rfl] at hG8
      obtain ⟨a8, c8, rfl⟩ := hO8.formG
      have hb8 := hb7.trans (hk8.mono hgB)
      clear hG7 hb7 hk8 hO8
      go_wp2_with fail
      refine (gpForget_any hG8 n).mono ?_
      rintro e w9 ⟨rfl, _, hk9, _⟩
      have hb9 := hb8.trans (hk9.mono hgB)
      rw [show gpPas n [] = 0 from rfl]
      go_wp2_with fail
      go_ret
      exact ⟨rfl, hb9⟩
end gapsClose
end Go.Proofs.Ytdbmhgfdcdcgfaa
