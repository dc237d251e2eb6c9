/- report: Age, onClock, About. -/
import Derived.Test.YtimdeohbhiicpaaRpS
import Derived.Deep.RegionHeld3
namespace Go.Proofs.Ytimdeohbhiicpaa
open Go.RowKit
set_option linter.unusedVariables false
def onClk (n : Int) : Int := min (max n 0) 1099511627776
theorem onClock_any (n : Int) (w : World) : Calls Try.prog 76 #[.int .i64 n] w fun e w' => e = .returned (.int .i64 (onClk n)) ∧ w = w' := by
  unfold onClk
  go_enter Try.func76, Try.ntmps76
  go_wp2
  go_ret
  exact ⟨rfl, rfl⟩
/-- What Age answers. -/
def ageV (clock now : Int) : Int := max (onClk now - onClk clock) 0
theorem onClk_bd (n : Int) : 0 ≤ onClk n ∧ onClk n ≤ 1099511627776 := by unfold onClk; omega
set_option maxHeartbeats 1600000 in
theorem age_any (clock time packets bytes now : Int) (w : World) : Calls Try.prog 46 #[.agg #[.int .i64 clock, .int .u32 time, .int .u32 packets, .int .u32 bytes], .int .i64 now] w fun e w' => e = .returned (.int .i64 (ageV clock now)) ∧ Below w.heap.size w w' := by
  have HA := Lib.hid (fun W => onClock_any now W)
  have HB := Lib.hid (fun W => onClock_any clock W)
  obtain ⟨a1, a2⟩ := onClk_bd now
  obtain ⟨b1, b2⟩ := onClk_bd clock
  have hv : Hid (ageV clock now = max (onClk now - onClk clock) 0) := Lib.hid rfl
  generalize ageV clock now = R at hv ⊢
  generalize onClk now = A at HA a1 a2 hv
  generalize onClk clock = C at HB b1 b2 hv
  have hw : IntKind.i64.wrap (A - C) = A - C := IntWalk.i64_in _ ⟨by omega, by omega⟩
  have hX : (w.alloc (.cells #[.int .i64 clock, .int .u32 time, .int .u32 packets, .int .u32 bytes] 72)).cell? ⟨w.heap.size, 0, none⟩ = some (.int .i64 clock) := by simp
  have hb1 : Below w.heap.size w (w.alloc (.cells #[.int .i64 clock, .int .u32 time, .int .u32 packets, .int .u32 bytes] 72)) := (Below.refl _ _).alloc (Nat.le_refl _) _
  go_enter Try.func46, Try.ntmps46
  go_upto_region 1 with fail
  generalize w.alloc (.cells #[.int .i64 clock, .int .u32 time, .int .u32 packets, .int .u32 bytes] 72) = w1 at hX hb1 ⊢
  generalize w.heap.size = g at hX ⊢
  go_region_held3 (fun W => W.cell? ⟨g, 0, none⟩ = some (.int .i64 clock)) (first | (go_keep; done) | assumption) (first | (go_at_call_of 76 (Value.int .i64 now); refine (HA.out _).mono ?_; rintro e w' ⟨rfl, rfl⟩) | (go_at_call_of 76 (Value.int .i64 clock); refine (HB.out _).mono ?_; rintro e w' ⟨rfl, rfl⟩))
  all_goals
    go_wp2
    go_ret
    exact ⟨by rw [hv.out]; rfl, by first | exact hb1 | exact hb1.drew | exact hb1.drew.drew⟩
/-- The first block of a source. -/
def firstOf (src : Int) : List BK → Option BK
  | [] => none
  | b :: l => if b.src = src then some b else firstOf src l
theorem firstOf_skip (src : Int) (l : List BK) (k : Nat) (h : k < l.length) (hne : (l[k]?.getD zeroBK).src ≠ src) : firstOf src (l.drop k) = firstOf src (l.drop (k + 1)) := by
  rw [List.drop_eq_getElem_cons h]
  rw [List.getElem?_eq_getElem h] at hne
  show (if _ then _ else _) = _
  rw [if_neg (by simpa using hne)]
theorem firstOf_hit (src : Int) (l : List BK) (k : Nat) (h : k < l.length) (he : (l[k]?.getD zeroBK).src = src) : firstOf src (l.drop k) = some (l[k]?.getD zeroBK) := by
  rw [List.drop_eq_getElem_cons h]
  rw [List.getElem?_eq_getElem h] at he ⊢
  show (if _ then _ else _) = _
  rw [if_pos (by simpa using he)]
  rfl
def aboutB (r : List BK) (src : Int) : BK := (firstOf src r).getD zeroBK
def aboutI (r : List BK) (src : Int) : Bool := (firstOf src r).isSome
set_option maxRecDepth 100000 in
set_option maxHeartbeats 3200000 in
theorem about_any (r : RP) (src : Int) (a : Option Addr) (c : Nat) (w : World) (hr : ReadsB BK.vals w a r.blocks) (hl : r.blocks.length ≤ 9223372036854775807) :
    Calls Try.prog 45 #[.agg #[.int .u32 r.src, .bool r.isS, .int .i64 r.clock, .int .u32 r.time, .int .u32 r.packets, .int .u32 r.bytes, .slice a r.blocks.length c], .int .u32 src] w fun e w' =>
      e = .returned (.tuple #[.agg #[.int .u32 (aboutB r.blocks src).src, .int .i64 (aboutB r.blocks src).frac, .int .i64 (aboutB r.blocks src).lost, .int .u32 (aboutB r.blocks src).high, .int .u32 (aboutB r.blocks src).jit, .int .u32 (aboutB r.blocks src).last, .int .u32 (aboutB r.blocks src).delay], .bool (aboutI r.blocks src)]) ∧ Below w.heap.size w w' := by
  obtain ⟨rsrc, isS, clock, time, packets, bytes, l⟩ := r
  simp only at *
  have hX1 := at7_new 75 w (.int .u32 rsrc) (.bool isS) (.int .i64 clock) (.int .u32 time) (.int .u32 packets) (.int .u32 bytes) (.slice a l.length c)
  have hX2 := hX1.alloc (.cells #[.int .u32 0, .int .i64 0, .int .i64 0, .int .u32 0, .int .u32 0, .int .u32 0, .int .u32 0] 90)
  have hY2 := at7_new 90 (w.alloc (.cells #[.int .u32 rsrc, .bool isS, .int .i64 clock, .int .u32 time, .int .u32 packets, .int .u32 bytes, .slice a l.length c] 75)) (.int .u32 0) (.int .i64 0) (.int .i64 0) (.int .u32 0) (.int .u32 0) (.int .u32 0) (.int .u32 0)
  have hb2 : Below w.heap.size w ((w.alloc (.cells #[.int .u32 rsrc, .bool isS, .int .i64 clock, .int .u32 time, .int .u32 packets, .int .u32 bytes, .slice a l.length c] 75)).alloc (.cells #[.int .u32 0, .int .i64 0, .int .i64 0, .int .u32 0, .int .u32 0, .int .u32 0, .int .u32 0] 90)) := by go_grown
  have hne : (w.alloc (.cells #[.int .u32 rsrc, .bool isS, .int .i64 clock, .int .u32 time, .int .u32 packets, .int .u32 bytes, .slice a l.length c] 75)).heap.size = w.heap.size + 1 := by simp
  rw [hne] at hY2
  have HR := Lib.hid (fun W (h : Below w.heap.size w W) => hr.later h)
  clear hX1 hne hr
  go_enter Try.func45, Try.ntmps45
  go_upto_region 1 with fail
  generalize (w.alloc (.cells #[.int .u32 rsrc, .bool isS, .int .i64 clock, .int .u32 time, .int .u32 packets, .int .u32 bytes, .slice a l.length c] 75)).alloc (.cells #[.int .u32 0, .int .i64 0, .int .i64 0, .int .u32 0, .int .u32 0, .int .u32 0, .int .u32 0] 90) = w2 at hX2 hY2 hb2 ⊢
  have hgB : w.heap.size ≤ w.heap.size + 1 := by omega
  generalize hg2 : w.heap.size + 1 = g2 at hY2 hgB ⊢
  generalize hg : w.heap.size = g at hX2 hb2 HR hgB ⊢
  have HG := Lib.hid hg
  clear hg2 hg
  obtain ⟨x0, x1, x2, x3, x4, x5, x6⟩ := hX2.cells
  have hgs : g ≤ w2.heap.size := by have := hX2.lt; omega
  go_wp2_with fail
  go_loopw [11] (fun i wr => ∃ k : Nat, k ≤ l.length ∧ i = .int .i64 k ∧ Below g w wr ∧ g ≤ wr.heap.size ∧ At7 90 wr g2 (.int .u32 0) (.int .i64 0) (.int .i64 0) (.int .u32 0) (.int .u32 0) (.int .u32 0) (.int .u32 0) ∧ Hid (firstOf src l = firstOf src (l.drop k))) (fun i _ => l.length - (intOf i).toNat)
  case atStart => exact ⟨0, Nat.zero_le _, rfl, hb2, hgs, hY2, Lib.hid rfl⟩
  case round =>
    obtain ⟨k, hk, rfl, hb3, hg3, hY3, HK⟩ := hrel
    clear hb2 hgs hX2 hY2 x0 x1 x2 x3 x4 x5 x6
    by_cases hlt : k < l.length
    · obtain ⟨ab, off, rfl, x0, x1, x2, x3, x4, x5, x6⟩ := (HR.out _ hb3).at hlt
      have HS := Lib.hid (firstOf_skip src l k hlt)
      have HH := Lib.hid (firstOf_hit src l k hlt)
      generalize l[k]?.getD zeroBK = p at x0 x1 x2 x3 x4 x5 x6 HS HH
      have hba := hb3.alloc hg3 (.cells #[.int .u32 p.src, .int .i64 p.frac, .int .i64 p.lost, .int .u32 p.high, .int .u32 p.jit, .int .u32 p.last, .int .u32 p.delay] 90)
      have hYa := hY3.alloc (.cells #[.int .u32 p.src, .int .i64 p.frac, .int .i64 p.lost, .int .u32 p.high, .int .u32 p.jit, .int .u32 p.last, .int .u32 p.delay] 90)
      have hPa := at7_new 90 wr (.int .u32 p.src) (.int .i64 p.frac) (.int .i64 p.lost) (.int .u32 p.high) (.int .u32 p.jit) (.int .u32 p.last) (.int .u32 p.delay)
      have hga : g ≤ (wr.alloc (.cells #[.int .u32 p.src, .int .i64 p.frac, .int .i64 p.lost, .int .u32 p.high, .int .u32 p.jit, .int .u32 p.last, .int .u32 p.delay] 90)).heap.size := by simp; omega
      have hgp : wr.heap.size ≠ g2 := by have := hY3.lt; omega
      obtain ⟨bs, bf, bl, bh, bj, bt, bd⟩ := p
      simp only at *
      go_upto_region 4 with fail
      generalize wr.alloc (.cells #[.int .u32 bs, .int .i64 bf, .int .i64 bl, .int .u32 bh, .int .u32 bj, .int .u32 bt, .int .u32 bd] 90) = w5 at hba hYa hPa hga ⊢
      generalize wr.heap.size = gp at hPa hgp ⊢
      clear x0 x1 x2 x3 x4 x5 x6 hb3 hY3
      obtain ⟨x0, x1, x2, x3, x4, x5, x6⟩ := hPa.cells
      by_cases he : bs = src
      · have hE := Lib.hid (HK.out.trans (HH.out he))
        have heq : (bs == src) = true := by simpa using he
        clear he
        obtain ⟨f0, f1, f2, f3, f4, f5, f6⟩ := hYa.frees
        obtain ⟨y0, y1, y2, y3, y4, y5, y6⟩ := hYa.cells
        have hYz := at7_store (.int .u32 bs) (.int .i64 bf) (.int .i64 bl) (.int .u32 bh) (.int .u32 bj) (.int .u32 bt) (.int .u32 bd) hYa
        have hoz := store7_only w5 g2 (.int .u32 bs) (.int .i64 bf) (.int .i64 bl) (.int .u32 bh) (.int .u32 bj) (.int .u32 bt) (.int .u32 bd)
        have hbz := hba.trans (hoz.below hgB)
        go_wp2_with fail
        generalize (((((((w5.setCell ⟨g2, 0, none⟩ (.int .u32 bs)).setCell ⟨g2, 1, none⟩ (.int .i64 bf)).setCell ⟨g2, 2, none⟩ (.int .i64 bl)).setCell ⟨g2, 3, none⟩ (.int .u32 bh)).setCell ⟨g2, 4, none⟩ (.int .u32 bj)).setCell ⟨g2, 5, none⟩ (.int .u32 bt)).setCell ⟨g2, 6, none⟩ (.int .u32 bd)) = wz at hYz hoz hbz ⊢
        obtain ⟨d0, d1, d2, d3, d4, d5, d6⟩ := hYz.cells
        clear f0 f1 f2 f3 f4 f5 f6 y0 y1 y2 y3 y4 y5 y6 x0 x1 x2 x3 x4 x5 x6
        refine bodyPost_ret (v := .tuple #[.agg #[.int .u32 bs, .int .i64 bf, .int .i64 bl, .int .u32 bh, .int .u32 bj, .int .u32 bt, .int .u32 bd], .bool true]) (by simp [results, Try.results45, go_sem, d0, d1, d2, d3, d4, d5, d6]) rfl ⟨?_, by rw [HG.out]; exact hbz⟩
        unfold aboutB aboutI
        rw [hE.out]
        rfl
      · have hE := Lib.hid (HK.out.trans (HS.out he))
        have heq : (bs == src) = false := by simpa using he
        clear he
        go_wp2
        go_roundw
        case rel => exact ⟨k + 1, by omega, by go_num, hba, hga, hYa, hE⟩
        case measure => simp [intOf]; omega
    · obtain rfl : k = l.length := by omega
      have hE : Hid (firstOf src l = none) := Lib.hid (by rw [HK.out, List.drop_length]; rfl)
      obtain ⟨f0, f1, f2, f3, f4, f5, f6⟩ := hY3.frees
      obtain ⟨y0, y1, y2, y3, y4, y5, y6⟩ := hY3.cells
      have hYz := at7_store (.int .u32 0) (.int .i64 0) (.int .i64 0) (.int .u32 0) (.int .u32 0) (.int .u32 0) (.int .u32 0) hY3
      have hoz := store7_only wr g2 (.int .u32 0) (.int .i64 0) (.int .i64 0) (.int .u32 0) (.int .u32 0) (.int .u32 0) (.int .u32 0)
      have hbz := hb3.trans (hoz.below hgB)
      go_wp2_with fail
      generalize (((((((wr.setCell ⟨g2, 0, none⟩ (.int .u32 0)).setCell ⟨g2, 1, none⟩ (.int .i64 0)).setCell ⟨g2, 2, none⟩ (.int .i64 0)).setCell ⟨g2, 3, none⟩ (.int .u32 0)).setCell ⟨g2, 4, none⟩ (.int .u32 0)).setCell ⟨g2, 5, none⟩ (.int .u32 0)).setCell ⟨g2, 6, none⟩ (.int .u32 0)) = wz at hYz hoz hbz ⊢
      obtain ⟨d0, d1, d2, d3, d4, d5, d6⟩ := hYz.cells
      clear f0 f1 f2 f3 f4 f5 f6 y0 y1 y2 y3 y4 y5 y6
      refine bodyPost_ret (v := .tuple #[.agg #[.int .u32 0, .int .i64 0, .int .i64 0, .int .u32 0, .int .u32 0, .int .u32 0, .int .u32 0], .bool false]) (by simp [results, Try.results45, go_sem, d0, d1, d2, d3, d4, d5, d6]) rfl ⟨?_, by rw [HG.out]; exact hbz⟩
      unfold aboutB aboutI
      rw [hE.out]
      rfl
end Go.Proofs.Ytimdeohbhiicpaa
