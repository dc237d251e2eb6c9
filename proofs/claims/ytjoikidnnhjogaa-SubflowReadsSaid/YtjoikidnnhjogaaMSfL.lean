/- subflow.Line: path, mayBe, write. -/
import Derived.Test.YtjoikidnnhjogaaMSfK
import Derived.Test.YtjoikidnnhjogaaMb
import Derived.Test.YtjoikidnnhjogaaMc
import Derived.Deep.RegionHeld3
namespace Go.Proofs.Ytjoikidnnhjogaa
open Go.RowKit
set_option linter.unusedVariables false
theorem liPath_any (p : LI) (w : World) : Calls Try.prog 153 #[.agg #[.int .i64 p.path, .int .i64 p.frac, .int .i64 p.lost, .int .u32 p.high, .int .u32 p.jit, .int .u32 p.bytes, .int .u32 p.last, .int .u32 p.delay]] w fun e w' => e = .returned (.int .i64 p.path) ∧ Below w.heap.size w w' := by
  obtain ⟨path, frac, lost, high, jit, bytes, last, delay⟩ := p
  simp only
  have hX1 := atC_new 128 w #[.int .i64 path, .int .i64 frac, .int .i64 lost, .int .u32 high, .int .u32 jit, .int .u32 bytes, .int .u32 last, .int .u32 delay]
  have hb1 : Below w.heap.size w (w.alloc (.cells #[.int .i64 path, .int .i64 frac, .int .i64 lost, .int .u32 high, .int .u32 jit, .int .u32 bytes, .int .u32 last, .int .u32 delay] 128)) := (Below.refl _ _).alloc (Nat.le_refl _) _
  obtain ⟨x0, x1, x2, x3, x4, x5, x6, x7⟩ := hX1.cells8
  go_enter Try.func153, Try.ntmps153
  go_wp2
  go_ret
  exact ⟨rfl, hb1⟩
theorem liMay_any (p : LI) (w : World) (b : Bool) (hb : b = true ↔ liOk p) : Calls Try.prog 152 #[.agg #[.int .i64 p.path, .int .i64 p.frac, .int .i64 p.lost, .int .u32 p.high, .int .u32 p.jit, .int .u32 p.bytes, .int .u32 p.last, .int .u32 p.delay]] w fun e w' => e = .returned (.bool b) ∧ Below w.heap.size w w' := by
  obtain ⟨path, frac, lost, high, jit, bytes, last, delay⟩ := p
  unfold liOk at hb
  simp only at hb ⊢
  have hX1 := atC_new 128 w #[.int .i64 path, .int .i64 frac, .int .i64 lost, .int .u32 high, .int .u32 jit, .int .u32 bytes, .int .u32 last, .int .u32 delay]
  have hb1 : Below w.heap.size w (w.alloc (.cells #[.int .i64 path, .int .i64 frac, .int .i64 lost, .int .u32 high, .int .u32 jit, .int .u32 bytes, .int .u32 last, .int .u32 delay] 128)) := (Below.refl _ _).alloc (Nat.le_refl _) _
  obtain ⟨x0, x1, x2, x3, x4, x5, x6, x7⟩ := hX1.cells8
  by_cases h0 : 0 ≤ frac
  · by_cases h1 : frac ≤ 255
    · by_cases h2 : -8388608 ≤ lost
      · by_cases h3 : lost ≤ 8388607
        · obtain rfl : b = true := hb.2 ⟨h0, h1, h2, h3⟩
          clear hb
          go_enter Try.func152, Try.ntmps152
          go_wp2
          go_ret
          exact ⟨rfl, hb1⟩
        · obtain rfl : b = false := by cases b with | false => rfl | true => exact absurd (hb.1 rfl).2.2.2 h3
          clear hb
          go_enter Try.func152, Try.ntmps152
          go_wp2
          go_ret
          exact ⟨rfl, hb1⟩
      · obtain rfl : b = false := by cases b with | false => rfl | true => exact absurd (hb.1 rfl).2.2.1 h2
        clear hb
        go_enter Try.func152, Try.ntmps152
        go_wp2
        go_ret
        exact ⟨rfl, hb1⟩
    · obtain rfl : b = false := by cases b with | false => rfl | true => exact absurd (hb.1 rfl).2.1 h1
      clear hb
      go_enter Try.func152, Try.ntmps152
      go_wp2
      go_ret
      exact ⟨rfl, hb1⟩
  · obtain rfl : b = false := by cases b with | false => rfl | true => exact absurd (hb.1 rfl).1 h0
    clear hb
    go_enter Try.func152, Try.ntmps152
    go_wp2
    go_ret
    exact ⟨rfl, hb1⟩
theorem u24_gS (B b : Nat) (v : Value) (L : List UInt8) (zs : List Int) (cs : Array Value) (n g : Nat) (W0 W : World) (hO : OutAt W0 B b v L) (hb : Below W0.heap.size W0 W) (hblk : W.heap[g]? = some (.cells cs 3 (0, 0))) (hg : g ≠ b) (hcs : cs.toList = zs.map (Value.int .i64)) (hn : n = zs.length) (hL : L.length + zs.length * 3 ≤ 1099511627776) (hl : zs.length ≤ 1099511627776) :
    Calls Try.prog 101 #[.pointer (some ⟨b, 0, none⟩), .slice (some ⟨g, 0, none⟩) n n] W (Wrote B b (L ++ bes zs 3) W) :=
  u24_any B b v L zs _ n n _ (hO.later hb) hn (fun w' _ ho => lit_reads hblk hcs hg (by decide) w' ho) hl hL
theorem li_S {W : World} {g : Nat} {c0 c1 c2 c3 c4 c5 c6 c7 : Value} (h : AtC 128 W g #[c0, c1, c2, c3, c4, c5, c6, c7]) : W.cell? ⟨g, 0, none⟩ = some c0 ∧ W.cell? ⟨g, 1, none⟩ = some c1 ∧ W.cell? ⟨g, 2, none⟩ = some c2 ∧ AtC 128 W g #[c0, c1, c2, c3, c4, c5, c6, c7] := by
  obtain ⟨a0, a1, a2, _⟩ := h.cells8
  exact ⟨a0, a1, a2, h⟩
set_option maxRecDepth 100000 in
set_option maxHeartbeats 12800000 in
theorem liWrite_any (p : LI) (B b : Nat) (v : Value) (L : List UInt8) (w : World) (hO : OutAt w B b v L) (hL : L.length ≤ 1000000) :
    Calls Try.prog 62 #[.agg #[.int .i64 p.path, .int .i64 p.frac, .int .i64 p.lost, .int .u32 p.high, .int .u32 p.jit, .int .u32 p.bytes, .int .u32 p.last, .int .u32 p.delay], .pointer (some ⟨b, 0, none⟩)] w (WroteH B b (L ++ liL p) w) := by
  have HL := Lib.hid (li_bes L p)
  obtain ⟨path, frac, lost, high, jit, bytes, last, delay⟩ := p
  simp only at HL ⊢
  have hbB := hO.2.1
  have hlt := hO.lt
  have hX3 := atC_new 128 w #[.int .i64 path, .int .i64 frac, .int .i64 lost, .int .u32 high, .int .u32 jit, .int .u32 bytes, .int .u32 last, .int .u32 delay]
  have hO3 := hO.alloc (.cells #[.int .i64 path, .int .i64 frac, .int .i64 lost, .int .u32 high, .int .u32 jit, .int .u32 bytes, .int .u32 last, .int .u32 delay] 128)
  have hb3 : Below B w (w.alloc (.cells #[.int .i64 path, .int .i64 frac, .int .i64 lost, .int .u32 high, .int .u32 jit, .int .u32 bytes, .int .u32 last, .int .u32 delay] 128)) := (Below.refl _ _).alloc (by omega) _
  have hq3 : Others b w (w.alloc (.cells #[.int .i64 path, .int .i64 frac, .int .i64 lost, .int .u32 high, .int .u32 jit, .int .u32 bytes, .int .u32 last, .int .u32 delay] 128)) := (Others.refl _ _).alloc _
  have hgb : w.heap.size ≠ b := by omega
  go_enter Try.func62, Try.ntmps62
  go_upto_region 1 with fail
  generalize w.alloc (.cells #[.int .i64 path, .int .i64 frac, .int .i64 lost, .int .u32 high, .int .u32 jit, .int .u32 bytes, .int .u32 last, .int .u32 delay] 128) = w3 at hX3 hO3 hb3 hq3 ⊢
  generalize w.heap.size = g at hX3 hgb ⊢
  clear hO hlt
  have hg3 := hX3.lt
  have q3 := hO3.lt
  have hq3 := Lib.hid hq3
  obtain ⟨c0, c1, c2, c3, c4, c5, c6, c7⟩ := hX3.cells8
  have tok1 : True := trivial
  go_cut [18] (fun z wx => ∃ v8, OutAt wx B b v8 (L ++ bes [path, frac] 1 ++ bes [0] 2 ++ bes [lost] 3 ++ bes [0] 1) ∧ AtC 128 wx g #[.int .i64 path, .int .i64 frac, .int .i64 lost, .int .u32 high, .int .u32 jit, .int .u32 bytes, .int .u32 last, .int .u32 delay] ∧ Below B w wx ∧ Hid (Others b w wx))
  case first =>
    go_region_held3 (fun W => W.cell? ⟨g, 0, none⟩ = some (.int .i64 path) ∧ W.cell? ⟨g, 1, none⟩ = some (.int .i64 frac) ∧ W.cell? ⟨g, 2, none⟩ = some (.int .i64 lost) ∧ AtC 128 W g #[.int .i64 path, .int .i64 frac, .int .i64 lost, .int .u32 high, .int .u32 jit, .int .u32 bytes, .int .u32 last, .int .u32 delay]) (first | (go_keep; done) | exact li_S (AtC.drew (by go_split_ands; assumption)) | exact li_S (AtC.alloc (by go_split_ands; assumption) _) | exact li_S (AtC.oth (by go_split_ands; assumption) (by decide) (by assumption) hgb) | (go_split_ands; assumption)) (first | (have _t := tok1; go_at_call 66; refine (u8_g B b v (L) [path, frac] #[.int .i64 path, .int .i64 frac] 2 _ w3 _ hO3 ?x1 ?x2 ?x3 rfl rfl ?x4 ?x5).mono ?_; (case x1 => go_grown); (case x2 => (repeat (first | with_reducible refine heap_at_drew ?_ | (with_reducible refine heap_at_new _ _ _ ?_; first | rfl | (simp; done)) | with_reducible refine heap_at_old _ _ _ _ ?_))); (case x3 => first | omega | (simp; done) | (simp; omega)); (case x4 => simp; omega); (case x5 => simp; done); rintro e w5 ⟨rfl, v5, hO5, h5, ho5⟩; have q5 := hO5.lt; have hb5 : Below B w w5 := Below.trans (by repeat (first | with_reducible exact hb3 | with_reducible refine Below.drew ?_ | with_reducible refine Below.alloc ?_ (by first | omega | (simp; omega)) _)) h5; have hq5 : Hid (Others b w w5) := Lib.hid (Others.trans (by repeat (first | with_reducible exact hq3.out | with_reducible refine Others.drew ?_ | with_reducible refine Others.alloc ?_ _)) ho5); clear tok1) | (go_at_call 92; refine (u16_g B b v5 (L ++ bes [path, frac] 1) [0] #[.int .i64 0] 1 _ w5 _ hO5 ?x1 ?x2 ?x3 rfl rfl ?x4 ?x5).mono ?_; (case x1 => go_grown); (case x2 => (repeat (first | with_reducible refine heap_at_drew ?_ | (with_reducible refine heap_at_new _ _ _ ?_; first | rfl | (simp; done)) | with_reducible refine heap_at_old _ _ _ _ ?_ | (refine ho5 _ _ ?_ (by first | omega | (simp; omega)) (by intro cur p e; cases e))))); (case x3 => first | omega | (simp; done) | (simp; omega)); (case x4 => simp [bes_len]; omega); (case x5 => simp; done); rintro e w6 ⟨rfl, v6, hO6, h6, ho6⟩; have q6 := hO6.lt; have hb6 : Below B w w6 := Below.trans (by repeat (first | with_reducible exact hb5 | with_reducible refine Below.drew ?_ | with_reducible refine Below.alloc ?_ (by first | omega | (simp; omega)) _)) h6; have hq6 : Hid (Others b w w6) := Lib.hid (Others.trans (by repeat (first | with_reducible exact hq5.out | with_reducible refine Others.drew ?_ | with_reducible refine Others.alloc ?_ _)) ho6)) | (go_at_call 101; refine (u24_gS B b v6 (L ++ bes [path, frac] 1 ++ bes [0] 2) [lost] #[.int .i64 lost] 1 _ w6 _ hO6 ?x1 ?x2 ?x3 rfl rfl ?x4 ?x5).mono ?_; (case x1 => go_grown); (case x2 => (repeat (first | with_reducible refine heap_at_drew ?_ | (with_reducible refine heap_at_new _ _ _ ?_; first | rfl | (simp; done)) | with_reducible refine heap_at_old _ _ _ _ ?_ | (refine ho6 _ _ ?_ (by first | omega | (simp; omega)) (by intro cur p e; cases e)) | (refine ho5 _ _ ?_ (by first | omega | (simp; omega)) (by intro cur p e; cases e))))); (case x3 => first | omega | (simp; done) | (simp; omega)); (case x4 => simp [bes_len]; omega); (case x5 => simp; done); rintro e w7 ⟨rfl, v7, hO7, h7, ho7⟩; have q7 := hO7.lt; have hb7 : Below B w w7 := Below.trans (by repeat (first | with_reducible exact hb6 | with_reducible refine Below.drew ?_ | with_reducible refine Below.alloc ?_ (by first | omega | (simp; omega)) _)) h7; have hq7 : Hid (Others b w w7) := Lib.hid (Others.trans (by repeat (first | with_reducible exact hq6.out | with_reducible refine Others.drew ?_ | with_reducible refine Others.alloc ?_ _)) ho7)) | (go_at_call 66; refine (u8_g B b v7 (L ++ bes [path, frac] 1 ++ bes [0] 2 ++ bes [lost] 3) [0] #[.int .i64 0] 1 _ w7 _ hO7 ?x1 ?x2 ?x3 rfl rfl ?x4 ?x5).mono ?_; (case x1 => go_grown); (case x2 => (repeat (first | with_reducible refine heap_at_drew ?_ | (with_reducible refine heap_at_new _ _ _ ?_; first | rfl | (simp; done)) | with_reducible refine heap_at_old _ _ _ _ ?_ | (refine ho7 _ _ ?_ (by first | omega | (simp; omega)) (by intro cur p e; cases e)) | (refine ho6 _ _ ?_ (by first | omega | (simp; omega)) (by intro cur p e; cases e)) | (refine ho5 _ _ ?_ (by first | omega | (simp; omega)) (by intro cur p e; cases e))))); (case x3 => first | omega | (simp; done) | (simp; omega)); (case x4 => simp [bes_len]; omega); (case x5 => simp; done); rintro e w8 ⟨rfl, v8, hO8, h8, ho8⟩; have q8 := hO8.lt; have hb8 : Below B w w8 := Below.trans (by repeat (first | with_reducible exact hb7 | with_reducible refine Below.drew ?_ | with_reducible refine Below.alloc ?_ (by first | omega | (simp; omega)) _)) h8; have hq8 : Hid (Others b w w8) := Lib.hid (Others.trans (by repeat (first | with_reducible exact hq7.out | with_reducible refine Others.drew ?_ | with_reducible refine Others.alloc ?_ _)) ho8)))
    all_goals
      go_wp2_with fail
      go_meet
      exact ⟨v8, hO8, by (first | assumption | (go_split_ands; assumption)), hb8, hq8⟩
  case rest =>
  obtain ⟨v8, hO8, hX8, hb8, hq8⟩ := hcut
  rename World => w8
  clear hX3 hO3 hb3 hq3 hg3 q3 c0 c1 c2 c3 c4 c5 c6 c7 tok1
  have q8 := hO8.lt
  have hq8' := hq8.out
  have g8 := hX8.lt
  obtain ⟨c0, c1, c2, c3, c4, c5, c6, c7⟩ := hX8.cells8
  have hL8 : (L ++ bes [path, frac] 1 ++ bes [0] 2 ++ bes [lost] 3 ++ bes [0] 1).length ≤ 2000000 := by simp [bes_len]; omega
  generalize L ++ bes [path, frac] 1 ++ bes [0] 2 ++ bes [lost] 3 ++ bes [0] 1 = L8 at hO8 HL hL8
  go_wp2_with fail
  refine (u32_g B b v8 L8 [high, jit, bytes, last, delay] #[.int .u32 high, .int .u32 jit, .int .u32 bytes, .int .u32 last, .int .u32 delay] 5 w8.heap.size w8 _ hO8 ?x1 ?x2 ?x3 rfl rfl ?x4 ?x5).mono ?_
  case x1 => go_grown
  case x2 => exact heap_alloc_new _ _
  case x3 => omega
  case x4 => simp; omega
  case x5 => simp
  rintro e w9 ⟨rfl, v9, hO9, h9, ho9⟩
  rw [HL.out] at hO9
  have hb9 : Below B w w9 := Below.trans (hb8.alloc (by omega) _) h9
  have hq9 : Others b w w9 := Others.trans (hq8'.alloc _) ho9
  go_wp2
  go_end0
  exact ⟨rfl, v9, hO9, hb9, hq9⟩
end Go.Proofs.Ytjoikidnnhjogaa

