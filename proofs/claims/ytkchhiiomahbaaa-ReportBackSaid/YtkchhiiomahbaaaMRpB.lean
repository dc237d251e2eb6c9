/- report.Block.write. -/
import Derived.Test.YtkchhiiomahbaaaMRpF
import Derived.Test.YtkchhiiomahbaaaMb
import Derived.Test.YtkchhiiomahbaaaMc
import Derived.Deep.RegionHeld3
namespace Go.Proofs.Ytkchhiiomahbaaa
open Go.RowKit
set_option linter.unusedVariables false
theorem u24_g (B b : Nat) (v : Value) (L : List UInt8) (zs : List Int) (cs : Array Value) (n g : Nat) (W0 W : World) (hO : OutAt W0 B b v L) (hb : Below W0.heap.size W0 W) (hblk : W.heap[g]? = some (.cells cs 3 (0, 0))) (hg : g ≠ b) (hcs : cs.toList = zs.map (Value.int .i64)) (hn : n = zs.length) (hL : L.length + zs.length * 3 ≤ 1099511627776) (hl : zs.length ≤ 1099511627776) :
    Calls Try.prog 101 #[.pointer (some ⟨b, 0, none⟩), .slice (some ⟨g, 0, none⟩) n n] W (Wrote B b (L ++ bes zs 3) W) :=
  u24_any B b v L zs _ n n _ (hO.later hb) hn (fun w' _ ho => lit_reads hblk hcs hg (by decide) w' ho) hl hL
theorem At7.oth {W W' : World} {g b : Nat} {c0 c1 c2 c3 c4 c5 c6 : Value} (h : At7 122 W g c0 c1 c2 c3 c4 c5 c6) (hg : g ≠ b) (ho : Others b W W') : At7 122 W' g c0 c1 c2 c3 c4 c5 c6 := ho g _ h hg (by intro cur p e; cases e)
theorem blk_S {W : World} {g : Nat} {c0 c1 c2 c3 c4 c5 c6 : Value} (h : At7 122 W g c0 c1 c2 c3 c4 c5 c6) : W.cell? ⟨g, 0, none⟩ = some c0 ∧ W.cell? ⟨g, 1, none⟩ = some c1 ∧ W.cell? ⟨g, 2, none⟩ = some c2 ∧ W.cell? ⟨g, 3, none⟩ = some c3 ∧ W.cell? ⟨g, 4, none⟩ = some c4 ∧ W.cell? ⟨g, 5, none⟩ = some c5 ∧ W.cell? ⟨g, 6, none⟩ = some c6 ∧ At7 122 W g c0 c1 c2 c3 c4 c5 c6 := by
  obtain ⟨a0, a1, a2, a3, a4, a5, a6⟩ := h.cells
  exact ⟨a0, a1, a2, a3, a4, a5, a6, h⟩
theorem bkL_bes (L : List UInt8) (src frac lost high jit last delay : Int) : L ++ bes [src] 4 ++ bes [frac] 1 ++ bes [lost] 3 ++ bes [high, jit, last, delay] 4 = L ++ bkL ⟨src, frac, lost, high, jit, last, delay⟩ := by
  unfold bkL
  simp [bes]
set_option maxRecDepth 100000 in
set_option maxHeartbeats 6400000 in
theorem blkWrite_any (p : BK) (B b : Nat) (v : Value) (L : List UInt8) (w : World) (hO : OutAt w B b v L) (hL : L.length ≤ 1000000) :
    Calls Try.prog 68 #[.agg #[.int .u32 p.src, .int .i64 p.frac, .int .i64 p.lost, .int .u32 p.high, .int .u32 p.jit, .int .u32 p.last, .int .u32 p.delay], .pointer (some ⟨b, 0, none⟩)] w (WroteH B b (L ++ bkL p) w) := by
  obtain ⟨src, frac, lost, high, jit, last, delay⟩ := p
  simp only
  have HL := Lib.hid (bkL_bes L src frac lost high jit last delay)
  have hbB := hO.2.1
  have hlt := hO.lt
  have hX3 := at7_new 122 w (.int .u32 src) (.int .i64 frac) (.int .i64 lost) (.int .u32 high) (.int .u32 jit) (.int .u32 last) (.int .u32 delay)
  have hO3 := hO.alloc (.cells #[.int .u32 src, .int .i64 frac, .int .i64 lost, .int .u32 high, .int .u32 jit, .int .u32 last, .int .u32 delay] 122)
  have hb3 : Below B w (w.alloc (.cells #[.int .u32 src, .int .i64 frac, .int .i64 lost, .int .u32 high, .int .u32 jit, .int .u32 last, .int .u32 delay] 122)) := (Below.refl _ _).alloc (by omega) _
  have hq3 : Others b w (w.alloc (.cells #[.int .u32 src, .int .i64 frac, .int .i64 lost, .int .u32 high, .int .u32 jit, .int .u32 last, .int .u32 delay] 122)) := (Others.refl _ _).alloc _
  have hgb : w.heap.size ≠ b := by omega
  go_enter Try.func68, Try.ntmps68
  go_upto_region 1 with fail
  generalize w.alloc (.cells #[.int .u32 src, .int .i64 frac, .int .i64 lost, .int .u32 high, .int .u32 jit, .int .u32 last, .int .u32 delay] 122) = w3 at hX3 hO3 hb3 hq3 ⊢
  generalize w.heap.size = g at hX3 hgb ⊢
  clear hO hlt
  have hg3 := hX3.lt
  have q3 := hO3.lt
  have hq3 := Lib.hid hq3
  obtain ⟨c0, c1, c2, c3, c4, c5, c6⟩ := hX3.cells
  have tok1 : True := trivial
  go_region_held3 (fun W => W.cell? ⟨g, 0, none⟩ = some (.int .u32 src) ∧ W.cell? ⟨g, 1, none⟩ = some (.int .i64 frac) ∧ W.cell? ⟨g, 2, none⟩ = some (.int .i64 lost) ∧ W.cell? ⟨g, 3, none⟩ = some (.int .u32 high) ∧ W.cell? ⟨g, 4, none⟩ = some (.int .u32 jit) ∧ W.cell? ⟨g, 5, none⟩ = some (.int .u32 last) ∧ W.cell? ⟨g, 6, none⟩ = some (.int .u32 delay) ∧ At7 122 W g (.int .u32 src) (.int .i64 frac) (.int .i64 lost) (.int .u32 high) (.int .u32 jit) (.int .u32 last) (.int .u32 delay)) (first | (go_keep; done) | exact blk_S (At7.drew (by go_split_ands; assumption)) | exact blk_S (At7.alloc (by go_split_ands; assumption) _) | exact blk_S (At7.oth (by go_split_ands; assumption) hgb (by assumption)) | (go_split_ands; assumption)) (first | (have _t := tok1; go_at_call 66; refine (u32_g B b v (L) [src] #[.int .u32 src] 1 _ w3 _ hO3 ?x1 ?x2 ?x3 rfl rfl ?x4 ?x5).mono ?_; (case x1 => go_grown); (case x2 => (repeat (first | with_reducible refine heap_at_drew ?_ | with_reducible exact heap_at_new _ _ _ (by first | rfl | (simp; done)) | with_reducible refine heap_at_old _ _ _ _ ?_))); (case x3 => first | omega | (simp; done) | (simp; omega)); (case x4 => simp; omega); (case x5 => simp; done); rintro e w4 ⟨rfl, v4, hO4, h4, ho4⟩; have q4 := hO4.lt; have hb4 : Below B w w4 := Below.trans (by repeat (first | with_reducible exact hb3 | with_reducible refine Below.drew ?_ | with_reducible refine Below.alloc ?_ (by first | omega | (simp; omega)) _)) h4; have hq4 : Hid (Others b w w4) := Lib.hid (Others.trans (by repeat (first | with_reducible exact hq3.out | with_reducible refine Others.drew ?_ | with_reducible refine Others.alloc ?_ _)) ho4); clear tok1) | (go_at_call 82; refine (u8_g B b v4 (L ++ bes [src] 4) [frac] #[.int .i64 frac] 1 _ w4 _ hO4 ?x1 ?x2 ?x3 rfl rfl ?x4 ?x5).mono ?_; (case x1 => go_grown); (case x2 => (repeat (first | with_reducible refine heap_at_drew ?_ | with_reducible exact heap_at_new _ _ _ (by first | rfl | (simp; done)) | with_reducible refine heap_at_old _ _ _ _ ?_ | (refine ho4 _ _ ?_ (by first | omega | (simp; omega)) (by intro cur p e; cases e))))); (case x3 => first | omega | (simp; done) | (simp; omega)); (case x4 => simp [bes_len]; omega); (case x5 => simp; done); rintro e w5 ⟨rfl, v5, hO5, h5, ho5⟩; have q5 := hO5.lt; have hb5 : Below B w w5 := Below.trans (by repeat (first | with_reducible exact hb4 | with_reducible refine Below.drew ?_ | with_reducible refine Below.alloc ?_ (by first | omega | (simp; omega)) _)) h5; have hq5 : Hid (Others b w w5) := Lib.hid (Others.trans (by repeat (first | with_reducible exact hq4.out | with_reducible refine Others.drew ?_ | with_reducible refine Others.alloc ?_ _)) ho5)) | (go_at_call 101; refine (u24_g B b v5 (L ++ bes [src] 4 ++ bes [frac] 1) [lost] #[.int .i64 lost] 1 _ w5 _ hO5 ?x1 ?x2 ?x3 rfl rfl ?x4 ?x5).mono ?_; (case x1 => go_grown); (case x2 => (repeat (first | with_reducible refine heap_at_drew ?_ | with_reducible exact heap_at_new _ _ _ (by first | rfl | (simp; done)) | with_reducible refine heap_at_old _ _ _ _ ?_ | (refine ho5 _ _ ?_ (by first | omega | (simp; omega)) (by intro cur p e; cases e)) | (refine ho4 _ _ ?_ (by first | omega | (simp; omega)) (by intro cur p e; cases e))))); (case x3 => first | omega | (simp; done) | (simp; omega)); (case x4 => simp [bes_len]; omega); (case x5 => simp; done); rintro e w6 ⟨rfl, v6, hO6, h6, ho6⟩; have q6 := hO6.lt; have hb6 : Below B w w6 := Below.trans (by repeat (first | with_reducible exact hb5 | with_reducible refine Below.drew ?_ | with_reducible refine Below.alloc ?_ (by first | omega | (simp; omega)) _)) h6; have hq6 : Hid (Others b w w6) := Lib.hid (Others.trans (by repeat (first | with_reducible exact hq5.out | with_reducible refine Others.drew ?_ | with_reducible refine Others.alloc ?_ _)) ho6)) | (go_at_call 66; refine (u32_g B b v6 (L ++ bes [src] 4 ++ bes [frac] 1 ++ bes [lost] 3) [high, jit, last, delay] #[.int .u32 high, .int .u32 jit, .int .u32 last, .int .u32 delay] 4 _ w6 _ hO6 ?x1 ?x2 ?x3 rfl rfl ?x4 ?x5).mono ?_; (case x1 => go_grown); (case x2 => (repeat (first | with_reducible refine heap_at_drew ?_ | with_reducible exact heap_at_new _ _ _ (by first | rfl | (simp; done)) | with_reducible refine heap_at_old _ _ _ _ ?_ | (refine ho6 _ _ ?_ (by first | omega | (simp; omega)) (by intro cur p e; cases e)) | (refine ho5 _ _ ?_ (by first | omega | (simp; omega)) (by intro cur p e; cases e)) | (refine ho4 _ _ ?_ (by first | omega | (simp; omega)) (by intro cur p e; cases e))))); (case x3 => first | omega | (simp; done) | (simp; omega)); (case x4 => simp [bes_len]; omega); (case x5 => simp; done); rintro e w7 ⟨rfl, v7, hO7, h7, ho7⟩; have q7 := hO7.lt; have hb7 : Below B w w7 := Below.trans (by repeat (first | with_reducible exact hb6 | with_reducible refine Below.drew ?_ | with_reducible refine Below.alloc ?_ (by first | omega | (simp; omega)) _)) h7; have hq7 : Hid (Others b w w7) := Lib.hid (Others.trans (by repeat (first | with_reducible exact hq6.out | with_reducible refine Others.drew ?_ | with_reducible refine Others.alloc ?_ _)) ho7)))
  all_goals
    rw [HL.out] at hO7
    go_wp2
    go_end0
    exact ⟨rfl, v7, hO7, hb7, hq7.out⟩
end Go.Proofs.Ytkchhiiomahbaaa

