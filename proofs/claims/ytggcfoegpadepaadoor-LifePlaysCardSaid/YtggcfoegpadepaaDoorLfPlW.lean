/- LifePlays: the walk. -/
import Derived.Test.YtggcfoegpadepaaDoorLfM2
namespace Go.Proofs.YtggcfoegpadepaaDoor
open Go.RowKit
set_option linter.unusedVariables false
theorem lpS {T0 T1 T2 T3 T4 : TypeId} {W w : World} {B g0 g1 g2 g3 g4 : Nat} {c0 c1 c2 c3 l0 l1 l2 a0 a1 a2 b0 b1 b2 e0 e1 e2 : Value} (h0 : At4 T0 W g0 c0 c1 c2 c3) (h1 : At3 T1 W g1 l0 l1 l2) (h2 : At3 T2 W g2 a0 a1 a2) (h3 : At3 T3 W g3 b0 b1 b2) (h4 : At3 T4 W g4 e0 e1 e2) (hb : Below B w W) :
    W.cell? ⟨g2, 0, none⟩ = some a0 ∧ W.cell? ⟨g2, 1, none⟩ = some a1 ∧ W.cell? ⟨g2, 2, none⟩ = some a2 ∧ W.cell? ⟨g3, 0, none⟩ = some b0 ∧ W.cell? ⟨g3, 1, none⟩ = some b1 ∧ W.cell? ⟨g3, 2, none⟩ = some b2 ∧ W.cell? ⟨g4, 1, none⟩ = some e1 ∧ At4 T0 W g0 c0 c1 c2 c3 ∧ At3 T1 W g1 l0 l1 l2 ∧ At3 T2 W g2 a0 a1 a2 ∧ At3 T3 W g3 b0 b1 b2 ∧ At3 T4 W g4 e0 e1 e2 ∧ Below B w W :=
  ⟨h2.cells.1, h2.cells.2.1, h2.cells.2.2, h3.cells.1, h3.cells.2.1, h3.cells.2.2, h4.cells.2.1, h0, h1, h2, h3, h4, hb⟩
theorem lpS' {T0 T1 T2 T3 T4 : TypeId} {W W' w : World} {B g0 g1 g2 g3 g4 : Nat} {c0 c1 c2 c3 l0 l1 l2 a0 a1 a2 b0 b1 b2 e0 e1 e2 : Value} (hB : B ≤ g0) (h0 : At4 T0 W g0 c0 c1 c2 c3) (h1 : At3 T1 W g1 l0 l1 l2) (h2 : At3 T2 W g2 a0 a1 a2) (h3 : At3 T3 W g3 b0 b1 b2) (h4 : At3 T4 W g4 e0 e1 e2) (hb : Below B w W) (k : Below W.heap.size W W') :
    W'.cell? ⟨g2, 0, none⟩ = some a0 ∧ W'.cell? ⟨g2, 1, none⟩ = some a1 ∧ W'.cell? ⟨g2, 2, none⟩ = some a2 ∧ W'.cell? ⟨g3, 0, none⟩ = some b0 ∧ W'.cell? ⟨g3, 1, none⟩ = some b1 ∧ W'.cell? ⟨g3, 2, none⟩ = some b2 ∧ W'.cell? ⟨g4, 1, none⟩ = some e1 ∧ At4 T0 W' g0 c0 c1 c2 c3 ∧ At3 T1 W' g1 l0 l1 l2 ∧ At3 T2 W' g2 a0 a1 a2 ∧ At3 T3 W' g3 b0 b1 b2 ∧ At3 T4 W' g4 e0 e1 e2 ∧ Below B w W' :=
  lpS (h0.later k) (h1.later k) (h2.later k) (h3.later k) (h4.later k) (hb.trans (k.mono (by have := h0.lt; omega)))
theorem lpZ {T0 T1 : TypeId} {W w : World} {B g0 g1 : Nat} {c0 c1 c2 c3 l0 l1 l2 : Value} (h0 : At4 T0 W g0 c0 c1 c2 c3) (h1 : At3 T1 W g1 l0 l1 l2) (hb : Below B w W) :
    W.cell? ⟨g0, 0, none⟩ = some c0 ∧ W.cell? ⟨g0, 1, none⟩ = some c1 ∧ W.cell? ⟨g0, 2, none⟩ = some c2 ∧ W.cell? ⟨g0, 3, none⟩ = some c3 ∧ W.cell? ⟨g1, 0, none⟩ = some l0 ∧ W.cell? ⟨g1, 1, none⟩ = some l1 ∧ W.cell? ⟨g1, 2, none⟩ = some l2 ∧ At4 T0 W g0 c0 c1 c2 c3 ∧ At3 T1 W g1 l0 l1 l2 ∧ Below B w W :=
  ⟨h0.cells.1, h0.cells.2.1, h0.cells.2.2.1, h0.cells.2.2.2, h1.cells.1, h1.cells.2.1, h1.cells.2.2, h0, h1, hb⟩
theorem lpZ' {T0 T1 : TypeId} {W W' w : World} {B g0 g1 : Nat} {c0 c1 c2 c3 l0 l1 l2 : Value} (hB : B ≤ g0) (h0 : At4 T0 W g0 c0 c1 c2 c3) (h1 : At3 T1 W g1 l0 l1 l2) (hb : Below B w W) (k : Below W.heap.size W W') :
    W'.cell? ⟨g0, 0, none⟩ = some c0 ∧ W'.cell? ⟨g0, 1, none⟩ = some c1 ∧ W'.cell? ⟨g0, 2, none⟩ = some c2 ∧ W'.cell? ⟨g0, 3, none⟩ = some c3 ∧ W'.cell? ⟨g1, 0, none⟩ = some l0 ∧ W'.cell? ⟨g1, 1, none⟩ = some l1 ∧ W'.cell? ⟨g1, 2, none⟩ = some l2 ∧ At4 T0 W' g0 c0 c1 c2 c3 ∧ At3 T1 W' g1 l0 l1 l2 ∧ Below B w W' :=
  lpZ (h0.later k) (h1.later k) (hb.trans (k.mono (by have := h0.lt; omega)))
namespace lifePlays
set_option maxRecDepth 100000 in
set_option maxHeartbeats 6400000 in
theorem walk (c0 c1 c2 c3 l0 l1 l2 : Int) (p2 : Option Addr) (len2 cap2 : Nat) (w00 : (Lit.int .i64 c0).wf = true) (w01 : (Lit.int .i64 c1).wf = true) (w02 : (Lit.int .i64 c2).wf = true) (w03 : (Lit.int .i64 c3).wf = true) (w10 : (Lit.int .i64 l0).wf = true) (w11 : (Lit.int .i64 l1).wf = true) (w12 : (Lit.int .i64 l2).wf = true) (w : World) (wr2 : Recs lfActP w p2 len2) (hl : len2 ≤ 9223372036854775807) (htb : Tb w) (htd : Td w) :
    Calls Tryd.prog 3 #[.agg #[.int .i64 c0, .int .i64 c1, .int .i64 c2, .int .i64 c3], .agg #[.int .i64 l0, .int .i64 l1, .int .i64 l2], .slice p2 len2 cap2] w fun e w' => e = .returned (.bool true) ∧ Below w.heap.size w w' := by
  clear w00 w01 w02 w03 w10 w11 w12
  have HTB := Lib.hid (fun (W : World) (hb : Below w.heap.size w W) => htb.later hb)
  have HTD := Lib.hid (fun (W : World) (hb : Below w.heap.size w W) => htd.later hb)
  have HACT := Lib.hid (fun (k : Nat) (hk : k < len2) (W : World) (hb : Below w.heap.size w W) => lfAct_at wr2 hb hk)
  have HA := Lib.hid (fun (W : World) (hb : Below w.heap.size w W) => lfAwake_any W (htb.later hb))
  have HCl := Lib.hid (fun W => lfClip_any ⟨c0, c1, c2, c3⟩ W)
  have HCr := Lib.hid (fun W => refLfClip_any ⟨c0, c1, c2, c3⟩ W)
  have HW := Lib.hid (fun (W : World) (hb : Below w.heap.size w W) => weight_any ⟨l0, l1, l2⟩ 100 W (htd.later hb))
  have HWr := Lib.hid (fun (W : World) => refWeight_any ⟨l0, l1, l2⟩ 100 W)
  have HB := Lib.hid (fun (t : LL) (f now : Int) (ns hs ks : Int) (h : t.act ⟨c0, c1, c2, c3⟩ true f now = ⟨ns, hs, ks⟩) => rep_both t ⟨c0, c1, c2, c3⟩ f now ns hs ks h)
  have HT := Lib.hid (fun (t : LL) (f now : Int) (ns hs ks : Int) (h : t.act ⟨c0, c1, c2, c3⟩ false f now = ⟨ns, hs, ks⟩) => tick_both t ⟨c0, c1, c2, c3⟩ f now ns hs ks h)
  have HOK := Lib.hid (fun (t : LL) (rp : Bool) (f now : Int) => LL.act_ok t ⟨c0, c1, c2, c3⟩ rp f now)
  have HACTS : Hid (∀ (t : LL) (rp : Bool) (f now : Int), ∃ ns hs ks, t.act ⟨c0, c1, c2, c3⟩ rp f now = ⟨ns, hs, ks⟩) := Lib.hid (fun t rp f now => ⟨_, _, _, rfl⟩)
  clear htb htd wr2
  generalize (LC.clip ⟨c0, c1, c2, c3⟩) = cq at HCl HCr
  generalize wgt (LL.cnt ⟨l0, l1, l2⟩).s (am 1 100 65535) = wq at HW HWr
  obtain ⟨k0, k1, k2, k3⟩ := cq
  simp only [LL.val, LC.val] at HCl HCr HW HWr
  have hmask : ∀ z : Int, bits .and .i64 z 65535 = z % 65536 := fun z => i64_mask z 16 (by omega)
  have hm0 : 0 ≤ max 0 (min l1 549755813888) := by omega
  have hm1 : max 0 (min l1 549755813888) ≤ 549755813888 := by omega
  generalize hmm : max 0 (min l1 549755813888) = m0 at hm0 hm1
  have hX0 : At4 23 ((w.alloc (.cells #[.int .i64 c0, .int .i64 c1, .int .i64 c2, .int .i64 c3] 23)).alloc (.cells #[.int .i64 l0, .int .i64 l1, .int .i64 l2] 25)) w.heap.size (.int .i64 c0) (.int .i64 c1) (.int .i64 c2) (.int .i64 c3) := (at4_new 23 _ _ (.int .i64 c0) (.int .i64 c1) (.int .i64 c2) (.int .i64 c3) rfl).alloc _
  have hX1 : At3 25 ((w.alloc (.cells #[.int .i64 c0, .int .i64 c1, .int .i64 c2, .int .i64 c3] 23)).alloc (.cells #[.int .i64 l0, .int .i64 l1, .int .i64 l2] 25)) (w.heap.size + 1) (.int .i64 l0) (.int .i64 l1) (.int .i64 l2) := at3_new 25 _ _ (.int .i64 l0) (.int .i64 l1) (.int .i64 l2) (by simp)
  have hb : Below w.heap.size w ((w.alloc (.cells #[.int .i64 c0, .int .i64 c1, .int .i64 c2, .int .i64 c3] 23)).alloc (.cells #[.int .i64 l0, .int .i64 l1, .int .i64 l2] 25)) := ((Below.refl _ _).alloc (Nat.le_refl _) _).alloc (by simp) _
  go_enter Tryd.func3, Tryd.ntmps3
  go_upto_region 1 with fail
  generalize ((w.alloc (.cells #[.int .i64 c0, .int .i64 c1, .int .i64 c2, .int .i64 c3] 23)).alloc (.cells #[.int .i64 l0, .int .i64 l1, .int .i64 l2] 25)) = w2 at hX0 hX1 hb ⊢
  generalize hg1 : w.heap.size + 1 = g1 at hX1 ⊢
  generalize hg0 : w.heap.size = g0 at hX0 hb hg1 ⊢
  have hne01 : g0 ≠ g1 := by omega
  have hle1 : g0 ≤ g1 := by omega
  have hne10 : g1 ≠ g0 := by omega
  have HG := Lib.hid hg0
  clear hg0 hg1
  obtain ⟨_, _, _, _⟩ := hX0.frees
  obtain ⟨_, _, _, _⟩ := hX0.cells
  obtain ⟨_, _, _⟩ := hX1.frees
  obtain ⟨_, _, _⟩ := hX1.cells
  go_wp2_with fail
  refine (HA.out _ (by rw [HG.out]; exact hb)).mono ?_
  rintro e w3 ⟨rfl, hk3⟩
  have hX0_3 := hX0.later hk3
  have hX1_3 := hX1.later hk3
  have hb3 := hb.trans (hk3.mono (by have := hX0.lt; omega))
  obtain ⟨_, _, _, _⟩ := hX0_3.frees
  obtain ⟨_, _, _, _⟩ := hX0_3.cells
  obtain ⟨_, _, _⟩ := hX1_3.frees
  obtain ⟨_, _, _⟩ := hX1_3.cells
  clear HA
  go_upto_region 3 with fail
  have hl0 := hX0_3.lt
  have hl1 := hX1_3.lt
  go_cut [7, 8] (fun y z wx => ∃ g2 g3, y = .pointer (some ⟨g2, 0, none⟩) ∧ z = .pointer (some ⟨g3, 0, none⟩) ∧ g0 < g2 ∧ g1 < g2 ∧ g0 < g3 ∧ g1 < g3 ∧ g2 ≠ g3 ∧ At4 23 wx g0 (.int .i64 c0) (.int .i64 c1) (.int .i64 c2) (.int .i64 c3) ∧ At3 25 wx g1 (.int .i64 l0) (.int .i64 l1) (.int .i64 l2) ∧ At3 28 wx g2 (.int .i64 l0) (.int .i64 l1) (.int .i64 l2) ∧ At3 25 wx g3 (.int .i64 l0) (.int .i64 l1) (.int .i64 l2) ∧ Below g0 w wx)
  case first =>
    go_region
    all_goals
      go_wp2_with fail
      go_meet
      first
      | exact ⟨w3.heap.size, w3.heap.size + 1, rfl, rfl, hl0, hl1, by omega, by omega, by omega, ((hX0_3.alloc _).alloc _).drew, ((hX1_3.alloc _).alloc _).drew, ((at3_new 28 w3 _ (.int .i64 l0) (.int .i64 l1) (.int .i64 l2) rfl).alloc _).drew, (at3_new 25 _ _ (.int .i64 l0) (.int .i64 l1) (.int .i64 l2) (by simp)).drew, ((hb3.alloc (Nat.le_of_lt hl0) _).alloc (by simp; omega) _).drew⟩
      | exact ⟨w3.heap.size + 1, w3.heap.size, rfl, rfl, by omega, by omega, hl0, hl1, by omega, ((hX0_3.alloc _).alloc _).drew, ((hX1_3.alloc _).alloc _).drew, (at3_new 28 _ _ (.int .i64 l0) (.int .i64 l1) (.int .i64 l2) (by simp)).drew, ((at3_new 25 w3 _ (.int .i64 l0) (.int .i64 l1) (.int .i64 l2) rfl).alloc _).drew, ((hb3.alloc (Nat.le_of_lt hl0) _).alloc (by simp; omega) _).drew⟩
  case rest =>
  obtain ⟨g2, g3, rfl, rfl, n02, n12, n03, n13, n23, hX0_6, hX1_6, hX2_6, hX3_6, hb6⟩ := hcut
  clear hX0_3 hX1_3 hb3 hl0 hl1
  rename World => w6
  have hle2 : g0 ≤ g2 := by omega
  have hle3 : g0 ≤ g3 := by omega
  have hne02 : g0 ≠ g2 := by omega
  have hne20 : g2 ≠ g0 := by omega
  have hne12 : g1 ≠ g2 := by omega
  have hne21 : g2 ≠ g1 := by omega
  have hne03 : g0 ≠ g3 := by omega
  have hne30 : g3 ≠ g0 := by omega
  have hne13 : g1 ≠ g3 := by omega
  have hne31 : g3 ≠ g1 := by omega
  have hne23 : g2 ≠ g3 := by omega
  have hne32 : g3 ≠ g2 := by omega
  clear n02 n12 n03 n13 n23
  obtain ⟨_, _, _⟩ := hX1_6.cells
  go_wp2_with fail
  go_loopw [9, 10] (fun z i wr => ∃ (k : Nat) (s h q now : Int), k ≤ len2 ∧ k ≤ 60 ∧ i = .int .i64 k ∧ z = .int .i64 now ∧ 0 ≤ now ∧ now ≤ 549755813888 + 65535 * k ∧ At4 23 wr g0 (.int .i64 c0) (.int .i64 c1) (.int .i64 c2) (.int .i64 c3) ∧ At3 25 wr g1 (.int .i64 l0) (.int .i64 l1) (.int .i64 l2) ∧ At3 28 wr g2 (.int .i64 s) (.int .i64 h) (.int .i64 q) ∧ At3 25 wr g3 (.int .i64 s) (.int .i64 h) (.int .i64 q) ∧ Below g0 w wr) (fun _ i _ => 60 - (intOf i).toNat)
  case atStart => exact ⟨0, l0, l1, l2, m0, Nat.zero_le _, by omega, rfl, rfl, hm0, by omega, hX0_6, hX1_6, hX2_6, hX3_6, hb6⟩
  case round =>
    obtain ⟨k, s, h, q, now, hk, hk60, rfl, rfl, hn0, hn1, hX0_7, hX1_7, hX2_7, hX3_7, hb7⟩ := hrel
    clear hX0_6 hX1_6 hX2_6 hX3_6 hb6
    by_cases hlt : k < len2 ∧ k < 60
    · obtain ⟨hlt, hlt60⟩ := hlt
      obtain ⟨ab, off, rfl, habl, rp, f, lt, ha0, ha1, ha2⟩ := HACT.out k hlt wr (by rw [HG.out]; exact hb7)
      have hX0_8 := hX0_7.alloc (.cells #[.bool rp, .int .i64 f, .int .i64 lt] 30)
      have hX1_8 := hX1_7.alloc (.cells #[.bool rp, .int .i64 f, .int .i64 lt] 30)
      have hX2_8 := hX2_7.alloc (.cells #[.bool rp, .int .i64 f, .int .i64 lt] 30)
      have hX3_8 := hX3_7.alloc (.cells #[.bool rp, .int .i64 f, .int .i64 lt] 30)
      have hb8 := hb7.alloc (by have := hX0_7.lt; omega) (.cells #[.bool rp, .int .i64 f, .int .i64 lt] 30)
      have hX4_8 := at3_new 30 wr _ (.bool rp) (.int .i64 f) (.int .i64 lt) rfl
      have lt0_8 := hX0_7.lt
      have lt1_8 := hX1_7.lt
      have lt2_8 := hX2_7.lt
      have lt3_8 := hX3_7.lt
      go_upto_region 9 with fail
      generalize (wr.alloc (.cells #[.bool rp, .int .i64 f, .int .i64 lt] 30)) = w8 at hX0_8 hX1_8 hX2_8 hX3_8 hX4_8 hb8 ⊢
      generalize wr.heap.size = g4 at hX4_8 lt0_8 lt1_8 lt2_8 lt3_8 ⊢
      have hne40 : g4 ≠ g0 := by omega
      have hne04 : g0 ≠ g4 := by omega
      have hne41 : g4 ≠ g1 := by omega
      have hne14 : g1 ≠ g4 := by omega
      have hne42 : g4 ≠ g2 := by omega
      have hne24 : g2 ≠ g4 := by omega
      have hne43 : g4 ≠ g3 := by omega
      have hne34 : g3 ≠ g4 := by omega
      have hle4 : g0 ≤ g4 := by omega
      clear lt0_8 lt1_8 lt2_8 lt3_8
      obtain ⟨_, _, _, _⟩ := hX0_8.frees
      obtain ⟨_, _, _, _⟩ := hX0_8.cells
      obtain ⟨_, _, _⟩ := hX1_8.frees
      obtain ⟨_, _, _⟩ := hX1_8.cells
      obtain ⟨_, _, _⟩ := hX2_8.frees
      obtain ⟨_, _, _⟩ := hX2_8.cells
      obtain ⟨_, _, _⟩ := hX3_8.frees
      obtain ⟨_, _, _⟩ := hX3_8.cells
      obtain ⟨_, _, _⟩ := hX4_8.frees
      obtain ⟨_, _, _⟩ := hX4_8.cells
      obtain ⟨nw, hnw⟩ : ∃ z, now + lt % 65536 = z := ⟨_, rfl⟩
      have hz0 : 0 ≤ nw := by omega
      have hz1 : nw ≤ 549755813888 + 65535 * (k + 1) := by omega
      have hwn : IntKind.i64.wrap nw = nw := IntWalk.i64_in _ ⟨by omega, by omega⟩
      go_upto_if 42 with fail
      clear hnw
      go_cut [12, 13] (fun y z wx => ∃ ns hs ks q', y = .bool q' ∧ z = .bool q' ∧ 0 ≤ ns ∧ ns ≤ 3 ∧ At4 23 wx g0 (.int .i64 c0) (.int .i64 c1) (.int .i64 c2) (.int .i64 c3) ∧ At3 25 wx g1 (.int .i64 l0) (.int .i64 l1) (.int .i64 l2) ∧ At3 28 wx g2 (.int .i64 ns) (.int .i64 hs) (.int .i64 ks) ∧ At3 25 wx g3 (.int .i64 ns) (.int .i64 hs) (.int .i64 ks) ∧ At3 30 wx g4 (.bool rp) (.int .i64 f) (.int .i64 lt) ∧ Below g0 w wx)
      case first =>
        cases rp
        · obtain ⟨ns, hs, ks, hact⟩ := HACTS.out ⟨s, h, q⟩ false f nw
          have hok := HOK.out ⟨s, h, q⟩ false f nw
          rw [hact] at hok
          obtain ⟨q', hA, hBB⟩ := HT.out _ _ _ _ _ _ hact
          simp only [LL.val, LC.val] at hA hBB
          have HA1 := Lib.hid hA
          have HB1 := Lib.hid hBB
          obtain ⟨y0, y1, -, -, -⟩ := hok
          simp only at y0 y1
          clear hA hBB hact
          go_wp2_with fail
          refine (HA1.out _).mono ?_
          rintro e w9 ⟨rfl, hk9⟩
          have hX0_9 := hX0_8.later hk9
          have hX1_9 := hX1_8.later hk9
          have hX2_9 := hX2_8.later hk9
          have hX3_9 := hX3_8.later hk9
          have hX4_9 := hX4_8.later hk9
          have hb9 := hb8.trans (hk9.mono (by have := hX0_8.lt; omega))
          obtain ⟨_, _, _, _⟩ := hX0_9.frees
          obtain ⟨_, _, _, _⟩ := hX0_9.cells
          obtain ⟨_, _, _⟩ := hX1_9.frees
          obtain ⟨_, _, _⟩ := hX1_9.cells
          obtain ⟨_, _, _⟩ := hX2_9.frees
          obtain ⟨_, _, _⟩ := hX2_9.cells
          obtain ⟨_, _, _⟩ := hX3_9.frees
          obtain ⟨_, _, _⟩ := hX3_9.cells
          obtain ⟨_, _, _⟩ := hX4_9.frees
          obtain ⟨_, _, _⟩ := hX4_9.cells
          go_upto_region 15 with fail
          have hX2_10 := at3_store hX2_9 (.int .i64 ns) (.int .i64 hs) (.int .i64 ks)
          have ho10 := store3_only w9 g2 (.int .i64 ns) (.int .i64 hs) (.int .i64 ks)
          have hX0_10 := hX0_9.only hne02 ho10
          have hX1_10 := hX1_9.only hne12 ho10
          have hX3_10 := hX3_9.only hne32 ho10
          have hX4_10 := hX4_9.only hne42 ho10
          have hb10 := hb9.trans (ho10.below hle2)
          generalize (((w9.setCell ⟨g2, 0, none⟩ (.int .i64 ns)).setCell ⟨g2, 1, none⟩ (.int .i64 hs)).setCell ⟨g2, 2, none⟩ (.int .i64 ks)) = w10 at hX0_10 hX1_10 hX2_10 hX3_10 hX4_10 hb10 ⊢
          clear ho10
          obtain ⟨_, _, _, _⟩ := hX0_10.frees
          obtain ⟨_, _, _, _⟩ := hX0_10.cells
          obtain ⟨_, _, _⟩ := hX1_10.frees
          obtain ⟨_, _, _⟩ := hX1_10.cells
          obtain ⟨_, _, _⟩ := hX2_10.frees
          obtain ⟨_, _, _⟩ := hX2_10.cells
          obtain ⟨_, _, _⟩ := hX3_10.frees
          obtain ⟨_, _, _⟩ := hX3_10.cells
          obtain ⟨_, _, _⟩ := hX4_10.frees
          obtain ⟨_, _, _⟩ := hX4_10.cells
          go_wp2_with fail
          refine (HB1.out _).mono ?_
          rintro e w11 ⟨rfl, hk11⟩
          have hX0_11 := hX0_10.later hk11
          have hX1_11 := hX1_10.later hk11
          have hX2_11 := hX2_10.later hk11
          have hX3_11 := hX3_10.later hk11
          have hX4_11 := hX4_10.later hk11
          have hb11 := hb10.trans (hk11.mono (by have := hX0_10.lt; omega))
          obtain ⟨_, _, _, _⟩ := hX0_11.frees
          obtain ⟨_, _, _, _⟩ := hX0_11.cells
          obtain ⟨_, _, _⟩ := hX1_11.frees
          obtain ⟨_, _, _⟩ := hX1_11.cells
          obtain ⟨_, _, _⟩ := hX2_11.frees
          obtain ⟨_, _, _⟩ := hX2_11.cells
          obtain ⟨_, _, _⟩ := hX3_11.frees
          obtain ⟨_, _, _⟩ := hX3_11.cells
          obtain ⟨_, _, _⟩ := hX4_11.frees
          obtain ⟨_, _, _⟩ := hX4_11.cells
          go_wp2_with fail
          go_meet
          exact ⟨ns, hs, ks, q', rfl, rfl, y0, y1, hX0_11.only hne03 (store3_only w11 g3 (.int .i64 ns) (.int .i64 hs) (.int .i64 ks)), hX1_11.only hne13 (store3_only w11 g3 (.int .i64 ns) (.int .i64 hs) (.int .i64 ks)), hX2_11.only hne23 (store3_only w11 g3 (.int .i64 ns) (.int .i64 hs) (.int .i64 ks)), at3_store hX3_11 (.int .i64 ns) (.int .i64 hs) (.int .i64 ks), hX4_11.only hne43 (store3_only w11 g3 (.int .i64 ns) (.int .i64 hs) (.int .i64 ks)), hb11.trans ((store3_only w11 g3 (.int .i64 ns) (.int .i64 hs) (.int .i64 ks)).below hle3)⟩
        · obtain ⟨ns, hs, ks, hact⟩ := HACTS.out ⟨s, h, q⟩ true f nw
          have hok := HOK.out ⟨s, h, q⟩ true f nw
          rw [hact] at hok
          obtain ⟨q', hA, hBB⟩ := HB.out _ _ _ _ _ _ hact
          simp only [LL.val, LC.val] at hA hBB
          have HA1 := Lib.hid hA
          have HB1 := Lib.hid hBB
          obtain ⟨y0, y1, -, -, -⟩ := hok
          simp only at y0 y1
          clear hA hBB hact
          go_wp2_with fail
          refine (HA1.out _ (HTB.out _ (by rw [HG.out]; exact hb8))).mono ?_
          rintro e w9 ⟨rfl, hk9⟩
          have hX0_9 := hX0_8.later hk9
          have hX1_9 := hX1_8.later hk9
          have hX2_9 := hX2_8.later hk9
          have hX3_9 := hX3_8.later hk9
          have hX4_9 := hX4_8.later hk9
          have hb9 := hb8.trans (hk9.mono (by have := hX0_8.lt; omega))
          obtain ⟨_, _, _, _⟩ := hX0_9.frees
          obtain ⟨_, _, _, _⟩ := hX0_9.cells
          obtain ⟨_, _, _⟩ := hX1_9.frees
          obtain ⟨_, _, _⟩ := hX1_9.cells
          obtain ⟨_, _, _⟩ := hX2_9.frees
          obtain ⟨_, _, _⟩ := hX2_9.cells
          obtain ⟨_, _, _⟩ := hX3_9.frees
          obtain ⟨_, _, _⟩ := hX3_9.cells
          obtain ⟨_, _, _⟩ := hX4_9.frees
          obtain ⟨_, _, _⟩ := hX4_9.cells
          go_upto_region 13 with fail
          have hX2_10 := at3_store hX2_9 (.int .i64 ns) (.int .i64 hs) (.int .i64 ks)
          have ho10 := store3_only w9 g2 (.int .i64 ns) (.int .i64 hs) (.int .i64 ks)
          have hX0_10 := hX0_9.only hne02 ho10
          have hX1_10 := hX1_9.only hne12 ho10
          have hX3_10 := hX3_9.only hne32 ho10
          have hX4_10 := hX4_9.only hne42 ho10
          have hb10 := hb9.trans (ho10.below hle2)
          generalize (((w9.setCell ⟨g2, 0, none⟩ (.int .i64 ns)).setCell ⟨g2, 1, none⟩ (.int .i64 hs)).setCell ⟨g2, 2, none⟩ (.int .i64 ks)) = w10 at hX0_10 hX1_10 hX2_10 hX3_10 hX4_10 hb10 ⊢
          clear ho10
          obtain ⟨_, _, _, _⟩ := hX0_10.frees
          obtain ⟨_, _, _, _⟩ := hX0_10.cells
          obtain ⟨_, _, _⟩ := hX1_10.frees
          obtain ⟨_, _, _⟩ := hX1_10.cells
          obtain ⟨_, _, _⟩ := hX2_10.frees
          obtain ⟨_, _, _⟩ := hX2_10.cells
          obtain ⟨_, _, _⟩ := hX3_10.frees
          obtain ⟨_, _, _⟩ := hX3_10.cells
          obtain ⟨_, _, _⟩ := hX4_10.frees
          obtain ⟨_, _, _⟩ := hX4_10.cells
          go_wp2_with fail
          refine (HB1.out _).mono ?_
          rintro e w11 ⟨rfl, hk11⟩
          have hX0_11 := hX0_10.later hk11
          have hX1_11 := hX1_10.later hk11
          have hX2_11 := hX2_10.later hk11
          have hX3_11 := hX3_10.later hk11
          have hX4_11 := hX4_10.later hk11
          have hb11 := hb10.trans (hk11.mono (by have := hX0_10.lt; omega))
          obtain ⟨_, _, _, _⟩ := hX0_11.frees
          obtain ⟨_, _, _, _⟩ := hX0_11.cells
          obtain ⟨_, _, _⟩ := hX1_11.frees
          obtain ⟨_, _, _⟩ := hX1_11.cells
          obtain ⟨_, _, _⟩ := hX2_11.frees
          obtain ⟨_, _, _⟩ := hX2_11.cells
          obtain ⟨_, _, _⟩ := hX3_11.frees
          obtain ⟨_, _, _⟩ := hX3_11.cells
          obtain ⟨_, _, _⟩ := hX4_11.frees
          obtain ⟨_, _, _⟩ := hX4_11.cells
          go_wp2_with fail
          go_meet
          exact ⟨ns, hs, ks, q', rfl, rfl, y0, y1, hX0_11.only hne03 (store3_only w11 g3 (.int .i64 ns) (.int .i64 hs) (.int .i64 ks)), hX1_11.only hne13 (store3_only w11 g3 (.int .i64 ns) (.int .i64 hs) (.int .i64 ks)), hX2_11.only hne23 (store3_only w11 g3 (.int .i64 ns) (.int .i64 hs) (.int .i64 ks)), at3_store hX3_11 (.int .i64 ns) (.int .i64 hs) (.int .i64 ks), hX4_11.only hne43 (store3_only w11 g3 (.int .i64 ns) (.int .i64 hs) (.int .i64 ks)), hb11.trans ((store3_only w11 g3 (.int .i64 ns) (.int .i64 hs) (.int .i64 ks)).below hle3)⟩
      case rest =>
      obtain ⟨ns, hs, ks, q', rfl, rfl, y0, y1, hX0_11, hX1_11, hX2_11, hX3_11, hX4_11, hb11⟩ := hcut
      clear hX0_8 hX1_8 hX2_8 hX3_8 hX4_8 hb8
      rename World => w11
      obtain ⟨b, hbq⟩ : ∃ b, (ns != 3) = b := ⟨_, rfl⟩
      have HS := Lib.hid (fun W => sends_of ns hs ks b (by rw [stk_id ns y0 y1]; exact hbq) W)
      have HV := Lib.hid (fun (W : World) (hb : Below w.heap.size w W) => weight_any ⟨ns, hs, ks⟩ f W (HTD.out W hb))
      have HVr := Lib.hid (fun (W : World) => refWeight_any ⟨ns, hs, ks⟩ f W)
      generalize wgt (LL.cnt ⟨ns, hs, ks⟩).s (am 1 f 65535) = v at HV HVr
      simp only [LL.val] at HV HVr
      go_upto_region 16 with fail
      go_cut [101] (fun z wx => z = .bool false ∧ At4 23 wx g0 (.int .i64 c0) (.int .i64 c1) (.int .i64 c2) (.int .i64 c3) ∧ At3 25 wx g1 (.int .i64 l0) (.int .i64 l1) (.int .i64 l2) ∧ At3 28 wx g2 (.int .i64 ns) (.int .i64 hs) (.int .i64 ks) ∧ At3 25 wx g3 (.int .i64 ns) (.int .i64 hs) (.int .i64 ks) ∧ Below g0 w wx)
      case first =>
        go_region_held3 (fun W => W.cell? ⟨g2, 0, none⟩ = some (.int .i64 ns) ∧ W.cell? ⟨g2, 1, none⟩ = some (.int .i64 hs) ∧ W.cell? ⟨g2, 2, none⟩ = some (.int .i64 ks) ∧ W.cell? ⟨g3, 0, none⟩ = some (.int .i64 ns) ∧ W.cell? ⟨g3, 1, none⟩ = some (.int .i64 hs) ∧ W.cell? ⟨g3, 2, none⟩ = some (.int .i64 ks) ∧ W.cell? ⟨g4, 1, none⟩ = some (.int .i64 f) ∧ At4 23 W g0 (.int .i64 c0) (.int .i64 c1) (.int .i64 c2) (.int .i64 c3) ∧ At3 25 W g1 (.int .i64 l0) (.int .i64 l1) (.int .i64 l2) ∧ At3 28 W g2 (.int .i64 ns) (.int .i64 hs) (.int .i64 ks) ∧ At3 25 W g3 (.int .i64 ns) (.int .i64 hs) (.int .i64 ks) ∧ At3 30 W g4 (.bool rp) (.int .i64 f) (.int .i64 lt) ∧ Below g0 w W) (first | (go_keep; done) | exact lpS hX0_11.drew hX1_11.drew hX2_11.drew hX3_11.drew hX4_11.drew hb11.drew | exact lpS' (Nat.le_refl _) (by go_split_ands; assumption) (by go_split_ands; assumption) (by go_split_ands; assumption) (by go_split_ands; assumption) (by go_split_ands; assumption) (by go_split_ands; assumption) (by assumption) | (go_split_ands; assumption)) (first | (go_at_call 12; refine (HS.out _).mono ?_; rintro e w13 ⟨rfl, hk13⟩) | (go_at_call 13; refine (HV.out _ (by rw [HG.out]; go_split_ands; assumption)).mono ?_; rintro e w14 ⟨rfl, hk14⟩) | (go_at_call 14; refine (HVr.out _).mono ?_; rintro e w15 ⟨rfl, hk15⟩))
        all_goals
          go_wp2_with fail
          go_meet
          exact ⟨rfl, by go_split_ands; assumption, by go_split_ands; assumption, by go_split_ands; assumption, by go_split_ands; assumption, by go_split_ands; assumption⟩
      case rest =>
      obtain ⟨rfl, hX0_12, hX1_12, hX2_12, hX3_12, hb12⟩ := hcut
      clear hX0_11 hX1_11 hX2_11 hX3_11 hX4_11 hb11 HS HV HVr
      go_wp2_with fail
      go_roundw
      case rel => exact ⟨k + 1, ns, hs, ks, nw, by omega, by omega, by go_num, rfl, hz0, by omega, hX0_12, hX1_12, hX2_12, hX3_12, hb12⟩
      case measure => simp [intOf]; omega
    · clear hX2_7 hX3_7
      by_cases hk1 : k < len2
      · have hk2 : k = 60 := by omega
        subst hk2
        go_upto_region 18 with fail
        go_region_held3 (fun W => W.cell? ⟨g0, 0, none⟩ = some (.int .i64 c0) ∧ W.cell? ⟨g0, 1, none⟩ = some (.int .i64 c1) ∧ W.cell? ⟨g0, 2, none⟩ = some (.int .i64 c2) ∧ W.cell? ⟨g0, 3, none⟩ = some (.int .i64 c3) ∧ W.cell? ⟨g1, 0, none⟩ = some (.int .i64 l0) ∧ W.cell? ⟨g1, 1, none⟩ = some (.int .i64 l1) ∧ W.cell? ⟨g1, 2, none⟩ = some (.int .i64 l2) ∧ At4 23 W g0 (.int .i64 c0) (.int .i64 c1) (.int .i64 c2) (.int .i64 c3) ∧ At3 25 W g1 (.int .i64 l0) (.int .i64 l1) (.int .i64 l2) ∧ Below g0 w W) (first | (go_keep; done) | exact lpZ hX0_7.drew hX1_7.drew hb7.drew | exact lpZ' (Nat.le_refl _) (by go_split_ands; assumption) (by go_split_ands; assumption) (by go_split_ands; assumption) (by assumption) | (go_split_ands; assumption)) (first | (go_at_call 15; refine (HCl.out _).mono ?_; rintro e w13 ⟨rfl, hk13⟩) | (go_at_call 16; refine (HCr.out _).mono ?_; rintro e w16 ⟨rfl, hk16⟩) | (go_at_call 13; refine (HW.out _ (by rw [HG.out]; go_split_ands; assumption)).mono ?_; rintro e w14 ⟨rfl, hk14⟩) | (go_at_call 14; refine (HWr.out _).mono ?_; rintro e w15 ⟨rfl, hk15⟩))
        all_goals
          go_wp2_with fail
          go_ret
          exact ⟨by first | rfl | simp, by rw [HG.out]; go_split_ands; assumption⟩
      · have hk2 : k = len2 := by omega
        subst hk2
        go_upto_region 18 with fail
        go_region_held3 (fun W => W.cell? ⟨g0, 0, none⟩ = some (.int .i64 c0) ∧ W.cell? ⟨g0, 1, none⟩ = some (.int .i64 c1) ∧ W.cell? ⟨g0, 2, none⟩ = some (.int .i64 c2) ∧ W.cell? ⟨g0, 3, none⟩ = some (.int .i64 c3) ∧ W.cell? ⟨g1, 0, none⟩ = some (.int .i64 l0) ∧ W.cell? ⟨g1, 1, none⟩ = some (.int .i64 l1) ∧ W.cell? ⟨g1, 2, none⟩ = some (.int .i64 l2) ∧ At4 23 W g0 (.int .i64 c0) (.int .i64 c1) (.int .i64 c2) (.int .i64 c3) ∧ At3 25 W g1 (.int .i64 l0) (.int .i64 l1) (.int .i64 l2) ∧ Below g0 w W) (first | (go_keep; done) | exact lpZ hX0_7.drew hX1_7.drew hb7.drew | exact lpZ' (Nat.le_refl _) (by go_split_ands; assumption) (by go_split_ands; assumption) (by go_split_ands; assumption) (by assumption) | (go_split_ands; assumption)) (first | (go_at_call 15; refine (HCl.out _).mono ?_; rintro e w13 ⟨rfl, hk13⟩) | (go_at_call 16; refine (HCr.out _).mono ?_; rintro e w16 ⟨rfl, hk16⟩) | (go_at_call 13; refine (HW.out _ (by rw [HG.out]; go_split_ands; assumption)).mono ?_; rintro e w14 ⟨rfl, hk14⟩) | (go_at_call 14; refine (HWr.out _).mono ?_; rintro e w15 ⟨rfl, hk15⟩))
        all_goals
          go_wp2_with fail
          go_ret
          exact ⟨by first | rfl | simp, by rw [HG.out]; go_split_ands; assumption⟩
end lifePlays
end Go.Proofs.YtggcfoegpadepaaDoor
