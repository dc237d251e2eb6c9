/- ReportAbout: the walk. -/
import Derived.Test.YtimdeohbhiicpaaRpF
import Derived.Test.YtimdeohbhiicpaaRpW
import Derived.Test.YtimdeohbhiicpaaRtpK
import Derived.Deep.CutBlock
import Derived.Deep.RegionHeld3
namespace Go.Proofs.Ytimdeohbhiicpaa
open Go.RowKit
set_option linter.unusedVariables false
theorem own_madeB (W : World) (T : TypeId) (B n : Nat) (hB : B ≤ W.heap.size) (hn : n = W.heap.size) : (W.alloc (.cells #[] T)).ownsRow B T 7 (.slice (some ⟨n, 0, none⟩) 0 0) 0 [] := by
  subst hn; exact World.ownsRow_made _ _ _ hB (by decide) rfl
theorem own7_set {w : World} {T : TypeId} {B g i : Nat} {e : TypeId} {m : Nat} {v u : Value} {n : Nat} {xs : List Value} {c0 c1 c2 c3 c4 c5 c6 : Value} (h : w.ownsRow B e m v n xs) (hP : At7 T w g c0 c1 c2 c3 c4 c5 c6) (hne : T ≠ e) : (w.setCell ⟨g, i, none⟩ u).ownsRow B e m v n xs :=
  ownsRow_setCell_other h (fun x => row_neP h hP (by intro cur p q; simp at q; exact hne q.2.1) x.symm) _
theorem drop_hit (l : List BK) (src : Int) (k : Nat) (h : k < l.length) (he : (l[k]?.getD zeroBK).src = src) : aboutB (l.drop k) src = l[k]?.getD zeroBK ∧ aboutI (l.drop k) src = true := by
  unfold aboutB aboutI
  rw [firstOf_hit src l k h he]
  exact ⟨rfl, rfl⟩
theorem drop_skip (l : List BK) (src : Int) (k : Nat) (h : k < l.length) (he : (l[k]?.getD zeroBK).src ≠ src) : aboutB (l.drop k) src = aboutB (l.drop (k + 1)) src ∧ aboutI (l.drop k) src = aboutI (l.drop (k + 1)) src := by
  unfold aboutB aboutI
  rw [firstOf_skip src l k h he]
  exact ⟨rfl, rfl⟩
theorem drop_end (l : List BK) (src : Int) : aboutB (l.drop l.length) src = zeroBK ∧ aboutI (l.drop l.length) src = false := by
  rw [List.drop_length]; exact ⟨rfl, rfl⟩
namespace reportAbout
set_option maxRecDepth 100000 in
set_option maxHeartbeats 4000000 in
theorem walk (q0 : RP) (qa0 : Option Addr) (qc0 : Nat) (a1 a2 : Int) (m0a : q0.ok) (m0b : i64ok q0.clock) (m0c : ∀ b ∈ q0.blocks, b.wide) (m0d : q0.blocks.length ≤ qc0) (m0e : qc0 ≤ 9223372036854775807) (m0g : (qa0 = none ∧ q0.blocks.length = 0 ∧ qc0 = 0) ∨ ∃ b off, qa0 = some ⟨b, off, none⟩) (w1 : (Lit.int .u32 a1).wf = true) (w2 : (Lit.int .i64 a2).wf = true) (w : World) (m0f : ReadsB BK.vals w qa0 q0.blocks) :
    Calls Try.prog 10 #[.agg (q0.cells qa0 qc0), .int .u32 a1, .int .i64 a2] w fun e w' => e = .returned (.bool true) ∧ Below w.heap.size w w' := by
  obtain ⟨i0, hi, hz0, hz1, hz2⟩ := info_parts infoBk
  have n1 := (i64_bd w2).1
  have n2 := (i64_bd w2).2
  obtain ⟨c1, c2⟩ := m0b
  obtain ⟨src, isS, clock, time, packets, bytes, l⟩ := q0
  simp only [RP.cells] at *
  clear m0a m0c w1 w2
  obtain ⟨m, hm⟩ : ∃ m : Nat, min (l.length : Int) 33 = (m : Int) := ⟨(min (l.length : Int) 33).toNat, by omega⟩
  have hml : (l.take 33).length = m := by rw [List.length_take]; omega
  have hm33 : m ≤ 33 := by omega
  have hmle : m ≤ l.length := by omega
  have htk : l.take 33 = l.take m := by
    rcases Nat.lt_or_ge l.length 33 with h | h
    · rw [List.take_of_length_le (by omega), List.take_of_length_le (by omega)]
    · rw [show m = 33 from by omega]
  have HT := Lib.hid htk
  have HML := Lib.hid hml
  clear htk hml
  have hX1 := at7_new 75 w (.int .u32 src) (.bool isS) (.int .i64 clock) (.int .u32 time) (.int .u32 packets) (.int .u32 bytes) (.slice qa0 l.length qc0)
  have hb1 : Below w.heap.size w (w.alloc (.cells #[.int .u32 src, .bool isS, .int .i64 clock, .int .u32 time, .int .u32 packets, .int .u32 bytes, .slice qa0 l.length qc0] 75)) := (Below.refl _ _).alloc (Nat.le_refl _) _
  have HR := Lib.hid (fun W (h : Below w.heap.size w W) => m0f.later h)
  clear m0f
  go_enter Try.func10, Try.ntmps10
  go_upto_region 1 with fail
  generalize w.alloc (.cells #[.int .u32 src, .bool isS, .int .i64 clock, .int .u32 time, .int .u32 packets, .int .u32 bytes, .slice qa0 l.length qc0] 75) = w3 at hX1 hb1 ⊢
  obtain ⟨g, hg⟩ : ∃ g, w.heap.size = g := ⟨_, rfl⟩
  have HG := Lib.hid hg
  rw [hg] at hX1 hb1 HR ⊢
  clear hg
  go_wp2_with fail
  refine (rpAwake_any _).mono ?_
  rintro e w4 ⟨rfl, hb4⟩
  have hX4 := hX1.later hb4
  have hbb4 := hb1.trans (hb4.mono (by have := hX1.lt; omega))
  clear hX1 hb1 hb4
  have hg4 := hX4.lt
  go_upto_region 3 with fail
  go_cut [3] (fun z3 wx => z3 = .pointer (some ⟨g, 0, none⟩) ∧ ∃ a' c', At7 75 wx g (.int .u32 src) (.bool isS) (.int .i64 clock) (.int .u32 time) (.int .u32 packets) (.int .u32 bytes) (.slice a' m c') ∧ ReadsB BK.vals wx a' (l.take 33) ∧ Below g w wx)
  case first =>
    have hv0 := own_madeB w4 90 g w4.heap.size (by omega) rfl
    have hX5 := hX4.alloc (.cells #[] 90)
    have hb5 := hbb4.alloc (by omega) (.cells #[] 90)
    obtain ⟨x0, x1, x2, x3, x4, x5, x6⟩ := hX4.cells
    rcases m0g with ⟨rfl, hl0, rfl⟩ | ⟨b, off, rfl⟩
    · obtain rfl : l = [] := List.length_eq_zero_iff.1 hl0
      obtain rfl : m = 0 := by simp at hmle; exact hmle
      simp only [List.length_nil] at *
      have hmm : min (0 : Int) 33 = 0 := by decide
      go_wp2_with (at_builtin; refine append_none_stop rfl (.tmp 14) (.tmp 21) 73 rfl g 90 i0 7 Try.underlying73 hi _ [] rfl hv0 rfl ?_)
      intro w6 ad6 Hw
      have hX6 : At7 75 w6 g (.int .u32 src) (.bool isS) (.int .i64 clock) (.int .u32 time) (.int .u32 packets) (.int .u32 bytes) (.slice none 0 0) := by rw [Hw.out.1]; exact hX5
      have hb6 : Below g w w6 := by rw [Hw.out.1]; exact hb5
      clear hv0 hX5 hb5 Hw x0 x1 x2 x3 x4 x5 x6 hX4 hbb4
      obtain ⟨x0, x1, x2, x3, x4, x5, x6⟩ := hX6.cells
      obtain ⟨f0, f1, f2, f3, f4, f5, f6⟩ := hX6.frees
      have hX7 : At7 75 (w6.setCell ⟨g, 6, none⟩ (.slice ad6 0 0)) g (.int .u32 src) (.bool isS) (.int .i64 clock) (.int .u32 time) (.int .u32 packets) (.int .u32 bytes) (.slice ad6 0 0) := block_setCell hX6
      have hb7 := hb6.setCell (p := ⟨g, 6, none⟩) (Nat.le_refl _) (.slice ad6 0 0)
      go_wp2_with fail
      go_meet
      exact ⟨rfl, ad6, 0, hX7, .inl rfl, hb7⟩
    · have hpm : (0 : Int) ≤ (m : Int) := by omega
      have hpm2 : (m : Int) ≤ (qc0 : Int) := by omega
      have hnews : ∀ k u, (bksV (l.take m))[k]? = some u → (w4.alloc (.cells #[] 90)).cell? ((⟨b, off, none⟩ : Addr).add k) = some u := by
        intro k u hk
        rcases HR.out _ hb5 with h | ⟨b', off', ha, hc⟩
        · subst h; simp [bksV] at hk
        · cases ha
          rw [Go.WideShapes.add_plain]
          exact readsB_news hc m hmle k u hk
      have hnl : (bksV (l.take m)).length = m * 7 := by rw [bksV_len, List.length_take, Nat.min_eq_left hmle]
      have hone := bksV_one (l.take m)
      go_wp2_with (at_builtin; refine wpList_append_own _ rfl (.tmp 14) (.tmp 21) 73 rfl g 90 i0 (.agg #[.int .u32 0, .int .i64 0, .int .i64 0, .int .u32 0, .int .u32 0, .int .u32 0, .int .u32 0]) 7 40 Try.underlying73 hi hz0 hz1 hz2 rfl (by decide) _ 0 [] rfl hv0 ⟨b, off, none⟩ m qc0 (bksV (l.take m)) rfl hnl hnews hone ?d4 ?d5 ?d6 ?_)
      case d4 => unfold maxLen; omega
      case d5 => omega
      case d6 => simp; omega
      intro v' w6 hown hgrow _
      have hown2 : w6.ownsRow g 90 7 v' m (bksV (l.take 33)) := by
        rw [HT.out]
        exact hown
      obtain ⟨a', c', rfl, hq1, hq2, hq3, hrd⟩ := own_readsB hown2
      clear hq1 hq2 hq3 hrd
      have hown2' := hown2
      have hX6 : At7 75 w6 g (.int .u32 src) (.bool isS) (.int .i64 clock) (.int .u32 time) (.int .u32 packets) (.int .u32 bytes) (.slice (some ⟨b, off, none⟩) l.length qc0) := by
        unfold At7
        rw [hgrow.block g hX5.lt (row_neP hv0 hX5 (by intro cur p e; cases e))]
        exact hX5
      have hb6 : Below g w w6 := hb5.grown hgrow (by have := hX5.lt; omega) (fun k hk => (hv0.lt k hk).1)
      clear hv0 hX5 hb5 hown hgrow hown2 hnews hnl hone x0 x1 x2 x3 x4 x5 x6 hX4 hbb4
      obtain ⟨x0, x1, x2, x3, x4, x5, x6⟩ := hX6.cells
      obtain ⟨f0, f1, f2, f3, f4, f5, f6⟩ := hX6.frees
      have hX7 : At7 75 (w6.setCell ⟨g, 6, none⟩ (.slice a' m c')) g (.int .u32 src) (.bool isS) (.int .i64 clock) (.int .u32 time) (.int .u32 packets) (.int .u32 bytes) (.slice a' m c') := block_setCell hX6
      have hb7 := hb6.setCell (p := ⟨g, 6, none⟩) (Nat.le_refl _) (.slice a' m c')
      have hO7 := own7_set (i := 6) (u := .slice a' m c') hown2' hX6 (by decide)
      obtain ⟨a8, c8, e8, hq1, hq2, hq3, hrd8⟩ := own_readsB hO7
      cases e8
      clear hq1 hq2 hq3
      go_wp2_with fail
      go_meet
      exact ⟨rfl, a', c', hX7, hrd8, hb7⟩
  case rest =>
  obtain ⟨rfl, a', c', hX5, hB5, hb5⟩ := hcut
  rename World => w5
  clear hX4 hbb4 hg4 HR m0g m0d m0e hm hmle
  obtain ⟨lb, hlb⟩ : ∃ lb, l.take 33 = lb := ⟨_, rfl⟩
  rw [hlb] at hB5
  have hlen : lb.length = m := by rw [← hlb]; exact HML.out
  clear hlb HML HT
  subst hlen
  have HA := Lib.hid (fun W (hr : ReadsB BK.vals W a' lb) => about_any ⟨src, isS, clock, time, packets, bytes, lb⟩ a1 a' c' W hr (by show lb.length ≤ _; omega))
  have HAge := Lib.hid (fun W => age_any clock time packets bytes a2 W)
  have HBR := Lib.hid (fun W (h : Below w5.heap.size w5 W) => hB5.later h)
  simp only at HA
  have hg5 := hX5.lt
  obtain ⟨x0, x1, x2, x3, x4, x5, x6⟩ := hX5.cells
  have HD0 := Lib.hid (show aboutB (lb.drop 0) a1 = aboutB lb a1 ∧ aboutI (lb.drop 0) a1 = aboutI lb a1 from ⟨by rw [List.drop_zero], by rw [List.drop_zero]⟩)
  have HDE := Lib.hid (drop_end lb a1)
  have HDH := Lib.hid (drop_hit lb a1)
  have HDS := Lib.hid (drop_skip lb a1)
  generalize aboutB lb a1 = AB at HA HD0
  generalize aboutI lb a1 = AI at HA HD0
  go_wp2_with fail
  refine (HA.out _ hB5).mono ?_
  rintro e w6 ⟨rfl, hb6⟩
  have hX6 := hX5.later hb6
  have hB6 := hB5.later hb6
  have hbb6 := hb5.trans (hb6.mono (by omega))
  have hXa := hX6.alloc (.cells #[.int .u32 AB.src, .int .i64 AB.frac, .int .i64 AB.lost, .int .u32 AB.high, .int .u32 AB.jit, .int .u32 AB.last, .int .u32 AB.delay] 90)
  have hXb := hXa.alloc (.cells #[.int .u32 0, .int .i64 0, .int .i64 0, .int .u32 0, .int .u32 0, .int .u32 0, .int .u32 0] 90)
  have hPa := (at7_new 90 w6 (.int .u32 AB.src) (.int .i64 AB.frac) (.int .i64 AB.lost) (.int .u32 AB.high) (.int .u32 AB.jit) (.int .u32 AB.last) (.int .u32 AB.delay)).alloc (.cells #[.int .u32 0, .int .i64 0, .int .i64 0, .int .u32 0, .int .u32 0, .int .u32 0, .int .u32 0] 90)
  have hWa := at7_new 90 (w6.alloc (.cells #[.int .u32 AB.src, .int .i64 AB.frac, .int .i64 AB.lost, .int .u32 AB.high, .int .u32 AB.jit, .int .u32 AB.last, .int .u32 AB.delay] 90)) (.int .u32 0) (.int .i64 0) (.int .i64 0) (.int .u32 0) (.int .u32 0) (.int .u32 0) (.int .u32 0)
  have hbz : Below w6.heap.size w6 ((w6.alloc (.cells #[.int .u32 AB.src, .int .i64 AB.frac, .int .i64 AB.lost, .int .u32 AB.high, .int .u32 AB.jit, .int .u32 AB.last, .int .u32 AB.delay] 90)).alloc (.cells #[.int .u32 0, .int .i64 0, .int .i64 0, .int .u32 0, .int .u32 0, .int .u32 0, .int .u32 0] 90)) := by go_grown
  have hwe : (w6.alloc (.cells #[.int .u32 AB.src, .int .i64 AB.frac, .int .i64 AB.lost, .int .u32 AB.high, .int .u32 AB.jit, .int .u32 AB.last, .int .u32 AB.delay] 90)).heap.size = w6.heap.size + 1 := by simp
  rw [hwe] at hWa
  clear hwe
  have HB6 := Lib.hid (fun W (h : Below w6.heap.size w6 W) => hB6.later h)
  have hg6 := hX6.lt
  have hbbz := hbb6.trans (hbz.mono (by omega))
  clear hX5 hB5 hb5 hb6 hX6 hbb6 hXa x0 x1 x2 x3 x4 x5 x6 HA hB6 HBR
  go_upto_region 7 with fail
  have hp7 : g < w6.heap.size := hg6
  generalize (w6.alloc (.cells #[.int .u32 AB.src, .int .i64 AB.frac, .int .i64 AB.lost, .int .u32 AB.high, .int .u32 AB.jit, .int .u32 AB.last, .int .u32 AB.delay] 90)).alloc (.cells #[.int .u32 0, .int .i64 0, .int .i64 0, .int .u32 0, .int .u32 0, .int .u32 0, .int .u32 0] 90) = w7 at hXb hPa hWa hbz hbbz ⊢
  obtain ⟨p9, hp9⟩ : ∃ p9, w6.heap.size + 1 = p9 := ⟨_, rfl⟩
  have hp79 : w6.heap.size ≠ p9 := by omega
  have hgp9 : g < p9 := by omega
  rw [hp9] at hWa ⊢
  have hp97 : w6.heap.size ≤ p9 := by omega
  clear hp9 hg6
  generalize w6.heap.size = p7 at hPa hp7 hp79 hbz HB6 hp97 ⊢
  obtain ⟨x0, x1, x2, x3, x4, x5, x6⟩ := hXb.cells
  have hsub : IntKind.i64.wrap ((lb.length : Int) - 1) = (lb.length : Int) - 1 := IntWalk.i64_in _ ⟨by omega, by omega⟩
  go_upto_block 0 with fail
  go_cut [10] (fun z10 wx => z10 = .bool AI ∧ At7 75 wx g (.int .u32 src) (.bool isS) (.int .i64 clock) (.int .u32 time) (.int .u32 packets) (.int .u32 bytes) (.slice a' lb.length c') ∧ At7 90 wx p7 (.int .u32 AB.src) (.int .i64 AB.frac) (.int .i64 AB.lost) (.int .u32 AB.high) (.int .u32 AB.jit) (.int .u32 AB.last) (.int .u32 AB.delay) ∧ At7 90 wx p9 (.int .u32 AB.src) (.int .i64 AB.frac) (.int .i64 AB.lost) (.int .u32 AB.high) (.int .u32 AB.jit) (.int .u32 AB.last) (.int .u32 AB.delay) ∧ Below g w wx)
  case first =>
    go_wp2_with fail
    go_loopw [10, 11] (fun z10 i wr => ∃ (k : Nat) (W : BK) (H : Bool), k ≤ lb.length ∧ i = .int .i64 ((k : Int) - 1) ∧ z10 = .bool H ∧ At7 75 wr g (.int .u32 src) (.bool isS) (.int .i64 clock) (.int .u32 time) (.int .u32 packets) (.int .u32 bytes) (.slice a' lb.length c') ∧ At7 90 wr p7 (.int .u32 AB.src) (.int .i64 AB.frac) (.int .i64 AB.lost) (.int .u32 AB.high) (.int .u32 AB.jit) (.int .u32 AB.last) (.int .u32 AB.delay) ∧ At7 90 wr p9 (.int .u32 W.src) (.int .i64 W.frac) (.int .i64 W.lost) (.int .u32 W.high) (.int .u32 W.jit) (.int .u32 W.last) (.int .u32 W.delay) ∧ Below p7 w6 wr ∧ Below g w wr ∧ Hid (aboutB (lb.drop k) a1 = W ∧ aboutI (lb.drop k) a1 = H)) (fun _ i _ => (intOf i + 1).toNat)
    case atStart => exact ⟨lb.length, zeroBK, false, Nat.le_refl _, rfl, rfl, hXb, hPa, hWa, hbz, hbbz, Lib.hid HDE.out⟩
    case round =>
      obtain ⟨k, W, H, hk, rfl, rfl, hX, hP, hW, hB, hb, HK⟩ := hrel
      clear hXb hPa hWa hbz hbbz x0 x1 x2 x3 x4 x5 x6
      obtain ⟨x0, x1, x2, x3, x4, x5, x6⟩ := hX.cells
      by_cases h0 : k = 0
      · subst h0
        obtain ⟨e1, e2⟩ := HD0.out
        obtain ⟨e3, e4⟩ := HK.out
        rw [e1] at e3
        rw [e2] at e4
        subst e3 e4
        go_wp2_with fail
        go_meet
        exact ⟨rfl, hX, hP, hW, hb⟩
      · obtain ⟨j, hj⟩ : ∃ j, k = j + 1 := ⟨k - 1, by omega⟩
        subst hj
        have hji : (((j + 1 : Nat) : Int) - 1) = (j : Int) := by omega
        have hlt : j < lb.length := by omega
        obtain ⟨ab, off, rfl, y0, y1, y2, y3, y4, y5, y6⟩ := (HB6.out _ hB).at hlt
        have HH := Lib.hid (HDH.out j hlt)
        have HS := Lib.hid (HDS.out j hlt)
        generalize lb[j]?.getD zeroBK = p at y0 y1 y2 y3 y4 y5 y6 HH HS
        rw [hji]
        clear hji h0
        have j0 : (0 : Int) ≤ (j : Int) := by omega
        have j1 : (j : Int) < (lb.length : Int) := by omega
        have hsj : IntKind.i64.wrap ((j : Int) - 1) = (j : Int) - 1 := IntWalk.i64_in _ ⟨by omega, by omega⟩
        by_cases he : p.src = a1
        · have heq : (p.src == a1) = true := by simpa using he
          obtain ⟨q1, q2⟩ := HH.out he
          have HK2 : Hid (aboutB (lb.drop j) a1 = p ∧ aboutI (lb.drop j) a1 = true) := Lib.hid ⟨q1, q2⟩
          clear he q1 q2 HS HH HK
          obtain ⟨f0, f1, f2, f3, f4, f5, f6⟩ := hW.frees
          obtain ⟨v0, v1, v2, v3, v4, v5, v6⟩ := hW.cells
          have hWz := at7_store (.int .u32 p.src) (.int .i64 p.frac) (.int .i64 p.lost) (.int .u32 p.high) (.int .u32 p.jit) (.int .u32 p.last) (.int .u32 p.delay) hW
          have hoz := store7_only wr p9 (.int .u32 p.src) (.int .i64 p.frac) (.int .i64 p.lost) (.int .u32 p.high) (.int .u32 p.jit) (.int .u32 p.last) (.int .u32 p.delay)
          have hXz := hX.only (by omega) hoz
          have hPz := hP.only hp79 hoz
          have hBz := hB.trans (hoz.below hp97)
          have hbz2 := hb.trans (hoz.below (by omega))
          clear hX hP hW hB hb
          go_upto_region 9 with fail
          generalize (((((((wr.setCell ⟨p9, 0, none⟩ (.int .u32 p.src)).setCell ⟨p9, 1, none⟩ (.int .i64 p.frac)).setCell ⟨p9, 2, none⟩ (.int .i64 p.lost)).setCell ⟨p9, 3, none⟩ (.int .u32 p.high)).setCell ⟨p9, 4, none⟩ (.int .u32 p.jit)).setCell ⟨p9, 5, none⟩ (.int .u32 p.last)).setCell ⟨p9, 6, none⟩ (.int .u32 p.delay)) = wz at hWz hXz hPz hBz hbz2 ⊢
          clear f0 f1 f2 f3 f4 f5 f6 v0 v1 v2 v3 v4 v5 v6 y0 y1 y2 y3 y4 y5 y6 x0 x1 x2 x3 x4 x5 x6 hoz
          go_wp2
          go_roundw
          case rel => exact ⟨j, p, true, by omega, by first | rfl | go_num, rfl, hXz, hPz, hWz, hBz, hbz2, HK2⟩
          case measure => simp [intOf]
        · have heq : (p.src == a1) = false := by simpa using he
          obtain ⟨q1, q2⟩ := HS.out he
          obtain ⟨q3, q4⟩ := HK.out
          have HK2 : Hid (aboutB (lb.drop j) a1 = W ∧ aboutI (lb.drop j) a1 = H) := Lib.hid ⟨by rw [q1, q3], by rw [q2, q4]⟩
          clear he q1 q2 q3 q4 HS HH HK
          go_wp2
          go_roundw
          case rel => exact ⟨j, W, H, by omega, by first | rfl | go_num, rfl, hX, hP, hW, hB, hb, HK2⟩
          case measure => simp [intOf]
  case rest =>
  obtain ⟨rfl, hX, hP, hW, hb⟩ := hcut
  rename World => w8
  clear hXb hPa hWa hbz hbbz x0 x1 x2 x3 x4 x5 x6 HD0 HDE HDH HDS hsub HB6
  obtain ⟨x0, x1, x2, x3, x4, x5, x6⟩ := hX.cells
  obtain ⟨y0, y1, y2, y3, y4, y5, y6⟩ := hP.cells
  obtain ⟨z0, z1, z2, z3, z4, z5, z6⟩ := hW.cells
  obtain ⟨s0, s1, s2, s3, s4, s5, s6⟩ := AB
  simp only at *
  have hAI : (AI != AI) = false := by simp
  have hbw : Below w.heap.size w w8 := by rw [HG.out]; exact hb
  clear hb
  by_cases k1 : clock < 0
  · have hv : Hid (0 ≤ ageV clock a2) := Lib.hid (by unfold ageV; omega)
    generalize ageV clock a2 = A at HAge hv
    have hv2 := hv.out
    go_wp2_with fail
    refine (HAge.out _).mono ?_
    rintro e w9 ⟨rfl, hb9⟩
    go_wp2
    go_ret
    exact ⟨rfl, hbw.trans (hb9.mono hbw.size)⟩
  · by_cases k2 : 1099511627776 < clock
    · skip
      have hv : Hid (0 ≤ ageV clock a2) := Lib.hid (by unfold ageV; omega)
      generalize ageV clock a2 = A at HAge hv
      have hv2 := hv.out
      go_wp2_with fail
      refine (HAge.out _).mono ?_
      rintro e w9 ⟨rfl, hb9⟩
      go_wp2
      go_ret
      exact ⟨rfl, hbw.trans (hb9.mono hbw.size)⟩
    · by_cases k3 : a2 < 0
      · skip
        have hv : Hid (0 ≤ ageV clock a2) := Lib.hid (by unfold ageV; omega)
        generalize ageV clock a2 = A at HAge hv
        have hv2 := hv.out
        go_wp2_with fail
        refine (HAge.out _).mono ?_
        rintro e w9 ⟨rfl, hb9⟩
        go_wp2
        go_ret
        exact ⟨rfl, hbw.trans (hb9.mono hbw.size)⟩
      · by_cases k4 : 1099511627776 < a2
        · skip
          have hv : Hid (0 ≤ ageV clock a2) := Lib.hid (by unfold ageV; omega)
          generalize ageV clock a2 = A at HAge hv
          have hv2 := hv.out
          go_wp2_with fail
          refine (HAge.out _).mono ?_
          rintro e w9 ⟨rfl, hb9⟩
          go_wp2
          go_ret
          exact ⟨rfl, hbw.trans (hb9.mono hbw.size)⟩
        · skip
          have hv : Hid (ageV clock a2 = max 0 (a2 - clock)) := Lib.hid (by
            unfold ageV onClk
            omega)
          have hw : IntKind.i64.wrap (a2 - clock) = a2 - clock := IntWalk.i64_in _ ⟨by omega, by omega⟩
          generalize ageV clock a2 = A at HAge hv
          have HSS := Lib.hid (fun W (h : Below w8.heap.size w8 W) => (show W.cell? ⟨g, 2, none⟩ = some (.int .i64 clock) ∧ W.cell? ⟨g, 3, none⟩ = some (.int .u32 time) ∧ W.cell? ⟨g, 4, none⟩ = some (.int .u32 packets) ∧ W.cell? ⟨g, 5, none⟩ = some (.int .u32 bytes) ∧ Below w8.heap.size w8 W from by
            obtain ⟨_, _, u2, u3, u4, u5, _⟩ := (hX.later h).cells
            exact ⟨u2, u3, u4, u5, h⟩))
          go_upto_region 16 with fail
          go_region_held3 (fun W => W.cell? ⟨g, 2, none⟩ = some (.int .i64 clock) ∧ W.cell? ⟨g, 3, none⟩ = some (.int .u32 time) ∧ W.cell? ⟨g, 4, none⟩ = some (.int .u32 packets) ∧ W.cell? ⟨g, 5, none⟩ = some (.int .u32 bytes) ∧ Below w8.heap.size w8 W) (first | (go_keep; done) | exact HSS.out _ (Below.drew (Below.refl _ _)) | exact HSS.out _ (Below.drew (by go_split_ands; assumption)) | exact HSS.out _ (Below.trans (by go_split_ands; assumption) (Below.mono (by assumption) (Below.size (by go_split_ands; assumption)))) | (go_split_ands; assumption)) (first | (go_at_call 46; refine (HAge.out _).mono ?_; rintro e w' ⟨rfl, hbA⟩))
          all_goals
            go_wp2
            go_ret
            exact ⟨by rw [hv.out]; simp, hbw.trans (Below.mono (by go_split_ands; assumption) hbw.size)⟩
end reportAbout
end Go.Proofs.Ytimdeohbhiicpaa
