/- ReportBack: the walk. -/
import Derived.Test.YtkchhiiomahbaaaMRpH
import Derived.Test.YtkchhiiomahbaaaMRpI
import Derived.Test.YtkchhiiomahbaaaMRpJ
import Derived.Test.YtkchhiiomahbaaaMRpK
import Derived.Test.YtkchhiiomahbaaaMRpE
import Derived.Test.YtkchhiiomahbaaaMAboutW
namespace Go.Proofs.Ytkchhiiomahbaaa
open Go.RowKit
set_option linter.unusedVariables false
theorem rp_take_ok (r : RP) (h : r.ok) : (⟨r.src, r.isS, r.clock, r.time, r.packets, r.bytes, r.blocks.take 33⟩ : RP).ok := ⟨h.1, h.2.1, h.2.2.1, h.2.2.2.1, fun b hb => h.2.2.2.2 b (List.mem_of_mem_take hb)⟩
theorem rpP_small (r : RP) (h : r.blocks.length ≤ 33) : (rpP r).body.size ≤ 1000000 ∧ 0 ≤ (rpP r).count ∧ (rpP r).count ≤ 1000 := by
  unfold rpP
  split
  · have h1 := sentL_le r
    simp only [ofL_size, rpL, List.length_append, be_len, bksL_len]
    omega
  · unfold zeroPC
    simp only
    refine ⟨by decide, by decide, by decide⟩
/-- Of, whatever the kind. -/
theorem rpOf_any (p : PC) (w : World) (hs : p.body.size ≤ 1099511627776) (hc1 : -9223372036854775808 ≤ p.count) (hc2 : p.count ≤ 9223372036854775807) (hk : p.kind = 200 ∨ p.kind = 201) :
    Calls Try.prog 17 #[.agg #[.int .i64 p.count, .int .i64 p.kind, .string p.body]] w (RpOfd p w) := by
  obtain ⟨c, k, s⟩ := p
  rcases hk with h | h
  · simp only at h; subst h; exact rpOf_t c s w hs hc1 hc2
  · simp only at h; subst h; exact rpOf_f c s w hs hc1 hc2
namespace reportBack
set_option maxRecDepth 100000 in
set_option maxHeartbeats 4000000 in
theorem walk (q0 : RP) (qa0 : Option Addr) (qc0 : Nat) (m0a : q0.ok) (m0b : i64ok q0.clock) (m0c : ∀ b ∈ q0.blocks, b.wide) (m0d : q0.blocks.length ≤ qc0) (m0e : qc0 ≤ 9223372036854775807) (m0g : (qa0 = none ∧ q0.blocks.length = 0 ∧ qc0 = 0) ∨ ∃ b off, qa0 = some ⟨b, off, none⟩) (w : World) (m0f : ReadsB BK.vals w qa0 q0.blocks) :
    Calls Try.prog 4 #[.agg (q0.cells qa0 qc0)] w fun e w' => e = .returned (.bool true) ∧ Below w.heap.size w w' := by
  obtain ⟨i0, hi, hz0, hz1, hz2⟩ := info_parts infoBk
  obtain ⟨c1, c2⟩ := m0b
  obtain ⟨src, isS, clock, time, packets, bytes, l⟩ := q0
  simp only [RP.cells] at *
  have HOK := Lib.hid (rp_take_ok (⟨src, isS, clock, time, packets, bytes, l⟩ : RP) m0a)
  simp only at HOK
  clear m0a m0c
  obtain ⟨m, hm⟩ : ∃ m : Nat, min (l.length : Int) 33 = (m : Int) := ⟨(min (l.length : Int) 33).toNat, by omega⟩
  have hml : (l.take 33).length = m := by rw [List.length_take]; omega
  have hm33 : m ≤ 33 := by omega
  have hmle : m ≤ l.length := by omega
  have htk : l.take 33 = l.take m := by
    rcases Nat.lt_or_ge l.length 33 with h | h
    · rw [List.take_of_length_le (by omega), List.take_of_length_le (by omega)]
    · rw [show m = 33 from by omega]
  have HT := Lib.hid htk
  have HML := Lib.hid hml
  clear htk hml
  have hX1 := at7_new 31 w (.int .u32 src) (.bool isS) (.int .i64 clock) (.int .u32 time) (.int .u32 packets) (.int .u32 bytes) (.slice qa0 l.length qc0)
  have hb1 : Below w.heap.size w (w.alloc (.cells #[.int .u32 src, .bool isS, .int .i64 clock, .int .u32 time, .int .u32 packets, .int .u32 bytes, .slice qa0 l.length qc0] 31)) := (Below.refl _ _).alloc (Nat.le_refl _) _
  have HR := Lib.hid (fun W (h : Below w.heap.size w W) => m0f.later h)
  clear m0f
  go_enter Try.func4, Try.ntmps4
  go_upto_region 1 with fail
  generalize w.alloc (.cells #[.int .u32 src, .bool isS, .int .i64 clock, .int .u32 time, .int .u32 packets, .int .u32 bytes, .slice qa0 l.length qc0] 31) = w3 at hX1 hb1 ⊢
  obtain ⟨g, hg⟩ : ∃ g, w.heap.size = g := ⟨_, rfl⟩
  have HG := Lib.hid hg
  rw [hg] at hX1 hb1 HR ⊢
  clear hg
  go_wp2_with fail
  refine (rpAwake_any _).mono ?_
  rintro e w4 ⟨rfl, hb4⟩
  have hX4 := hX1.later hb4
  have hbb4 := hb1.trans (hb4.mono (by have := hX1.lt; omega))
  clear hX1 hb1 hb4
  have hg4 := hX4.lt
  go_upto_region 3 with fail
  go_cut [1] (fun z3 wx => z3 = .pointer (some ⟨g, 0, none⟩) ∧ ∃ a' c', At7 31 wx g (.int .u32 src) (.bool isS) (.int .i64 clock) (.int .u32 time) (.int .u32 packets) (.int .u32 bytes) (.slice a' m c') ∧ ReadsB BK.vals wx a' (l.take 33) ∧ Below g w wx)
  case first =>
    have hv0 := own_madeB w4 122 g w4.heap.size (by omega) rfl
    have hX5 := hX4.alloc (.cells #[] 122)
    have hb5 := hbb4.alloc (by omega) (.cells #[] 122)
    obtain ⟨x0, x1, x2, x3, x4, x5, x6⟩ := hX4.cells
    rcases m0g with ⟨rfl, hl0, rfl⟩ | ⟨b, off, rfl⟩
    · obtain rfl : l = [] := List.length_eq_zero_iff.1 hl0
      obtain rfl : m = 0 := by simp at hmle; exact hmle
      simp only [List.length_nil] at *
      have hmm : min (0 : Int) 33 = 0 := by decide
      go_wp2_with (at_builtin; refine append_none_stop rfl (.tmp 9) (.tmp 16) 29 rfl g 122 i0 7 Try.underlying29 hi _ [] rfl hv0 rfl ?_)
      intro w6 ad6 Hw
      have hX6 : At7 31 w6 g (.int .u32 src) (.bool isS) (.int .i64 clock) (.int .u32 time) (.int .u32 packets) (.int .u32 bytes) (.slice none 0 0) := by rw [Hw.out.1]; exact hX5
      have hb6 : Below g w w6 := by rw [Hw.out.1]; exact hb5
      clear hv0 hX5 hb5 Hw x0 x1 x2 x3 x4 x5 x6 hX4 hbb4
      obtain ⟨x0, x1, x2, x3, x4, x5, x6⟩ := hX6.cells
      obtain ⟨f0, f1, f2, f3, f4, f5, f6⟩ := hX6.frees
      have hX7 : At7 31 (w6.setCell ⟨g, 6, none⟩ (.slice ad6 0 0)) g (.int .u32 src) (.bool isS) (.int .i64 clock) (.int .u32 time) (.int .u32 packets) (.int .u32 bytes) (.slice ad6 0 0) := block_setCell hX6
      have hb7 := hb6.setCell (p := ⟨g, 6, none⟩) (Nat.le_refl _) (.slice ad6 0 0)
      go_wp2_with fail
      go_meet
      exact ⟨rfl, ad6, 0, hX7, .inl rfl, hb7⟩
    · have hpm : (0 : Int) ≤ (m : Int) := by omega
      have hpm2 : (m : Int) ≤ (qc0 : Int) := by omega
      have hnews : ∀ k u, (bksV (l.take m))[k]? = some u → (w4.alloc (.cells #[] 122)).cell? ((⟨b, off, none⟩ : Addr).add k) = some u := by
        intro k u hk
        rcases HR.out _ hb5 with h | ⟨b', off', ha, hc⟩
        · subst h; simp [bksV] at hk
        · cases ha
          rw [Go.WideShapes.add_plain]
          exact readsB_news hc m hmle k u hk
      have hnl : (bksV (l.take m)).length = m * 7 := by rw [bksV_len, List.length_take, Nat.min_eq_left hmle]
      have hone := bksV_one (l.take m)
      go_wp2_with (at_builtin; refine wpList_append_own _ rfl (.tmp 9) (.tmp 16) 29 rfl g 122 i0 (.agg #[.int .u32 0, .int .i64 0, .int .i64 0, .int .u32 0, .int .u32 0, .int .u32 0, .int .u32 0]) 7 40 Try.underlying29 hi hz0 hz1 hz2 rfl (by decide) _ 0 [] rfl hv0 ⟨b, off, none⟩ m qc0 (bksV (l.take m)) rfl hnl hnews hone ?d4 ?d5 ?d6 ?_)
      case d4 => unfold maxLen; omega
      case d5 => omega
      case d6 => simp; omega
      intro v' w6 hown hgrow _
      have hown2 : w6.ownsRow g 122 7 v' m (bksV (l.take 33)) := by
        rw [HT.out]
        exact hown
      obtain ⟨a', c', rfl, hq1, hq2, hq3, hrd⟩ := own_readsB hown2
      clear hq1 hq2 hq3 hrd
      have hown2' := hown2
      have hX6 : At7 31 w6 g (.int .u32 src) (.bool isS) (.int .i64 clock) (.int .u32 time) (.int .u32 packets) (.int .u32 bytes) (.slice (some ⟨b, off, none⟩) l.length qc0) := by
        unfold At7
        rw [hgrow.block g hX5.lt (row_neP hv0 hX5 (by intro cur p e; cases e))]
        exact hX5
      have hb6 : Below g w w6 := hb5.grown hgrow (by have := hX5.lt; omega) (fun k hk => (hv0.lt k hk).1)
      clear hv0 hX5 hb5 hown hgrow hown2 hnews hnl hone x0 x1 x2 x3 x4 x5 x6 hX4 hbb4
      obtain ⟨x0, x1, x2, x3, x4, x5, x6⟩ := hX6.cells
      obtain ⟨f0, f1, f2, f3, f4, f5, f6⟩ := hX6.frees
      have hX7 : At7 31 (w6.setCell ⟨g, 6, none⟩ (.slice a' m c')) g (.int .u32 src) (.bool isS) (.int .i64 clock) (.int .u32 time) (.int .u32 packets) (.int .u32 bytes) (.slice a' m c') := block_setCell hX6
      have hb7 := hb6.setCell (p := ⟨g, 6, none⟩) (Nat.le_refl _) (.slice a' m c')
      have hO7 := own7_set (i := 6) (u := .slice a' m c') hown2' hX6 (by decide)
      obtain ⟨a8, c8, e8, hq1, hq2, hq3, hrd8⟩ := own_readsB hO7
      cases e8
      clear hq1 hq2 hq3
      go_wp2_with fail
      go_meet
      exact ⟨rfl, a', c', hX7, hrd8, hb7⟩
  case rest =>
  obtain ⟨rfl, a', c', hX5, hB5, hb5⟩ := hcut
  rename World => w5
  clear hX4 hbb4 hg4 HR m0g m0d m0e hm hmle
  obtain ⟨lb, hlb⟩ : ∃ lb, l.take 33 = lb := ⟨_, rfl⟩
  rw [hlb] at hB5 HOK
  have hlen : lb.length = m := by rw [← hlb]; exact HML.out
  clear hlb HML HT
  subst hlen
  have hl33 : lb.length ≤ 33 := hm33
  have hB5' := hB5
  obtain ⟨x0, x1, x2, x3, x4, x5, x6⟩ := hX5.cells
  have hTold := toldRp_any (⟨src, isS, clock, time, packets, bytes, lb⟩ : RP) a' c' w5 HOK.out (by show lb.length ≤ _; omega) hB5
  unfold ToldRp at hTold
  simp only at hTold
  have HTo := Lib.hid hTold
  clear hTold
  go_wp2_with fail
  refine HTo.out.mono ?_
  rintro e w6 ⟨hb6, ax, cx, rfl, hz6⟩
  have hX6 := (hX5.later hb6).alloc (.cells #[.int .i64 src, .bool isS, .int .i64 clock, .int .i64 time, .int .i64 packets, .int .i64 bytes, .slice ax lb.length cx] 38)
  have hR6 := at7_new 38 w6 (.int .i64 src) (.bool isS) (.int .i64 clock) (.int .i64 time) (.int .i64 packets) (.int .i64 bytes) (.slice ax lb.length cx)
  have hal : Below w6.heap.size w6 (w6.alloc (.cells #[.int .i64 src, .bool isS, .int .i64 clock, .int .i64 time, .int .i64 packets, .int .i64 bytes, .slice ax lb.length cx] 38)) := (Below.refl _ _).alloc (Nat.le_refl _) _
  have hz7 := hz6.later hal
  have hB7 := (hB5'.later hb6).later hal
  have hbb6 := hb5.trans (hb6.mono (by have := hX5.lt; omega))
  have hbb7 := hbb6.trans (hal.mono (by have := hbb6.size; have := hX5.lt; have := hb6.size; omega))
  clear hX5 hB5 hB5' hb5 hb6 hz6 hbb6 hal HTo x0 x1 x2 x3 x4 x5 x6
  go_upto_region 5 with fail
  generalize w6.alloc (.cells #[.int .i64 src, .bool isS, .int .i64 clock, .int .i64 time, .int .i64 packets, .int .i64 bytes, .slice ax lb.length cx] 38) = w7 at hX6 hR6 hz7 hB7 hbb7 ⊢
  generalize w6.heap.size = gx at hR6 ⊢
  obtain ⟨x0, x1, x2, x3, x4, x5, x6⟩ := hX6.cells
  have HPi := Lib.hid (rpPiece_any (⟨src, isS, clock, time, packets, bytes, lb⟩ : RP) a' c' w7 hB7 (by show lb.length ≤ _; omega))
  have HRP := Lib.hid (fun W (h : ReadsB BK.rvals W ax lb) => rpRefPiece_any (⟨src, isS, clock, time, packets, bytes, lb⟩ : RP) ax cx W h (by show lb.length ≤ _; omega) HOK.out)
  have HCk := Lib.hid (fun W (h : ReadsB BK.vals W a' lb) v hv => rpCheck_any (⟨src, isS, clock, time, packets, bytes, lb⟩ : RP) a' c' W h (by show lb.length ≤ _; omega) v hv)
  have HMy := Lib.hid (fun W (h : ReadsB BK.rvals W ax lb) b hv => rpRefMay_any (⟨src, isS, clock, time, packets, bytes, lb⟩ : RP) ax cx W h (by show lb.length ≤ _; omega) b hv)
  simp only at HPi HRP HCk HMy
  have hPs : (rpP (⟨src, isS, clock, time, packets, bytes, lb⟩ : RP)).body.size ≤ 1000000 ∧ 0 ≤ (rpP (⟨src, isS, clock, time, packets, bytes, lb⟩ : RP)).count ∧ (rpP (⟨src, isS, clock, time, packets, bytes, lb⟩ : RP)).count ≤ 1000 := rpP_small _ hl33
  have hBk : rpMay (⟨src, isS, clock, time, packets, bytes, lb⟩ : RP) → Hid (ofE (rpP (⟨src, isS, clock, time, packets, bytes, lb⟩ : RP)) = 0 ∧ ofP (rpP (⟨src, isS, clock, time, packets, bytes, lb⟩ : RP)) = ⟨src, isS, clock, time, packets, bytes, lb⟩ ∧ ((rpP (⟨src, isS, clock, time, packets, bytes, lb⟩ : RP)).kind = 200 ∨ (rpP (⟨src, isS, clock, time, packets, bytes, lb⟩ : RP)).kind = 201)) := fun h => Lib.hid ⟨(rp_back _ h HOK.out).1, (rp_back _ h HOK.out).2, (ofE_zero _ (rp_back _ h HOK.out).1).1⟩
  generalize rpP (⟨src, isS, clock, time, packets, bytes, lb⟩ : RP) = PP at HPi HRP hPs hBk
  obtain ⟨pc, pk, ps⟩ := PP
  simp only at HPi HRP hPs
  obtain ⟨hps1, hps2, hps3⟩ := hPs
  go_wp2_with fail
  refine HPi.out.mono ?_
  rintro e w8 ⟨rfl, hb8⟩
  have hal : Below w8.heap.size w8 (w8.alloc (.cells #[.int .i64 pc, .int .i64 pk, .string ps] 35)) := (Below.refl _ _).alloc (Nat.le_refl _) _
  have hP9 := pc_new w8 ⟨pc, pk, ps⟩
  simp only at hP9
  have hX9 := (hX6.later hb8).later hal
  have hR9 := (hR6.later hb8).later hal
  have hz9 := (hz7.later hb8).later hal
  have hB9 := (hB7.later hb8).later hal
  have hbb8 := hbb7.trans (hb8.mono (by have := hX6.lt; omega))
  have hbb9 := hbb8.trans (hal.mono (by have := hX6.lt; have := hb8.size; omega))
  have hg8 : g ≤ w8.heap.size := by have := hX6.lt; have := hb8.size; omega
  clear hX6 hR6 hz7 hB7 hbb7 hb8 hal hbb8 HPi x0 x1 x2 x3 x4 x5 x6
  go_upto_region 6 with fail
  generalize w8.alloc (.cells #[.int .i64 pc, .int .i64 pk, .string ps] 35) = w9 at hP9 hX9 hR9 hz9 hB9 hbb9 ⊢
  generalize w8.heap.size = gp at hP9 hg8 ⊢
  obtain ⟨x0, x1, x2, x3, x4, x5, x6⟩ := hX9.cells
  obtain ⟨y0, y1, y2, y3, y4, y5, y6⟩ := hR9.cells
  obtain ⟨p0, p1, p2, _⟩ := pcAt_S hP9
  have hg9 : g ≤ w9.heap.size := by have := hX9.lt; omega
  have HZ := Lib.hid (fun W (h : Below w9.heap.size w9 W) => hz9.later h)
  have HB := Lib.hid (fun W (h : Below w9.heap.size w9 W) => hB9.later h)
  clear hz9 hB9
  by_cases hm : rpMay (⟨src, isS, clock, time, packets, bytes, lb⟩ : RP)
  · have hCk0 := Lib.hid (fun W h => HCk.out W h 0 (.inl ⟨rfl, hm⟩))
    have hMy0 := Lib.hid (fun W h => HMy.out W h true (by simp [hm]))
    have HBk := Lib.hid (hBk hm).out
    clear hm HCk HMy hBk
    have hd9 : Below w9.heap.size w9 w9.drew := by go_grown
    have tok1 : True := trivial
    go_cut [44] (fun z wx => z = .bool false ∧ Below w9.heap.size w9 wx)
    case first =>
      go_region_law (first | (go_simp; go_at_call 22; refine (HRP.out _ (HZ.out _ hd9)).mono ?_; rintro e w10 ⟨rfl, hb10⟩; have hh10 := hd9.trans hb10; have hX10 := hX9.later hh10; have hR10 := hR9.later hh10; obtain ⟨_, _, _, _, _, _, _⟩ := hX10.cells; obtain ⟨_, _, _, _, _, _, _⟩ := hR10.cells; obtain ⟨_, _, _, _⟩ := pcAt_S (hP9.later hh10)) | (go_simp; go_at_call 23; refine (hCk0.out _ (HB.out _ hh10)).mono ?_; rintro e w11 ⟨rfl, hb11⟩; have hh11 := hh10.trans (hb11.mono hh10.size); have hR11 := hR9.later hh11; obtain ⟨_, _, _, _, _, _, _⟩ := hR11.cells) | (have _t := tok1; go_simp; go_at_call 24; refine (hMy0.out _ (HZ.out _ hh11)).mono ?_; rintro e w12 ⟨rfl, hb12⟩; clear tok1; have hh12 := hh11.trans (hb12.mono hh11.size); have hR12 := hR9.later hh12; obtain ⟨_, _, _, _, _, _, _⟩ := hR12.cells) | (go_simp; go_at_call 24; refine (hMy0.out _ (HZ.out _ hh12)).mono ?_; rintro e w13 ⟨rfl, hb13⟩; have hh13 := hh12.trans (hb13.mono hh12.size)))
      all_goals
        go_wp2_with fail
        go_meet
        exact ⟨rfl, hh13⟩
    case rest =>
    obtain ⟨rfl, hb10⟩ := hcut
    rename World => w10
    have hR10 := hR9.later hb10
    have hP10 : PcAt w10 gp ⟨pc, pk, ps⟩ := hP9.later hb10
    have hbb10 := hbb9.trans (hb10.mono hg9)
    have hz10 := HZ.out _ hb10
    clear hX9 hR9 hP9 hbb9 hCk0 HRP HB HZ hd9 tok1 hg9 hb10 x0 x1 x2 x3 x4 x5 x6 y0 y1 y2 y3 y4 y5 y6 p0 p1 p2
    obtain ⟨y0, y1, y2, y3, y4, y5, y6⟩ := hR10.cells
    have hg10 : g ≤ w10.heap.size := by have := hP10.lt; omega
    go_wp2_with fail
    refine (hMy0.out _ hz10).mono ?_
    rintro e w11 ⟨rfl, hb11⟩
    have hR11 := hR10.later hb11
    have hP11 := hP10.later hb11
    have hz11 := hz10.later hb11
    have hbb11 := hbb10.trans (hb11.mono hg10)
    have HOf := Lib.hid (fun W => rpOf_any ⟨pc, pk, ps⟩ W (by show ps.size ≤ _; omega) (by show -9223372036854775808 ≤ pc; omega) (by show pc ≤ _; omega) HBk.out.2.2)
    have HOf2 : Hid (∀ W e W', RpOfd ⟨pc, pk, ps⟩ W e W' → ∃ a c, e = .returned (.tuple #[.agg #[.int .u32 src, .bool isS, .int .i64 clock, .int .u32 time, .int .u32 packets, .int .u32 bytes, .slice a lb.length c], .int .i64 0]) ∧ ReadsB BK.vals W' a lb ∧ Below W.heap.size W W') := Lib.hid (by
      intro W e W' h
      unfold RpOfd at h
      rw [HBk.out.1, HBk.out.2.1] at h
      exact h)
    simp only at HOf
    clear hR10 hP10 hz10 hbb10 hg10 hb11 hMy0 HBk y0 y1 y2 y3 y4 y5 y6
    obtain ⟨p0, p1, p2, _⟩ := pcAt_S hP11
    go_wp2_with fail
    refine (HOf.out _).mono ?_
    intro e w12 h12
    obtain ⟨aq, cq, rfl, hq12, hb12⟩ := HOf2.out _ _ _ h12
    clear h12
    have hal : Below w12.heap.size w12 (w12.alloc (.cells #[.int .u32 src, .bool isS, .int .i64 clock, .int .u32 time, .int .u32 packets, .int .u32 bytes, .slice aq lb.length cq] 31)) := (Below.refl _ _).alloc (Nat.le_refl _) _
    have hQ13 := at7_new 31 w12 (.int .u32 src) (.bool isS) (.int .i64 clock) (.int .u32 time) (.int .u32 packets) (.int .u32 bytes) (.slice aq lb.length cq)
    have hR13 := (hR11.later hb12).later hal
    have hz13 := (hz11.later hb12).later hal
    have hq13 := hq12.later hal
    have hg11 : g ≤ w11.heap.size := by have := hP11.lt; omega
    have hbb12 := hbb11.trans (hb12.mono hg11)
    have hg12 : g ≤ w12.heap.size := by have := hb12.size; omega
    have hbb13 := hbb12.trans (hal.mono hg12)
    clear hR11 hP11 hz11 hbb11 hq12 hb12 hal hbb12 hg11 HOf HOf2 p0 p1 p2
    go_upto_region 11 with fail
    generalize w12.alloc (.cells #[.int .u32 src, .bool isS, .int .i64 clock, .int .u32 time, .int .u32 packets, .int .u32 bytes, .slice aq lb.length cq] 31) = w13 at hQ13 hR13 hz13 hq13 hbb13 ⊢
    generalize w12.heap.size = gq at hQ13 hg12 ⊢
    obtain ⟨x0, x1, x2, x3, x4, x5, x6⟩ := hQ13.cells
    obtain ⟨y0, y1, y2, y3, y4, y5, y6⟩ := hR13.cells
    have hTold := fun W (h : Below w13.heap.size w13 W) => toldRp_any (⟨src, isS, clock, time, packets, bytes, lb⟩ : RP) aq cq W HOK.out (by show lb.length ≤ _; omega) (hq13.later h)
    unfold ToldRp at hTold
    simp only at hTold
    have HTo := Lib.hid hTold
    have hSame := fun W a a2 c c2 hr hr2 => sameRp_t (⟨src, isS, clock, time, packets, bytes, lb⟩ : RP) a a2 c c2 W (by show lb.length ≤ _; omega) hr hr2
    simp only at hSame
    have HSm := Lib.hid hSame
    have HZ := Lib.hid (fun W (h : Below w13.heap.size w13 W) => hz13.later h)
    have hg13 : g ≤ w13.heap.size := by have := hQ13.lt; omega
    clear hTold hSame hz13 hq13
    have hd13 : Below w13.heap.size w13 w13.drew := by go_grown
    go_region_law (first | (go_simp; go_at_call 20; refine (HTo.out _ hd13).mono ?_; rintro e w14 ⟨hb14, ta, tc, rfl, hra⟩; have hh14 := hd13.trans hb14; have hR14 := hR13.later hh14; obtain ⟨_, _, _, _, _, _, _⟩ := hR14.cells) | (go_simp; go_at_call 19; refine (HSm.out _ _ _ _ _ hra (HZ.out _ hh14)).mono ?_; rintro e w15 ⟨rfl, hb15⟩; have hh15 := hh14.trans (hb15.mono hh14.size)))
    all_goals
      go_wp2
      go_ret
      exact ⟨rfl, by rw [HG.out]; exact hbb13.trans (hh15.mono hg13)⟩
  · have hCk0 := Lib.hid (fun W h => HCk.out W h 6 (.inr ⟨rfl, hm⟩))
    have hMy0 := Lib.hid (fun W h => HMy.out W h false (by simp [hm]))
    clear hm HCk HMy hBk
    have hSS : ∀ W : World, Below w9.heap.size w9 W → W.cell? ⟨g, 0, none⟩ = some (.int .u32 src) ∧ W.cell? ⟨g, 1, none⟩ = some (.bool isS) ∧ W.cell? ⟨g, 2, none⟩ = some (.int .i64 clock) ∧ W.cell? ⟨g, 3, none⟩ = some (.int .u32 time) ∧ W.cell? ⟨g, 4, none⟩ = some (.int .u32 packets) ∧ W.cell? ⟨g, 5, none⟩ = some (.int .u32 bytes) ∧ W.cell? ⟨g, 6, none⟩ = some (.slice a' lb.length c') ∧ W.cell? ⟨gx, 0, none⟩ = some (.int .i64 src) ∧ W.cell? ⟨gx, 1, none⟩ = some (.bool isS) ∧ W.cell? ⟨gx, 2, none⟩ = some (.int .i64 clock) ∧ W.cell? ⟨gx, 3, none⟩ = some (.int .i64 time) ∧ W.cell? ⟨gx, 4, none⟩ = some (.int .i64 packets) ∧ W.cell? ⟨gx, 5, none⟩ = some (.int .i64 bytes) ∧ W.cell? ⟨gx, 6, none⟩ = some (.slice ax lb.length cx) ∧ W.cell? ⟨gp, 0, none⟩ = some (.int .i64 pc) ∧ W.cell? ⟨gp, 1, none⟩ = some (.int .i64 pk) ∧ W.cell? ⟨gp, 2, none⟩ = some (.string ps) ∧ Below w9.heap.size w9 W := fun W h => by
      obtain ⟨a0, a1, a2, a3, a4, a5, a6⟩ := (hX9.later h).cells
      obtain ⟨b0, b1, b2, b3, b4, b5, b6⟩ := (hR9.later h).cells
      obtain ⟨c0, c1, c2, _⟩ := pcAt_S (PcAt.later hP9 h)
      exact ⟨a0, a1, a2, a3, a4, a5, a6, b0, b1, b2, b3, b4, b5, b6, c0, c1, c2, h⟩
    have HSS := Lib.hid hSS
    clear hSS
    go_cut [44] (fun z wx => z = .bool false ∧ Below w9.heap.size w9 wx)
    case first =>
      go_region_held3 (fun W => W.cell? ⟨g, 0, none⟩ = some (.int .u32 src) ∧ W.cell? ⟨g, 1, none⟩ = some (.bool isS) ∧ W.cell? ⟨g, 2, none⟩ = some (.int .i64 clock) ∧ W.cell? ⟨g, 3, none⟩ = some (.int .u32 time) ∧ W.cell? ⟨g, 4, none⟩ = some (.int .u32 packets) ∧ W.cell? ⟨g, 5, none⟩ = some (.int .u32 bytes) ∧ W.cell? ⟨g, 6, none⟩ = some (.slice a' lb.length c') ∧ W.cell? ⟨gx, 0, none⟩ = some (.int .i64 src) ∧ W.cell? ⟨gx, 1, none⟩ = some (.bool isS) ∧ W.cell? ⟨gx, 2, none⟩ = some (.int .i64 clock) ∧ W.cell? ⟨gx, 3, none⟩ = some (.int .i64 time) ∧ W.cell? ⟨gx, 4, none⟩ = some (.int .i64 packets) ∧ W.cell? ⟨gx, 5, none⟩ = some (.int .i64 bytes) ∧ W.cell? ⟨gx, 6, none⟩ = some (.slice ax lb.length cx) ∧ W.cell? ⟨gp, 0, none⟩ = some (.int .i64 pc) ∧ W.cell? ⟨gp, 1, none⟩ = some (.int .i64 pk) ∧ W.cell? ⟨gp, 2, none⟩ = some (.string ps) ∧ Below w9.heap.size w9 W) (first | (go_keep; done) | exact HSS.out _ (Below.drew (Below.refl _ _)) | exact HSS.out _ (Below.drew (by go_split_ands; assumption)) | exact HSS.out _ (below_step (by go_split_ands; assumption) (by assumption)) | (go_split_ands; assumption)) (first | (go_at_call 22; refine (HRP.out _ (HZ.out _ (by go_split_ands; assumption))).mono ?_; rintro e w' ⟨rfl, hbA⟩) | (go_at_call 23; refine (hCk0.out _ (HB.out _ (by go_split_ands; assumption))).mono ?_; rintro e w' ⟨rfl, hbB⟩) | (go_at_call 24; refine (hMy0.out _ (HZ.out _ (by go_split_ands; assumption))).mono ?_; rintro e w' ⟨rfl, hbC⟩))
      all_goals
        go_wp2_with fail
        go_meet
        exact ⟨by simp, by first | assumption | (go_split_ands; assumption)⟩
    case rest =>
    obtain ⟨rfl, hb10⟩ := hcut
    rename World => w10
    have hR10 := hR9.later hb10
    have hbb10 := hbb9.trans (hb10.mono hg9)
    have hz10 := HZ.out _ hb10
    have hg10 : g ≤ w10.heap.size := by have := hb10.size; omega
    clear hX9 hR9 hP9 hbb9 hCk0 HRP HB HZ hb10 HSS x0 x1 x2 x3 x4 x5 x6 y0 y1 y2 y3 y4 y5 y6 p0 p1 p2
    obtain ⟨y0, y1, y2, y3, y4, y5, y6⟩ := hR10.cells
    go_wp2_with fail
    refine (hMy0.out _ hz10).mono ?_
    rintro e w11 ⟨rfl, hb11⟩
    have hbb11 := hbb10.trans (hb11.mono hg10)
    go_wp2
    go_ret
    exact ⟨rfl, by rw [HG.out]; exact hbb11⟩
end reportBack
end Go.Proofs.Ytkchhiiomahbaaa

