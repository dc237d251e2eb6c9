/- GaugeFalls: the walk. -/
import Derived.Test.YtolbnbjbehdnaaaGaW
import Derived.Test.YtolbnbjbehdnaaaGaE
namespace Go.Proofs.Ytolbnbjbehdnaaa
open Go.RowKit
set_option linter.unusedVariables false
theorem rNext_ex (s q now : Int) (h0 : 0 ≤ s) (h1 : s ≤ 17592186044416) (q0 : 0 ≤ q) (q1 : q ≤ now) (n1 : now ≤ 1099511627776) :
    ∃ s' q' : Int, 0 ≤ s' ∧ s' ≤ s ∧ 0 ≤ q' ∧ q' ≤ now ∧ (4160 ≤ now - q → s' = 0) ∧ ∀ W : World, Calls Try.prog 10 #[.agg #[.int .i64 s, .int .i64 q, .int .i64 0], .int .i64 now, .int .i64 0] W fun e w' => e = .returned (.agg #[.int .i64 s', .int .i64 q', .int .i64 0]) ∧ Below W.heap.size W w' := by
  by_cases hn : 64 < (now - q) / 64
  · exact ⟨0, q + (now - q) / 64 * 64, by omega, by omega, by omega, by omega, fun _ => rfl, fun W => rNext0_any s q now h0 h1 q0 q1 n1 _ rfl hn W⟩
  · obtain ⟨r0, r1⟩ := rdn_bd ((now - q) / 64).toNat s h0
    have hc : (now - q) / 64 = (((now - q) / 64).toNat : Int) := by omega
    exact ⟨rdn ((now - q) / 64).toNat s, q + (((now - q) / 64).toNat : Int) * 64, r0, r1, by omega, by omega, fun h => by omega, fun W => rNext1_any s q now h0 h1 q0 q1 n1 _ hc (by omega) W⟩
theorem ga_T {T U : TypeId} {w W : World} {B g g2 : Nat} {c0 c1 c2 z0 z1 z2 : Value} (hX : At3 T W g c0 c1 c2) (hY : At3 U W g2 z0 z1 z2) (hb : Below B w W) :
    W.cell? ⟨g, 0, none⟩ = some c0 ∧ W.cell? ⟨g, 1, none⟩ = some c1 ∧ W.cell? ⟨g, 2, none⟩ = some c2 ∧ W.cell? ⟨g2, 0, none⟩ = some z0 ∧ W.cell? ⟨g2, 1, none⟩ = some z1 ∧ W.cell? ⟨g2, 2, none⟩ = some z2 ∧ At3 T W g c0 c1 c2 ∧ At3 U W g2 z0 z1 z2 ∧ Below B w W := by
  obtain ⟨a0, a1, a2⟩ := hX.cells
  obtain ⟨b0, b1, b2⟩ := hY.cells
  exact ⟨a0, a1, a2, b0, b1, b2, hX, hY, hb⟩
theorem ga_B {T : TypeId} {w W W' : World} {B g : Nat} {c0 c1 c2 : Value} (hg : B ≤ g) (h : At3 T W g c0 c1 c2) (hb : Below B w W) (k : Below W.heap.size W W') : Below B w W' := hb.trans (k.mono (by have := h.lt; omega))
theorem ga_U {T : TypeId} {w W : World} {B g : Nat} {c0 c1 c2 : Value} (hX : At3 T W g c0 c1 c2) (hb : Below B w W) :
    W.cell? ⟨g, 0, none⟩ = some c0 ∧ W.cell? ⟨g, 1, none⟩ = some c1 ∧ W.cell? ⟨g, 2, none⟩ = some c2 ∧ At3 T W g c0 c1 c2 ∧ Below B w W := by
  obtain ⟨a0, a1, a2⟩ := hX.cells
  exact ⟨a0, a1, a2, hX, hb⟩
namespace gaugeFalls
set_option maxRecDepth 100000 in
set_option maxHeartbeats 3200000 in
theorem walk (a0 a1 a2 : Int) (p1 : Option Addr) (len1 cap1 : Nat) (z1 : List Int) (w0 : (Lit.int .i64 a0).wf = true) (w1 : (Lit.int .i64 a1).wf = true) (w2 : (Lit.int .i64 a2).wf = true) (w : World) (hrow : IsRow .i64 w p1 len1 cap1 z1) :
    Calls Try.prog 4 #[.agg #[.int .i64 a0, .int .i64 a1, .int .i64 a2], .slice p1 len1 cap1] w fun e w' => e = .returned (.bool true) ∧ Below w.heap.size w w' := by
  obtain ⟨es, rfl, l1, l2, hr0, hwf⟩ := hrow.reads
  have hlen : es.length ≤ cap1 := l1
  clear w0 w1 w2 hrow hwf
  have HR := Lib.hid (fun (W : World) (h : Below w.heap.size w W) => hr0.later h)
  clear hr0
  have s0 : 0 ≤ max 0 (min a0 1073741824) := by omega
  have s1 : max 0 (min a0 1073741824) ≤ 1073741824 := by omega
  have q0 : 0 ≤ max 0 (min a1 1073741824) := by omega
  have q1 : max 0 (min a1 1073741824) ≤ 1073741824 := by omega
  generalize hes : max 0 (min a0 1073741824) = s at s0 s1
  generalize heq : max 0 (min a1 1073741824) = q at q0 q1
  have hX : At3 30 (w.alloc (.cells #[.int .i64 a0, .int .i64 a1, .int .i64 a2] 30)) w.heap.size (.int .i64 a0) (.int .i64 a1) (.int .i64 a2) := at3_new _ w _ _ _ _ rfl
  have hb : Below w.heap.size w (w.alloc (.cells #[.int .i64 a0, .int .i64 a1, .int .i64 a2] 30)) := (Below.refl _ _).alloc (Nat.le_refl _) _
  go_enter Try.func4, Try.ntmps4
  go_wp2_with fail
  generalize (w.alloc (.cells #[.int .i64 a0, .int .i64 a1, .int .i64 a2] 30)) = wq at hX hb ⊢
  generalize hgr : w.heap.size = gr at hX hb HR ⊢
  have HGR := Lib.hid hgr
  clear hgr
  refine (gaAwake_any _).mono ?_
  rintro e wa ⟨rfl, hba⟩
  have hXa := hX.later hba
  have hb3 := hb.trans (hba.mono (by have := hX.lt; omega))
  clear hX hb hba
  obtain ⟨_, _, _⟩ := hXa.cells
  go_upto_region 3 with fail
  go_cut [5] (fun z wx => ∃ g, z = .pointer (some ⟨g, 0, none⟩) ∧ gr ≤ g ∧ At3 32 wx g (.int .i64 s) (.int .i64 q) (.int .i64 0) ∧ Below gr w wx)
  case first =>
    have hle : gr ≤ wa.heap.size := by have := hXa.lt; omega
    obtain ⟨_, _, _⟩ := (hXa.alloc (.cells #[.int .i64 0, .int .i64 0, .int .i64 0] 32)).cells
    obtain ⟨_, _, _⟩ := (hXa.alloc (.cells #[.int .i64 0, .int .i64 0, .int .i64 0] 32)).drew.cells
    obtain ⟨_, _, _⟩ := hXa.drew.cells
    have hN := at3_new 32 wa.drew wa.heap.size (.int .i64 s) (.int .i64 q) (.int .i64 0) rfl
    go_region_law (first | (go_simp; go_at_call 9; refine (clip_any _ 0 1073741824 _).mono ?_; rintro e w' ⟨rfl, rfl⟩))
    all_goals
      go_wp2_with fail
      go_meet
      first
      | exact ⟨_, rfl, hle, (at3_new 32 wa wa.heap.size (.int .i64 s) (.int .i64 q) (.int .i64 0) rfl).drew, (hb3.alloc hle _).drew⟩
      | exact ⟨_, rfl, hle, at3_new 32 wa.drew wa.heap.size (.int .i64 s) (.int .i64 q) (.int .i64 0) rfl, hb3.drew.alloc hle _⟩
      | exact ⟨wa.heap.size, rfl, hle, at3_store (at3_new 32 wa wa.heap.size (.int .i64 0) (.int .i64 0) (.int .i64 0) rfl).drew _ _ _, (hb3.alloc hle _).drew.trans ((store3_only _ _ _ _ _).below hle)⟩
  case rest =>
  obtain ⟨g, rfl, hle, hX, hb⟩ := hcut
  clear hXa hb3 hes heq
  rename World => w3
  obtain ⟨_, _, _⟩ := hX.cells
  go_wp2_with fail
  have hm : ∀ z : Int, bits .and .i64 z 65535 = z % 65536 := fun z => i64_mask z 16 (by omega)
  have HM := Lib.hid hm
  clear hm
  go_loopw [6, 7] (fun zn zi wr => ∃ (k : Nat) (s q nw : Int), k ≤ es.length ∧ k ≤ 60 ∧ zi = .int .i64 k ∧ zn = .int .i64 nw ∧ 0 ≤ s ∧ s ≤ 1073741824 ∧ 0 ≤ q ∧ q ≤ nw ∧ nw ≤ 1073741824 + 65535 * k ∧ At3 32 wr g (.int .i64 s) (.int .i64 q) (.int .i64 0) ∧ Below gr w wr)
    (fun _ zi _ => 60 - (intOf zi).toNat)
  case atStart => exact ⟨0, s, q, q, by omega, by omega, rfl, rfl, s0, s1, q0, by omega, by omega, hX, hb⟩
  case round =>
    clear hX hb s0 s1 q0 q1
    rename_i _ _ _ _ _ _
    obtain ⟨k, s, q, nw, hk, hk60, rfl, rfl, s0, s1, q0, q1, n1, hXk, hbk⟩ := hrel
    obtain ⟨_, _, _⟩ := hXk.frees
    obtain ⟨_, _, _⟩ := hXk.cells
    have hl := hXk.lt
    by_cases hlt : k < es.length
    · by_cases hl60 : k < 60
      · obtain ⟨cb, co, rfl, hcell⟩ := (HR.out wr hbk).at hlt
        have hme := HM.out (es[k]?.getD 0)
        generalize es[k]?.getD 0 = z at hcell hme
        have z0 : 0 ≤ z % 65536 := by omega
        have z1 : z % 65536 < 65536 := by omega
        generalize z % 65536 = d at hme z0 z1
        obtain ⟨s', q', s0', s1', q0', q1', _, hN⟩ := rNext_ex s q (nw + d) s0 (by omega) q0 (by omega) (by omega)
        have HN := Lib.hid hN
        clear hN
        have hkc : (k : Int) < (es.length : Int) := by omega
        have hV1 := Lib.hid (fun W => rValue_any s' q' s0' (by omega) W)
        have hV2 := Lib.hid (fun W => rValue_any s q s0 (by omega) W)
        have hdv : decide (s / 256 < s' / 256) = false := by rw [decide_eq_false_iff_not]; omega
        have hdq : decide (nw + d < q') = false := by rw [decide_eq_false_iff_not]; omega
        generalize s / 256 = v2 at hV2 hdv
        generalize s' / 256 = v1 at hV1 hdv
        go_wp2_with fail
        refine (HN.out _).mono ?_
        rintro e w6 ⟨rfl, hb6⟩
        have hX6 := (hXk.later hb6).alloc (.cells #[.int .i64 s', .int .i64 q', .int .i64 0] 32)
        have hY6 := at3_new 32 w6 _ (.int .i64 s') (.int .i64 q') (.int .i64 0) rfl
        have hb7 := (hbk.trans (hb6.mono (by omega))).alloc (by have := (hXk.later hb6).lt; omega) (.cells #[.int .i64 s', .int .i64 q', .int .i64 0] 32)
        have hgn : g < w6.heap.size := (hXk.later hb6).lt
        go_upto_region 10 with fail
        generalize w6.alloc (.cells #[.int .i64 s', .int .i64 q', .int .i64 0] 32) = w7 at hX6 hY6 hb7 ⊢
        generalize w6.heap.size = gn at hY6 hgn ⊢
        clear hb6 hXk hbk hl HN
        have hne : gn ≠ g := by omega
        have hgle : gr ≤ gn := by omega
        go_region_held3 (fun W => W.cell? ⟨g, 0, none⟩ = some (.int .i64 s) ∧ W.cell? ⟨g, 1, none⟩ = some (.int .i64 q) ∧ W.cell? ⟨g, 2, none⟩ = some (.int .i64 0) ∧ W.cell? ⟨gn, 0, none⟩ = some (.int .i64 s') ∧ W.cell? ⟨gn, 1, none⟩ = some (.int .i64 q') ∧ W.cell? ⟨gn, 2, none⟩ = some (.int .i64 0) ∧ At3 32 W g (.int .i64 s) (.int .i64 q) (.int .i64 0) ∧ At3 32 W gn (.int .i64 s') (.int .i64 q') (.int .i64 0) ∧ Below gr w W) (first | exact ga_T hX6.drew hY6.drew hb7.drew | (go_split_ands; assumption) | exact ga_T (At3.later (by go_split_ands; assumption) (by assumption)) (At3.later (by go_split_ands; assumption) (by assumption)) (ga_B hgle (by go_split_ands; assumption) (by go_split_ands; assumption) (by assumption))) (first | (go_at_call_of 11 (Value.int .i64 s'); refine (hV1.out _).mono ?_; rintro e w' ⟨rfl, hbx⟩) | (go_at_call 11; refine (hV2.out _).mono ?_; rintro e w' ⟨rfl, hby⟩))
        all_goals
          go_split_ands
          have hX9 : At3 32 w' g (.int .i64 s) (.int .i64 q) (.int .i64 0) := by assumption
          have hY9 : At3 32 w' gn (.int .i64 s') (.int .i64 q') (.int .i64 0) := by assumption
          have hb9 : Below gr w w' := by assumption
          obtain ⟨_, _, _⟩ := hX9.frees
          have hX10 := at3_store hX9 (.int .i64 s') (.int .i64 q') (.int .i64 0)
          have hb10 := hb9.trans ((store3_only w' g (.int .i64 s') (.int .i64 q') (.int .i64 0)).below hle)
          go_wp2_with fail
          go_roundw
          case rel => exact ⟨k + 1, s', q', nw + d, by omega, by omega, by go_num, rfl, s0', by omega, q0', q1', by omega, hX10, hb10⟩
          case measure => simp [intOf]; omega
      · obtain rfl : k = 60 := by omega
        have hkc : (60 : Int) < (es.length : Int) := by omega
        obtain ⟨s', q', s0', s1', q0', q1', hz, hN⟩ := rNext_ex s q (nw + 1048576) s0 (by omega) q0 (by omega) (by omega)
        obtain rfl := hz (by omega)
        have HN := Lib.hid hN
        clear hN hz
        have hV1 := Lib.hid (fun W => rValue_any 0 q' (by decide) (by decide) W)
        go_wp2_with fail
        refine (HN.out _).mono ?_
        rintro e w6 ⟨rfl, hb6⟩
        have hb7 := hbk.trans (hb6.mono (by omega))
        go_wp2_with fail
        refine (hV1.out _).mono ?_
        rintro e w7 ⟨rfl, hb8⟩
        have hb9 := hb7.trans (hb8.mono (by have := (hXk.later hb6).lt; omega))
        go_wp2
        go_ret
        exact ⟨rfl, by rw [HGR.out]; exact hb9⟩
    · obtain rfl : k = es.length := by omega
      obtain ⟨s', q', s0', s1', q0', q1', hz, hN⟩ := rNext_ex s q (nw + 1048576) s0 (by omega) q0 (by omega) (by omega)
      obtain rfl := hz (by omega)
      have HN := Lib.hid hN
      clear hN hz
      have hV1 := Lib.hid (fun W => rValue_any 0 q' (by decide) (by decide) W)
      go_wp2_with fail
      refine (HN.out _).mono ?_
      rintro e w6 ⟨rfl, hb6⟩
      have hb7 := hbk.trans (hb6.mono (by omega))
      go_wp2_with fail
      refine (hV1.out _).mono ?_
      rintro e w7 ⟨rfl, hb8⟩
      have hb9 := hb7.trans (hb8.mono (by have := (hXk.later hb6).lt; omega))
      go_wp2
      go_ret
      exact ⟨rfl, by rw [HGR.out]; exact hb9⟩
end gaugeFalls
end Go.Proofs.Ytolbnbjbehdnaaa
