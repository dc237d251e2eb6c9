/- PacePlays: the walk. -/
import Derived.Test.YtgmggilnhkdceaaPaW
import Derived.Test.YtgmggilnhkdceaaRecs
namespace Go.Proofs.Ytgmggilnhkdceaa
open Go.RowKit
set_option linter.unusedVariables false
def paActP : List (Value → Prop) := [isNum .i64, isNum .i64, isNum .i64]
theorem paAct_at {w wr : World} {a : Option Addr} {n k : Nat} (h : Recs paActP w a n) (hb : Below w.heap.size w wr) (hk : k < n) :
    ∃ b off, a = some ⟨b, off, none⟩ ∧ b < w.heap.size ∧ ∃ (kd z l : Int), wr.cell? ⟨b, off + k * 3, none⟩ = some (.int .i64 kd) ∧ wr.cell? ⟨b, off + k * 3 + 1, none⟩ = some (.int .i64 z) ∧ wr.cell? ⟨b, off + k * 3 + 2, none⟩ = some (.int .i64 l) := by
  rcases h with h | ⟨b, off, rfl, hlt, hc⟩
  · omega
  · obtain ⟨v0, h0, kd, rfl, _⟩ := hc k hk 0 _ rfl
    obtain ⟨v1, h1, z, rfl, _⟩ := hc k hk 1 _ rfl
    obtain ⟨v2, h2, l, rfl, _⟩ := hc k hk 2 _ rfl
    refine ⟨b, off, rfl, hlt, kd, z, l, ?_, ?_, ?_⟩
    · rw [hb.cell (p := ⟨b, off + k * 3, none⟩) hlt]; exact h0
    · rw [hb.cell (p := ⟨b, off + k * 3 + 1, none⟩) hlt]; exact h1
    · rw [hb.cell (p := ⟨b, off + k * 3 + 2, none⟩) hlt]; exact h2
/-- What both sides do, in values. -/
theorem at_bothP (q : PP) (now : Int) : ∃ n0 n1 n2 n3 : Int,
    (∀ w : World, Calls Try.prog 25 #[.agg #[.int .i64 q.r, .int .i64 q.b, .int .i64 q.k, .int .i64 q.l], .int .i64 now] w fun e w' => e = .returned (.agg #[.int .i64 n0, .int .i64 n1, .int .i64 n2, .int .i64 n3]) ∧ Below w.heap.size w w') ∧
    (∀ w : World, Calls Try.prog 26 #[.agg #[.int .i64 q.r, .int .i64 q.b, .int .i64 q.k, .int .i64 q.l], .int .i64 now] w fun e w' => e = .returned (.agg #[.int .i64 n0, .int .i64 n1, .int .i64 n2, .int .i64 n3]) ∧ Below w.heap.size w w') :=
  ⟨(q.at now).r, (q.at now).b, (q.at now).k, (q.at now).l, fun w => paAt_any q now w, fun w => refPaAt_any q now w⟩
theorem take_bothP (q : PP) (now n : Int) : ∃ (n0 n1 n2 n3 : Int) (t : Bool),
    (∀ w : World, Calls Try.prog 27 #[.agg #[.int .i64 q.r, .int .i64 q.b, .int .i64 q.k, .int .i64 q.l], .int .i64 now, .int .i64 n] w fun e w' => e = .returned (.tuple #[.agg #[.int .i64 n0, .int .i64 n1, .int .i64 n2, .int .i64 n3], .bool t]) ∧ Below w.heap.size w w') ∧
    (∀ w : World, Calls Try.prog 28 #[.agg #[.int .i64 q.r, .int .i64 q.b, .int .i64 q.k, .int .i64 q.l], .int .i64 now, .int .i64 n] w fun e w' => e = .returned (.tuple #[.agg #[.int .i64 n0, .int .i64 n1, .int .i64 n2, .int .i64 n3], .bool t]) ∧ Below w.heap.size w w') :=
  ⟨(q.take now n).r, (q.take now n).b, (q.take now n).k, (q.take now n).l, _, fun w => paTake_any q now n w, fun w => refPaTake_any q now n w⟩
theorem chg_bothP (q : PP) (now n : Int) : ∃ n0 n1 n2 n3 : Int,
    (∀ w : World, Calls Try.prog 29 #[.agg #[.int .i64 q.r, .int .i64 q.b, .int .i64 q.k, .int .i64 q.l], .int .i64 now, .int .i64 n] w fun e w' => e = .returned (.agg #[.int .i64 (max 1 (min n 65535)), .int .i64 n1, .int .i64 n2, .int .i64 n3]) ∧ Below w.heap.size w w') ∧
    (∀ w : World, Calls Try.prog 26 #[.agg #[.int .i64 q.r, .int .i64 q.b, .int .i64 q.k, .int .i64 q.l], .int .i64 now] w fun e w' => e = .returned (.agg #[.int .i64 n0, .int .i64 n1, .int .i64 n2, .int .i64 n3]) ∧ Below w.heap.size w w') :=
  ⟨(q.at now).r, (q.at now).b, (q.at now).k, (q.at now).l, fun w => paChg_any q now n w, fun w => refPaAt_any q now w⟩
theorem ppZ {T0 : TypeId} {W w : World} {B g0 : Nat} {c0 c1 c2 c3 : Value} (h0 : At4 T0 W g0 c0 c1 c2 c3) (hb : Below B w W) :
    W.cell? ⟨g0, 0, none⟩ = some c0 ∧ W.cell? ⟨g0, 1, none⟩ = some c1 ∧ W.cell? ⟨g0, 3, none⟩ = some c3 ∧ At4 T0 W g0 c0 c1 c2 c3 ∧ Below B w W :=
  ⟨h0.cells.1, h0.cells.2.1, h0.cells.2.2.2, h0, hb⟩
theorem ppZ' {T0 : TypeId} {W W' w : World} {B g0 : Nat} {c0 c1 c2 c3 : Value} (hB : B ≤ g0) (h0 : At4 T0 W g0 c0 c1 c2 c3) (hb : Below B w W) (k : Below W.heap.size W W') :
    W'.cell? ⟨g0, 0, none⟩ = some c0 ∧ W'.cell? ⟨g0, 1, none⟩ = some c1 ∧ W'.cell? ⟨g0, 3, none⟩ = some c3 ∧ At4 T0 W' g0 c0 c1 c2 c3 ∧ Below B w W' :=
  ppZ (h0.later k) (hb.trans (k.mono (by have := h0.lt; omega)))
namespace pacePlays
set_option maxRecDepth 100000 in
set_option maxHeartbeats 6400000 in
theorem walk (a00 a01 a02 a03 : Int) (p1 : Option Addr) (len1 cap1 : Nat) (w00 : (Lit.int .i64 a00).wf = true) (w01 : (Lit.int .i64 a01).wf = true) (w02 : (Lit.int .i64 a02).wf = true) (w03 : (Lit.int .i64 a03).wf = true) (w : World) (wr1 : Recs paActP w p1 len1) (hl : len1 ≤ 9223372036854775807) :
    Calls Try.prog 6 #[.agg #[.int .i64 a00, .int .i64 a01, .int .i64 a02, .int .i64 a03], .slice p1 len1 cap1] w fun e w' => e = .returned (.bool true) ∧ Below w.heap.size w w' := by
  clear w00 w01 w02 w03
  have HACT := Lib.hid (fun (k : Nat) (hk : k < len1) (W : World) (hb : Below w.heap.size w W) => paAct_at wr1 hb hk)
  have HA := Lib.hid (fun (W : World) => paAwake_any W)
  have HN := Lib.hid (fun (W : World) => paNew_any a00 a01 a03 W)
  have HF := Lib.hid (fun (W : World) => refFit_any ⟨a00, a01, 1048576, a03⟩ W)
  generalize PP.fit ⟨a00, a01, 1048576, a03⟩ = ff at HN HF
  obtain ⟨f0, f1, f2, f3⟩ := ff
  simp only [PP.val] at HN HF
  have HAT := Lib.hid at_bothP
  have HTK := Lib.hid take_bothP
  have HCH := Lib.hid chg_bothP
  clear wr1
  have hmask : ∀ z : Int, bits .and .i64 z 1048575 = z % 1048576 := fun z => i64_mask z 20 (by omega)
  have hm0 : 0 ≤ max 0 (min a03 1099511627776) := by omega
  have hm1 : max 0 (min a03 1099511627776) ≤ 1099511627776 := by omega
  generalize hmm : max 0 (min a03 1099511627776) = m0 at hm0 hm1
  have hX0 : At4 47 (w.alloc (.cells #[.int .i64 a00, .int .i64 a01, .int .i64 a02, .int .i64 a03] 47)) w.heap.size (.int .i64 a00) (.int .i64 a01) (.int .i64 a02) (.int .i64 a03) := at4_new 47 _ _ (.int .i64 a00) (.int .i64 a01) (.int .i64 a02) (.int .i64 a03) rfl
  have hb : Below w.heap.size w (w.alloc (.cells #[.int .i64 a00, .int .i64 a01, .int .i64 a02, .int .i64 a03] 47)) := (Below.refl _ _).alloc (Nat.le_refl _) _
  go_enter Try.func6, Try.ntmps6
  go_upto_region 1 with fail
  generalize (w.alloc (.cells #[.int .i64 a00, .int .i64 a01, .int .i64 a02, .int .i64 a03] 47)) = w2 at hX0 hb ⊢
  generalize hg0 : w.heap.size = g0 at hX0 hb ⊢
  have HG := Lib.hid hg0
  clear hg0
  obtain ⟨_, _, _, _⟩ := hX0.frees
  obtain ⟨_, _, _, _⟩ := hX0.cells
  go_wp2_with fail
  refine (HA.out _).mono ?_
  rintro e w3 ⟨rfl, hk3⟩
  have hX0_3 := hX0.later hk3
  have hb3 := hb.trans (hk3.mono (by have := hX0.lt; omega))
  obtain ⟨_, _, _, _⟩ := hX0_3.frees
  obtain ⟨_, _, _, _⟩ := hX0_3.cells
  clear HA
  go_upto_region 3 with fail
  have hl0 := hX0_3.lt
  go_cut [5, 6] (fun y z wx => ∃ g1 g2, y = .pointer (some ⟨g1, 0, none⟩) ∧ z = .pointer (some ⟨g2, 0, none⟩) ∧ g0 < g1 ∧ g0 < g2 ∧ g1 ≠ g2 ∧ At4 47 wx g0 (.int .i64 a00) (.int .i64 a01) (.int .i64 a02) (.int .i64 a03) ∧ At4 49 wx g1 (.int .i64 a00) (.int .i64 a01) (.int .i64 a02) (.int .i64 a03) ∧ At4 47 wx g2 (.int .i64 a00) (.int .i64 a01) (.int .i64 a02) (.int .i64 a03) ∧ Below g0 w wx)
  case first =>
    go_region
    all_goals
      go_wp2_with fail
      go_meet
      first
      | exact ⟨w3.heap.size, w3.heap.size + 1, rfl, rfl, hl0, by omega, by omega, ((hX0_3.alloc _).alloc _).drew, ((at4_new 49 w3 _ (.int .i64 a00) (.int .i64 a01) (.int .i64 a02) (.int .i64 a03) rfl).alloc _).drew, (at4_new 47 _ _ (.int .i64 a00) (.int .i64 a01) (.int .i64 a02) (.int .i64 a03) (by simp)).drew, ((hb3.alloc (Nat.le_of_lt hl0) _).alloc (by simp; omega) _).drew⟩
      | exact ⟨w3.heap.size + 1, w3.heap.size, rfl, rfl, by omega, hl0, by omega, ((hX0_3.alloc _).alloc _).drew, (at4_new 49 _ _ (.int .i64 a00) (.int .i64 a01) (.int .i64 a02) (.int .i64 a03) (by simp)).drew, ((at4_new 47 w3 _ (.int .i64 a00) (.int .i64 a01) (.int .i64 a02) (.int .i64 a03) rfl).alloc _).drew, ((hb3.alloc (Nat.le_of_lt hl0) _).alloc (by simp; omega) _).drew⟩
  case rest =>
  obtain ⟨g1, g2, rfl, rfl, n01, n02, n12, hX0_6, hX1_6, hX2_6, hb6⟩ := hcut
  clear hX0_3 hb3 hl0
  rename World => w6
  have hle1 : g0 ≤ g1 := by omega
  have hle2 : g0 ≤ g2 := by omega
  have hne01 : g0 ≠ g1 := by omega
  have hne10 : g1 ≠ g0 := by omega
  have hne02 : g0 ≠ g2 := by omega
  have hne20 : g2 ≠ g0 := by omega
  have hne12 : g1 ≠ g2 := by omega
  have hne21 : g2 ≠ g1 := by omega
  clear n01 n02 n12
  obtain ⟨_, _, _, _⟩ := hX0_6.cells
  go_wp2_with fail
  go_loopw [7, 8] (fun z i wr => ∃ (k : Nat) (q0 q1 q2 q3 now : Int), k ≤ len1 ∧ k ≤ 50 ∧ i = .int .i64 k ∧ z = .int .i64 now ∧ 0 ≤ now ∧ now ≤ 1099511627776 + 1048575 * k ∧ At4 47 wr g0 (.int .i64 a00) (.int .i64 a01) (.int .i64 a02) (.int .i64 a03) ∧ At4 49 wr g1 (.int .i64 q0) (.int .i64 q1) (.int .i64 q2) (.int .i64 q3) ∧ At4 47 wr g2 (.int .i64 q0) (.int .i64 q1) (.int .i64 q2) (.int .i64 q3) ∧ Below g0 w wr) (fun _ i _ => 50 - (intOf i).toNat)
  case atStart => exact ⟨0, a00, a01, a02, a03, m0, Nat.zero_le _, by omega, rfl, rfl, hm0, by omega, hX0_6, hX1_6, hX2_6, hb6⟩
  case round =>
    obtain ⟨k, q0, q1, q2, q3, now, hk, hk50, rfl, rfl, hn0, hn1, hX0_7, hX1_7, hX2_7, hb7⟩ := hrel
    clear hX0_6 hX1_6 hX2_6 hb6
    by_cases hlt : k < len1 ∧ k < 50
    · obtain ⟨hlt, hlt50⟩ := hlt
      obtain ⟨ab, off, rfl, habl, kd, z, lt, ha0, ha1, ha2⟩ := HACT.out k hlt wr (by rw [HG.out]; exact hb7)
      obtain ⟨_, _, _, _⟩ := hX0_7.frees
      obtain ⟨_, _, _, _⟩ := hX0_7.cells
      obtain ⟨_, _, _, _⟩ := hX1_7.frees
      obtain ⟨_, _, _, _⟩ := hX1_7.cells
      obtain ⟨_, _, _, _⟩ := hX2_7.frees
      obtain ⟨_, _, _, _⟩ := hX2_7.cells
      have hX0_8 := hX0_7.alloc (.cells #[.int .i64 kd, .int .i64 z, .int .i64 lt] 51)
      have hX1_8 := hX1_7.alloc (.cells #[.int .i64 kd, .int .i64 z, .int .i64 lt] 51)
      have hX2_8 := hX2_7.alloc (.cells #[.int .i64 kd, .int .i64 z, .int .i64 lt] 51)
      have hb8 := hb7.alloc (by have := hX0_7.lt; omega) (.cells #[.int .i64 kd, .int .i64 z, .int .i64 lt] 51)
      have hX3_8 := at3_new 51 wr _ (.int .i64 kd) (.int .i64 z) (.int .i64 lt) rfl
      have lt0_8 := hX0_7.lt
      have lt1_8 := hX1_7.lt
      have lt2_8 := hX2_7.lt
      go_upto_region 9 with fail
      generalize (wr.alloc (.cells #[.int .i64 kd, .int .i64 z, .int .i64 lt] 51)) = w8 at hX0_8 hX1_8 hX2_8 hX3_8 hb8 ⊢
      generalize wr.heap.size = g3 at hX3_8 lt0_8 lt1_8 lt2_8 ⊢
      have hne30 : g3 ≠ g0 := by omega
      have hne03 : g0 ≠ g3 := by omega
      have hne31 : g3 ≠ g1 := by omega
      have hne13 : g1 ≠ g3 := by omega
      have hne32 : g3 ≠ g2 := by omega
      have hne23 : g2 ≠ g3 := by omega
      have hle3 : g0 ≤ g3 := by omega
      clear lt0_8 lt1_8 lt2_8
      obtain ⟨_, _, _, _⟩ := hX0_8.frees
      obtain ⟨_, _, _, _⟩ := hX0_8.cells
      obtain ⟨_, _, _, _⟩ := hX1_8.frees
      obtain ⟨_, _, _, _⟩ := hX1_8.cells
      obtain ⟨_, _, _, _⟩ := hX2_8.frees
      obtain ⟨_, _, _, _⟩ := hX2_8.cells
      obtain ⟨_, _, _⟩ := hX3_8.frees
      obtain ⟨_, _, _⟩ := hX3_8.cells
      obtain ⟨nw, hnw⟩ : ∃ z, now + lt % 1048576 = z := ⟨_, rfl⟩
      have hz0 : 0 ≤ nw := by omega
      have hz1 : nw ≤ 1099511627776 + 1048575 * (k + 1) := by omega
      have hwn : IntKind.i64.wrap nw = nw := IntWalk.i64_in _ ⟨by omega, by omega⟩
      go_upto_block 2 with fail
      clear hnw
      go_cut [10, 11] (fun y z wx => ∃ n0 n1 n2 n3 t, y = .bool t ∧ z = .bool t ∧ At4 47 wx g0 (.int .i64 a00) (.int .i64 a01) (.int .i64 a02) (.int .i64 a03) ∧ At4 49 wx g1 (.int .i64 n0) (.int .i64 n1) (.int .i64 n2) (.int .i64 n3) ∧ At4 47 wx g2 (.int .i64 n0) (.int .i64 n1) (.int .i64 n2) (.int .i64 n3) ∧ Below g0 w wx)
      case first =>
        by_cases hk0 : kd = 0
        · subst hk0
          obtain ⟨n0, n1, n2, n3, hA, hB⟩ := HAT.out ⟨q0, q1, q2, q3⟩ nw
          simp only at hA hB
          have HA1 := Lib.hid hA
          have HB1 := Lib.hid hB
          clear hA hB
          go_upto_region 15 with fail
          go_region_with (first | (go_at_call 25; refine (HA1.out _).mono ?_; rintro e w9 ⟨rfl, hk9⟩; have hX0_9 := hX0_8.drew.later hk9; have hX1_9 := hX1_8.drew.later hk9; have hX2_9 := hX2_8.drew.later hk9; have hX3_9 := hX3_8.drew.later hk9; have hb9 : Below g0 w w9 := hb8.drew.trans (hk9.mono (by have := hX0_8.lt; show g0 ≤ w8.heap.size; omega)); obtain ⟨_, _, _, _⟩ := hX2_9.cells) | (go_at_call 26; refine (HB1.out _).mono ?_; rintro e w10 ⟨rfl, hk10⟩; have hX0_10 := hX0_9.later hk10; have hX1_10 := hX1_9.later hk10; have hX2_10 := hX2_9.later hk10; have hX3_10 := hX3_9.later hk10; have hb10 : Below g0 w w10 := hb9.trans (hk10.mono (by have := hX0_9.lt; omega)); obtain ⟨_, _, _, _⟩ := hX1_10.frees; obtain ⟨_, _, _, _⟩ := hX2_10.frees; obtain ⟨_, _, _, _⟩ := hX1_10.cells; obtain ⟨_, _, _, _⟩ := hX2_10.cells))
          all_goals
            go_wp2_with fail
            go_meet
            exact ⟨n0, n1, n2, n3, false, rfl, rfl, (hX0_10.only hne01 (put4_only w10 g1 (.int .i64 n0) (.int .i64 n1) (.int .i64 n2) (.int .i64 n3))).only hne02 (put4_only _ g2 (.int .i64 n0) (.int .i64 n1) (.int .i64 n2) (.int .i64 n3)), (at4_put hX1_10 (.int .i64 n0) (.int .i64 n1) (.int .i64 n2) (.int .i64 n3)).only hne12 (put4_only _ g2 (.int .i64 n0) (.int .i64 n1) (.int .i64 n2) (.int .i64 n3)), at4_put (hX2_10.only hne21 (put4_only w10 g1 (.int .i64 n0) (.int .i64 n1) (.int .i64 n2) (.int .i64 n3))) (.int .i64 n0) (.int .i64 n1) (.int .i64 n2) (.int .i64 n3), (hb10.trans ((put4_only w10 g1 (.int .i64 n0) (.int .i64 n1) (.int .i64 n2) (.int .i64 n3)).below hle1)).trans ((put4_only _ g2 (.int .i64 n0) (.int .i64 n1) (.int .i64 n2) (.int .i64 n3)).below hle2)⟩
        by_cases hk1 : kd = 1
        · subst hk1
          obtain ⟨n0, n1, n2, n3, t, hA, hB⟩ := HTK.out ⟨q0, q1, q2, q3⟩ nw z
          simp only at hA hB
          have HA1 := Lib.hid hA
          have HB1 := Lib.hid hB
          clear hA hB
          go_upto_region 17 with fail
          go_wp2_with fail
          refine (HA1.out _).mono ?_
          rintro e w9 ⟨rfl, hk9⟩
          have hX0_9 := hX0_8.later hk9
          have hX1_9 := hX1_8.later hk9
          have hX2_9 := hX2_8.later hk9
          have hX3_9 := hX3_8.later hk9
          have hb9 := hb8.trans (hk9.mono (by have := hX0_8.lt; omega))
          obtain ⟨_, _, _, _⟩ := hX0_9.frees
          obtain ⟨_, _, _, _⟩ := hX0_9.cells
          obtain ⟨_, _, _, _⟩ := hX1_9.frees
          obtain ⟨_, _, _, _⟩ := hX1_9.cells
          obtain ⟨_, _, _, _⟩ := hX2_9.frees
          obtain ⟨_, _, _, _⟩ := hX2_9.cells
          obtain ⟨_, _, _⟩ := hX3_9.frees
          obtain ⟨_, _, _⟩ := hX3_9.cells
          go_upto_region 18 with fail
          have hX1_10 := at4_put hX1_9 (.int .i64 n0) (.int .i64 n1) (.int .i64 n2) (.int .i64 n3)
          have ho10 := put4_only w9 g1 (.int .i64 n0) (.int .i64 n1) (.int .i64 n2) (.int .i64 n3)
          have hX0_10 := hX0_9.only hne01 ho10
          have hX2_10 := hX2_9.only hne21 ho10
          have hX3_10 := hX3_9.only hne31 ho10
          have hb10 := hb9.trans (ho10.below hle1)
          generalize ((((w9.setCell ⟨g1, 0, none⟩ (.int .i64 n0)).setCell ⟨g1, 1, none⟩ (.int .i64 n1)).setCell ⟨g1, 2, none⟩ (.int .i64 n2)).setCell ⟨g1, 3, none⟩ (.int .i64 n3)) = w10 at hX0_10 hX1_10 hX2_10 hX3_10 hb10 ⊢
          clear ho10
          obtain ⟨_, _, _, _⟩ := hX0_10.frees
          obtain ⟨_, _, _, _⟩ := hX0_10.cells
          obtain ⟨_, _, _, _⟩ := hX1_10.frees
          obtain ⟨_, _, _, _⟩ := hX1_10.cells
          obtain ⟨_, _, _, _⟩ := hX2_10.frees
          obtain ⟨_, _, _, _⟩ := hX2_10.cells
          obtain ⟨_, _, _⟩ := hX3_10.frees
          obtain ⟨_, _, _⟩ := hX3_10.cells
          go_wp2_with fail
          refine (HB1.out _).mono ?_
          rintro e w11 ⟨rfl, hk11⟩
          have hX0_11 := hX0_10.later hk11
          have hX1_11 := hX1_10.later hk11
          have hX2_11 := hX2_10.later hk11
          have hX3_11 := hX3_10.later hk11
          have hb11 := hb10.trans (hk11.mono (by have := hX0_10.lt; omega))
          obtain ⟨_, _, _, _⟩ := hX0_11.frees
          obtain ⟨_, _, _, _⟩ := hX0_11.cells
          obtain ⟨_, _, _, _⟩ := hX1_11.frees
          obtain ⟨_, _, _, _⟩ := hX1_11.cells
          obtain ⟨_, _, _, _⟩ := hX2_11.frees
          obtain ⟨_, _, _, _⟩ := hX2_11.cells
          obtain ⟨_, _, _⟩ := hX3_11.frees
          obtain ⟨_, _, _⟩ := hX3_11.cells
          go_wp2_with fail
          go_meet
          exact ⟨n0, n1, n2, n3, t, rfl, rfl, hX0_11.only hne02 (put4_only w11 g2 (.int .i64 n0) (.int .i64 n1) (.int .i64 n2) (.int .i64 n3)), hX1_11.only hne12 (put4_only w11 g2 (.int .i64 n0) (.int .i64 n1) (.int .i64 n2) (.int .i64 n3)), at4_put hX2_11 (.int .i64 n0) (.int .i64 n1) (.int .i64 n2) (.int .i64 n3), hb11.trans ((put4_only w11 g2 (.int .i64 n0) (.int .i64 n1) (.int .i64 n2) (.int .i64 n3)).below hle2)⟩
        obtain ⟨n0, n1, n2, n3, hA, hB⟩ := HCH.out ⟨q0, q1, q2, q3⟩ nw z
        simp only at hA hB
        have HA1 := Lib.hid hA
        have HB1 := Lib.hid hB
        clear hA hB
        go_upto_region 12 with fail
        go_region_with (first | (go_at_call 29; refine (HA1.out _).mono ?_; rintro e w9 ⟨rfl, hk9⟩; have hX0_9 := hX0_8.drew.later hk9; have hX1_9 := hX1_8.drew.later hk9; have hX2_9 := hX2_8.drew.later hk9; have hX3_9 := hX3_8.drew.later hk9; have hb9 : Below g0 w w9 := hb8.drew.trans (hk9.mono (by have := hX0_8.lt; show g0 ≤ w8.heap.size; omega)); obtain ⟨_, _, _, _⟩ := hX2_9.cells) | (go_at_call 26; refine (HB1.out _).mono ?_; rintro e w10 ⟨rfl, hk10⟩; have hX0_10 := hX0_9.later hk10; have hX1_10 := hX1_9.later hk10; have hX2_10 := hX2_9.later hk10; have hX3_10 := hX3_9.later hk10; have hb10 : Below g0 w w10 := hb9.trans (hk10.mono (by have := hX0_9.lt; omega)); obtain ⟨_, _, _, _⟩ := hX1_10.frees; obtain ⟨_, _, _, _⟩ := hX2_10.frees; obtain ⟨_, _, _, _⟩ := hX1_10.cells; obtain ⟨_, _, _, _⟩ := hX2_10.cells))
        all_goals
          go_upto_region 13 with fail
          have hX0_20 := (hX0_10.only hne01 (put4_only w10 g1 (.int .i64 (max 1 (min z 65535))) (.int .i64 n1) (.int .i64 n2) (.int .i64 n3))).only hne02 (put4_only _ g2 (.int .i64 n0) (.int .i64 n1) (.int .i64 n2) (.int .i64 n3))
          have hX1_20 := (at4_put hX1_10 (.int .i64 (max 1 (min z 65535))) (.int .i64 n1) (.int .i64 n2) (.int .i64 n3)).only hne12 (put4_only _ g2 (.int .i64 n0) (.int .i64 n1) (.int .i64 n2) (.int .i64 n3))
          have hX2_20 := at4_put (hX2_10.only hne21 (put4_only w10 g1 (.int .i64 (max 1 (min z 65535))) (.int .i64 n1) (.int .i64 n2) (.int .i64 n3))) (.int .i64 n0) (.int .i64 n1) (.int .i64 n2) (.int .i64 n3)
          have hX3_20 := (hX3_10.only hne31 (put4_only w10 g1 (.int .i64 (max 1 (min z 65535))) (.int .i64 n1) (.int .i64 n2) (.int .i64 n3))).only hne32 (put4_only _ g2 (.int .i64 n0) (.int .i64 n1) (.int .i64 n2) (.int .i64 n3))
          have hb20 := (hb10.trans ((put4_only w10 g1 (.int .i64 (max 1 (min z 65535))) (.int .i64 n1) (.int .i64 n2) (.int .i64 n3)).below hle1)).trans ((put4_only _ g2 (.int .i64 n0) (.int .i64 n1) (.int .i64 n2) (.int .i64 n3)).below hle2)
          generalize ((((((((w10.setCell ⟨g1, 0, none⟩ (.int .i64 (max 1 (min z 65535)))).setCell ⟨g1, 1, none⟩ (.int .i64 n1)).setCell ⟨g1, 2, none⟩ (.int .i64 n2)).setCell ⟨g1, 3, none⟩ (.int .i64 n3)).setCell ⟨g2, 0, none⟩ (.int .i64 n0)).setCell ⟨g2, 1, none⟩ (.int .i64 n1)).setCell ⟨g2, 2, none⟩ (.int .i64 n2)).setCell ⟨g2, 3, none⟩ (.int .i64 n3)) = w20 at hX0_20 hX1_20 hX2_20 hX3_20 hb20 ⊢
          obtain ⟨_, _, _⟩ := hX3_20.cells
          obtain ⟨_, _, _, _⟩ := hX2_20.frees
          obtain ⟨_, _, _, _⟩ := hX2_20.cells
          go_wp2_with fail
          go_meet
          have ho20 := (Only.refl g2 w20).setCell 0 (.int .i64 (max 1 (min z 65535)))
          exact ⟨(max 1 (min z 65535)), n1, n2, n3, false, rfl, rfl, hX0_20.only hne02 ho20, hX1_20.only hne12 ho20, at4p_set0 hX2_20 _, hb20.trans (ho20.below hle2)⟩
      case rest =>
      obtain ⟨n0, n1, n2, n3, t, rfl, rfl, hX0_11, hX1_11, hX2_11, hb11⟩ := hcut
      rename World => w11
      obtain ⟨_, _, _, _⟩ := hX1_11.cells
      obtain ⟨_, _, _, _⟩ := hX2_11.cells
      go_wp2_with fail
      go_roundw
      case rel => exact ⟨k + 1, n0, n1, n2, n3, nw, by omega, by omega, by go_num, rfl, hz0, by omega, hX0_11, hX1_11, hX2_11, hb11⟩
      case measure => simp [intOf]; omega
    · clear hX1_7 hX2_7
      by_cases hk1 : k < len1
      · have hk2 : k = 50 := by omega
        subst hk2
        go_upto_region 21 with fail
        go_region_held3 (fun W => W.cell? ⟨g0, 0, none⟩ = some (.int .i64 a00) ∧ W.cell? ⟨g0, 1, none⟩ = some (.int .i64 a01) ∧ W.cell? ⟨g0, 3, none⟩ = some (.int .i64 a03) ∧ At4 47 W g0 (.int .i64 a00) (.int .i64 a01) (.int .i64 a02) (.int .i64 a03) ∧ Below g0 w W) (first | (go_keep; done) | exact ppZ hX0_7.drew hb7.drew | exact ppZ' (Nat.le_refl _) (by go_split_ands; assumption) (by go_split_ands; assumption) (by assumption) | (go_split_ands; assumption)) (first | (go_at_call 30; refine (HN.out _).mono ?_; rintro e w13 ⟨rfl, hk13⟩) | (go_at_call 31; refine (HF.out _).mono ?_; rintro e w16 ⟨rfl, hk16⟩))
        all_goals
          go_wp2_with fail
          go_ret
          exact ⟨by first | rfl | simp, by rw [HG.out]; go_split_ands; assumption⟩
      · have hk2 : k = len1 := by omega
        subst hk2
        go_upto_region 21 with fail
        go_region_held3 (fun W => W.cell? ⟨g0, 0, none⟩ = some (.int .i64 a00) ∧ W.cell? ⟨g0, 1, none⟩ = some (.int .i64 a01) ∧ W.cell? ⟨g0, 3, none⟩ = some (.int .i64 a03) ∧ At4 47 W g0 (.int .i64 a00) (.int .i64 a01) (.int .i64 a02) (.int .i64 a03) ∧ Below g0 w W) (first | (go_keep; done) | exact ppZ hX0_7.drew hb7.drew | exact ppZ' (Nat.le_refl _) (by go_split_ands; assumption) (by go_split_ands; assumption) (by assumption) | (go_split_ands; assumption)) (first | (go_at_call 30; refine (HN.out _).mono ?_; rintro e w13 ⟨rfl, hk13⟩) | (go_at_call 31; refine (HF.out _).mono ?_; rintro e w16 ⟨rfl, hk16⟩))
        all_goals
          go_wp2_with fail
          go_ret
          exact ⟨by first | rfl | simp, by rw [HG.out]; go_split_ands; assumption⟩
end pacePlays
end Go.Proofs.Ytgmggilnhkdceaa
