/- gaps: slices.Delete at packets. -/
import Derived.Test.YtdbmhgfdcdcgfaaGpD
namespace Go.Proofs.Ytdbmhgfdcdcgfaa
open Go.RowKit
set_option linter.unusedVariables false
set_option linter.unusedSimpArgs false
theorem info_pkt : (Try.prog.info? 69).map (fun i => (i.zero, i.size, i.bytes)) = some (some (.agg #[.int .i64 0, .int .i64 0, .int .i64 0, .int .i64 0]), 4, 32) := by kernel_rfl
theorem gpClear (b o c n : Nat) (w : World) (hn : 0 < n) (hc : ∀ j, j < n * 4 → (w.cell? ⟨b, o + j, none⟩).isSome = true ∧ w.frozen? ⟨b, o + j, none⟩ = false) :
    ∃ vs : List Value, vs.length = n * 4 ∧ ∀ ty, (Builtin.clear_ #[55] ty #[.slice (some ⟨b, o, none⟩) n c]).run Try.prog w = .ok (.tuple #[]) (w.setCells b o vs) := by
  refine ⟨(Builtin.zeroCells (Value.cells (.agg #[.int .i64 0, .int .i64 0, .int .i64 0, .int .i64 0])) n).toList, by simp [Builtin.zeroCells, Value.cells], fun ty => ?_⟩
  refine run_clear_recs (P := Try.prog) w 55 69 ty (.agg #[.int .i64 0, .int .i64 0, .int .i64 0, .int .i64 0]) Try.underlying55 (fun w => by kernel_rfl) ?_ b o n c hn ?_
  · intro n u hu
    simp [Builtin.zeroCells, Value.cells] at hu
    obtain ⟨i, _, rfl⟩ := hu
    have h4 : i % 4 < 4 := Nat.mod_lt _ (by decide)
    generalize i % 4 = q at h4 ⊢
    match q, h4 with
    | 0, _ => rfl
    | 1, _ => rfl
    | 2, _ => rfl
    | 3, _ => rfl
  · intro j hj
    exact hc j (by simpa [Value.cells] using hj)
/-- Cells of a row are set: what the row holds then. -/
theorem OwnE.setMany {W : World} {b : Nat} {e : TypeId} {c n cap g off : Nat} {xs : List Value} (h : OwnE W b e c (.slice (some ⟨g, off, none⟩) n cap) n xs) (vs : List Value) : ∀ (q : Nat), q + vs.length ≤ xs.length →
    OwnE (W.setCells g (off + q) vs) b e c (.slice (some ⟨g, off, none⟩) n cap) n (xs.take q ++ vs ++ xs.drop (q + vs.length)) := by
  induction vs generalizing W xs with
  | nil =>
    intro q hq
    have e : xs.take q ++ [] ++ xs.drop (q + ([] : List Value).length) = xs := by simp
    rw [e]
    exact h
  | cons u vs ih =>
    intro q hq
    have h1 := h.setAt q u (by simp at hq; omega)
    have h2 := ih h1 (q + 1) (by simp at hq ⊢; omega)
    have e1 : (xs.set q u).take (q + 1) ++ vs ++ (xs.set q u).drop (q + 1 + vs.length) = xs.take q ++ u :: vs ++ xs.drop (q + (u :: vs).length) := by
      have hql : q < xs.length := by simp at hq; omega
      rw [List.take_set, List.drop_set_of_lt (by omega), List.take_succ_eq_append_getElem hql, List.set_append_right _ _ (by simp; omega)]
      simp
      rw [Nat.min_eq_left (by omega), Nat.sub_self, List.set_cons_zero, List.singleton_append, show q + 1 + vs.length = q + (vs.length + 1) by omega]
    rw [e1] at h2
    exact h2
/-- Only the first elements of a row are taken on. -/
theorem OwnE.cutTo {W : World} {b : Nat} {e : TypeId} {c n cap g off : Nat} {xs : List Value} (h : OwnE W b e c (.slice (some ⟨g, off, none⟩) n cap) n xs) (m : Nat) (hm : m ≤ n) : OwnE W b e c (.slice (some ⟨g, off, none⟩) m cap) m (xs.take (m * c)) := by
  obtain ⟨⟨hl, h1⟩, h2⟩ := h
  rcases h1 with ⟨e1, _⟩ | ⟨g', off', cap', e1, q1, q2, q3, q4, q5, q6⟩
  · cases e1
  · simp only [Value.slice.injEq, Option.some.injEq, Addr.mk.injEq, true_and, and_true] at e1
    obtain ⟨⟨rfl, rfl⟩, rfl⟩ := e1
    refine ⟨⟨?_, .inr ⟨g, off, cap, rfl, q1, q2, by omega, q4, q5, fun j u hj => q6 j u ?_⟩⟩, fun k hk => h2 k (by cases hk; rfl)⟩
    · rw [List.length_take, hl]
      exact Nat.min_eq_left (Nat.mul_le_mul_right _ hm)
    · rw [List.getElem?_take] at hj
      split at hj
      · exact hj
      · cases hj
theorem gpDelete_same {w : World} (v : Value) (n i : Nat) (a : Option Addr) (cap : Nat) (hv : v = .slice a n cap) (hn : n ≤ cap) (hcap : cap ≤ 9223372036854775807) (hi : i ≤ n) :
    Calls Try.prog 34 #[v, .int .i64 i, .int .i64 i] w fun e w' => e = .returned v ∧ w' = w := by
  subst hv
  go_enter Try.func34, Try.ntmps34
  cases a with
  | none =>
    go_wp2_with fail
    all_goals go_ret
    all_goals exact ⟨rfl, rfl⟩
  | some a =>
    go_wp2_with fail
    all_goals go_ret
    all_goals exact ⟨rfl, rfl⟩

set_option maxRecDepth 100000 in
set_option maxHeartbeats 3200000 in
theorem gpDeleteS {w : World} {base g off n cap : Nat} {A : Int} {l : List GW} (h : OwnE w base 69 4 (.slice (some ⟨g, off, none⟩) n cap) n (gpV A l)) (hn : n ≤ 65535) (i j : Nat) (hij : i < j) (hj : j ≤ n) (hjc : j < cap) :
    Calls Try.prog 34 #[.slice (some ⟨g, off, none⟩) n cap, .int .i64 i, .int .i64 j] w fun e w' => e = .returned (.slice (some ⟨g, off, none⟩) (i + (n - j)) cap) ∧ OwnE w' base 69 4 (.slice (some ⟨g, off, none⟩) (i + (n - j)) cap) (i + (n - j)) (gpV A (l.take i ++ l.drop j)) ∧ Only g w.drew w' := by
  obtain ⟨i0, hi, hz0, hz1, hz2⟩ := info_parts info_pkt
  have hll : l.length = n := by have := h.1.1; rw [gpV_len] at this; omega
  obtain ⟨g', off', cap', e1, hnc, hcm, _, _, hcell⟩ := h.row (by omega)
  cases e1
  unfold maxLen at hcm
  have hroom : ∀ q, q < cap * 4 → (w.cell? ⟨g, off + q, none⟩).isSome = true ∧ w.frozen? ⟨g, off + q, none⟩ = false := by
    rcases h.1.2 with ⟨e, _⟩ | ⟨g', off', cap', e, _, _, _, _, q5, _⟩
    · cases e
    · cases e; exact q5
  have hnc4 : ∀ (q : Nat) (u : Value), (gpV A (l.drop j))[q]? = some u → w.cell? ⟨g, off + (j * 4 + q), none⟩ = some u := fun q u hu => by
    rw [← gpV_drop, List.getElem?_drop] at hu
    exact (hcell _ u hu).1
  have s1 : Hid ((gpV A (l.drop j)).length = (n - j) * 4) := Lib.hid (by rw [gpV_len, List.length_drop, hll])
  have s2 : Hid (∀ u ∈ gpV A (l.drop j), u.oneCell' = true) := Lib.hid (gpV_one A _)
  have s3 : Hid (∀ q, q < (gpV A (l.drop j)).length → (w.drew.cell? ⟨g, off + i * 4 + q, none⟩).isSome = true ∧ w.drew.frozen? ⟨g, off + i * 4 + q, none⟩ = false) := Lib.hid fun q hq => by
    rw [gpV_len, List.length_drop, hll] at hq
    rw [Nat.add_assoc]
    exact hroom _ (by omega)
  have s4 : Hid (∀ q u, (gpV A (l.drop j))[q]? = some u → w.drew.cell? ((⟨g, off + j * 4, none⟩ : Addr).add q) = some u) := Lib.hid fun q u hu => by rw [Addr.add_lit, Nat.add_assoc]; exact hnc4 q u hu
  have hO2 := (h.drew).setMany (gpV A (l.drop j)) (i * 4) (by rw [gpV_len, gpV_len, List.length_drop, hll]; omega)
  have ho2 := (setCells_only g (gpV A (l.drop j)) (off + i * 4) w.drew)
  have hlX0 : ((gpV A l).take (i * 4) ++ gpV A (l.drop j) ++ (gpV A l).drop (i * 4 + (gpV A (l.drop j)).length)).length = n * 4 := by
    simp only [List.length_append, List.length_take, List.length_drop, gpV_len, hll]
    omega
  have e3 : ((gpV A l).take (i * 4) ++ gpV A (l.drop j) ++ (gpV A l).drop (i * 4 + (gpV A (l.drop j)).length)).take ((i + (n - j)) * 4) = gpV A (l.take i ++ l.drop j) := by
    rw [List.append_assoc, gpV_take, show gpV A (l.take i ++ l.drop j) = gpV A (l.take i) ++ gpV A (l.drop j) from rowsV_app _ _]
    rw [← List.append_assoc, List.take_append_of_le_length (by rw [List.length_append, gpV_len, gpV_len, List.length_take, List.length_drop, hll]; omega)]
    exact List.take_of_length_le (by rw [List.length_append, gpV_len, gpV_len, List.length_take, List.length_drop, hll]; omega)
  have hroom2 : ∀ q, q < cap * 4 → ((w.drew.setCells g (off + i * 4) (gpV A (l.drop j))).cell? ⟨g, off + q, none⟩).isSome = true ∧ (w.drew.setCells g (off + i * 4) (gpV A (l.drop j))).frozen? ⟨g, off + q, none⟩ = false := fun q hq =>
    ⟨World.isSome_setCells g _ _ _ _ (hroom q hq).1, (World.frozen?_setCells g _ _ _ _).trans (hroom q hq).2⟩
  generalize ((gpV A l).take (i * 4) ++ gpV A (l.drop j) ++ (gpV A l).drop (i * 4 + (gpV A (l.drop j)).length)) = X at hO2 e3 hlX0
  have hlX := Lib.hid hlX0
  have hO2c := Lib.hid hO2
  have hi1 : (i : Int) ≤ j := by omega
  have hi2 : (j : Int) ≤ n := by omega
  have hi3 : (n : Int) ≤ cap := by omega
  have hii : (i == j) = false := by simp; omega
  have hij2 : ((i : Int) == (j : Int)) = false := by simp; omega
  have hri : ¬ n = i := by omega
  have hic : i ≤ cap := by omega
  have hjc2 : j ≤ cap := by omega
  have hcj : ¬ cap = j := by omega
  clear hnc4 hcell hO2 hlX0 hroom h
  generalize hnv : gpV A (l.drop j) = news at *
  go_enter Try.func34, Try.ntmps34
  go_upto_region 5 with fail
  go_region_law (refine step_append_room rfl (.tmp 22) (.tmp 25) 55 rfl 69 i0 4 Try.underlying55 hi hz1 g off i cap (by simp [Act.eval, Act.put]) ⟨g, off + j * 4, none⟩ (n - j) (cap - j) news (by simp [Act.eval, Act.put]) s1.out s4.out s2.out (by omega) s3.out ?_)
  go_upto_region 6 with fail
  generalize hw2 : w.drew.setCells g (off + i * 4) news = w2 at *
  obtain ⟨vs, hvl, hcl⟩ := gpClear g (off + (i + (n - j)) * 4) (cap - (i + (n - j))) (n - (i + (n - j))) w2 (by omega) (fun q hq => by rw [Nat.add_assoc]; exact hroom2 _ (by omega))
  have ho3 := setCells_only g vs (off + (i + (n - j)) * 4) w2
  have HOY : Hid (OwnE (w2.setCells g (off + (i + (n - j)) * 4) vs) base 69 4 (.slice (some ⟨g, off, none⟩) (i + (n - j)) cap) (i + (n - j)) (gpV A (l.take i ++ l.drop j))) := Lib.hid (by
    have h1 := hO2c.out.setMany vs ((i + (n - j)) * 4) (by rw [hlX.out]; omega)
    have h2 := h1.cutTo (i + (n - j)) (by omega)
    have e4 : ((X.take ((i + (n - j)) * 4) ++ vs ++ X.drop ((i + (n - j)) * 4 + vs.length)).take ((i + (n - j)) * 4)) = X.take ((i + (n - j)) * 4) := by
      rw [List.append_assoc]
      exact List.take_left' (by rw [List.length_take, hlX.out]; omega)
    rw [e4, e3] at h2
    exact h2)
  have HON := Lib.hid (ho2.trans ho3)
  clear ho3 ho2 hroom2 s1 s2 s3 s4 hO2c e3
  have hm1 : i + (n - j) ≤ n := by omega
  have hm2 : ((i : Int) + ((n : Int) - (j : Int))) = ((i + (n - j) : Nat) : Int) := by omega
  have hm3 : ¬ cap = i + (n - j) := by omega
  generalize hm0 : i + (n - j) = m at *
  replace hm0 := Lib.hid hm0
  go_wp2_with fail
  all_goals go_ret
  all_goals (have hm00 := hm0.out; subst hm00; exact ⟨rfl, HOY.out, HON.out⟩)

set_option maxRecDepth 100000 in
set_option maxHeartbeats 3200000 in
theorem gpDeleteE {w : World} {base g off n : Nat} {A : Int} {l : List GW} (h : OwnE w base 69 4 (.slice (some ⟨g, off, none⟩) n n) n (gpV A l)) (hn : n ≤ 65535) (i : Nat) (hij : i < n) :
    Calls Try.prog 34 #[.slice (some ⟨g, off, none⟩) n n, .int .i64 i, .int .i64 n] w fun e w' => e = .returned (.slice (some ⟨g, off, none⟩) i n) ∧ OwnE w' base 69 4 (.slice (some ⟨g, off, none⟩) i n) i (gpV A (l.take i ++ l.drop n)) ∧ Only g w.drew w' := by
  obtain ⟨i0, hi, hz0, hz1, hz2⟩ := info_parts info_pkt
  have hll : l.length = n := by have := h.1.1; rw [gpV_len] at this; omega
  obtain ⟨g', off', n', e1, hnc, hcm, _, _, hcell⟩ := h.row (by omega)
  cases e1
  unfold maxLen at hcm
  have hroom : ∀ q, q < n * 4 → (w.cell? ⟨g, off + q, none⟩).isSome = true ∧ w.frozen? ⟨g, off + q, none⟩ = false := by
    rcases h.1.2 with ⟨e, _⟩ | ⟨g', off', n', e, _, _, _, _, q5, _⟩
    · cases e
    · cases e; exact q5
  have hnj : n - n = 0 := by omega
  have hnc4 : ∀ (q : Nat) (u : Value), (gpV A (l.drop n))[q]? = some u → w.cell? ⟨g, off + (n * 4 + q), none⟩ = some u := fun q u hu => by
    rw [← gpV_drop, List.getElem?_drop] at hu
    exact (hcell _ u hu).1
  have s1 : Hid ((gpV A (l.drop n)).length = (n - n) * 4) := Lib.hid (by rw [gpV_len, List.length_drop, hll])
  have s2 : Hid (∀ u ∈ gpV A (l.drop n), u.oneCell' = true) := Lib.hid (gpV_one A _)
  have s3 : Hid (∀ q, q < (gpV A (l.drop n)).length → (w.drew.cell? ⟨g, off + i * 4 + q, none⟩).isSome = true ∧ w.drew.frozen? ⟨g, off + i * 4 + q, none⟩ = false) := Lib.hid fun q hq => by
    rw [gpV_len, List.length_drop, hll] at hq
    rw [Nat.add_assoc]
    exact hroom _ (by omega)
  have s4 : Hid (∀ q u, (gpV A (l.drop n))[q]? = some u → w.drew.cell? ((⟨g, off, none⟩ : Addr).add q) = some u) := Lib.hid fun q u hu => by (have h0 : (gpV A (l.drop n)) = [] := List.eq_nil_of_length_eq_zero (by rw [s1, hnj, Nat.zero_mul]); rw [h0] at hu; cases hu)
  have hO2 := (h.drew).setMany (gpV A (l.drop n)) (i * 4) (by rw [gpV_len, gpV_len, List.length_drop, hll]; omega)
  have ho2 := (setCells_only g (gpV A (l.drop n)) (off + i * 4) w.drew)
  have hlX0 : ((gpV A l).take (i * 4) ++ gpV A (l.drop n) ++ (gpV A l).drop (i * 4 + (gpV A (l.drop n)).length)).length = n * 4 := by
    simp only [List.length_append, List.length_take, List.length_drop, gpV_len, hll]
    omega
  have e3 : ((gpV A l).take (i * 4) ++ gpV A (l.drop n) ++ (gpV A l).drop (i * 4 + (gpV A (l.drop n)).length)).take (i * 4) = gpV A (l.take i ++ l.drop n) := by
    rw [List.append_assoc, gpV_take, show gpV A (l.take i ++ l.drop n) = gpV A (l.take i) ++ gpV A (l.drop n) from rowsV_app _ _]
    rw [← List.append_assoc, List.take_append_of_le_length (by rw [List.length_append, gpV_len, gpV_len, List.length_take, List.length_drop, hll]; omega)]
    exact List.take_of_length_le (by rw [List.length_append, gpV_len, gpV_len, List.length_take, List.length_drop, hll]; omega)
  have hroom2 : ∀ q, q < n * 4 → ((w.drew.setCells g (off + i * 4) (gpV A (l.drop n))).cell? ⟨g, off + q, none⟩).isSome = true ∧ (w.drew.setCells g (off + i * 4) (gpV A (l.drop n))).frozen? ⟨g, off + q, none⟩ = false := fun q hq =>
    ⟨World.isSome_setCells g _ _ _ _ (hroom q hq).1, (World.frozen?_setCells g _ _ _ _).trans (hroom q hq).2⟩
  generalize ((gpV A l).take (i * 4) ++ gpV A (l.drop n) ++ (gpV A l).drop (i * 4 + (gpV A (l.drop n)).length)) = X at hO2 e3 hlX0
  have hlX := Lib.hid hlX0
  have hO2c := Lib.hid hO2
  have hi1 : (i : Int) ≤ n := by omega
  have hi2 : (n : Int) ≤ n := by omega
  have hi3 : (n : Int) ≤ n := by omega
  have hii : (i == n) = false := by simp; omega
  have hij2 : ((i : Int) == (n : Int)) = false := by simp; omega
  have hri : ¬ n = i := by omega
  have hic : i ≤ n := by omega
  have hjc2 : n ≤ n := by omega
  clear hnc4 hcell hO2 hlX0 hroom h
  generalize hnv : gpV A (l.drop n) = news at *
  go_enter Try.func34, Try.ntmps34
  go_upto_region 5 with fail
  go_region_law (refine step_append_room rfl (.tmp 22) (.tmp 25) 55 rfl 69 i0 4 Try.underlying55 hi hz1 g off i n (by simp [Act.eval, Act.put]) ⟨g, off, none⟩ (n - n) 0 news (by simp [Act.eval, Act.put]) s1.out s4.out s2.out (by omega) s3.out ?_)
  go_upto_region 6 with fail
  generalize hw2 : w.drew.setCells g (off + i * 4) news = w2 at *
  obtain ⟨vs, hvl, hcl⟩ := gpClear g (off + i * 4) (n - i) (n - i) w2 (by omega) (fun q hq => by rw [Nat.add_assoc]; exact hroom2 _ (by omega))
  have ho3 := setCells_only g vs (off + i * 4) w2
  have HOY : Hid (OwnE (w2.setCells g (off + i * 4) vs) base 69 4 (.slice (some ⟨g, off, none⟩) i n) i (gpV A (l.take i ++ l.drop n))) := Lib.hid (by
    have h1 := hO2c.out.setMany vs (i * 4) (by rw [hlX.out]; omega)
    have h2 := h1.cutTo i (by omega)
    have e4 : ((X.take (i * 4) ++ vs ++ X.drop (i * 4 + vs.length)).take (i * 4)) = X.take (i * 4) := by
      rw [List.append_assoc]
      exact List.take_left' (by rw [List.length_take, hlX.out]; omega)
    rw [e4, e3] at h2
    exact h2)
  have HON := Lib.hid (ho2.trans ho3)
  clear ho3 ho2 hroom2 s1 s2 s3 s4 hO2c e3
  go_wp2_with fail
  all_goals go_ret
  all_goals (exact ⟨rfl, HOY.out, HON.out⟩)

end Go.Proofs.Ytdbmhgfdcdcgfaa
