/- table: Set. -/
import Derived.Test.YtilobmebfeenfaaTbS
namespace Go.Proofs.Ytilobmebfeenfaa
open Go.RowKit
set_option linter.unusedVariables false
set_option linter.unusedSimpArgs false
set_option maxRecDepth 100000 in
set_option maxHeartbeats 6400000 in
theorem tbSetBad {w : World} {base gt : Nat} {m ver : Int} {v : Value} {l : List TB} (h : TbIn w base gt m ver v l) (r : TB) (hm : tbMay r = false) :
    Calls Try.prog 23 #[.pointer (some ⟨gt, 0, none⟩), .agg #[.int .i64 r.id, .bool r.up, .int .i64 r.rate]] w fun e w' => e = .returned (.tuple #[.bool false, .int .i64 6]) ∧ Below w.heap.size w w' := by
  obtain ⟨a, cap, rfl⟩ := h.row.formG
  have hE := atB_new 70 w w.heap.size #[.int .i64 r.id, .bool r.up, .int .i64 r.rate] rfl
  have hb : Below w.heap.size w (w.alloc (.cells #[.int .i64 r.id, .bool r.up, .int .i64 r.rate] 70)) := (Below.refl _ _).alloc (Nat.le_refl _) _
  have HMAY := Lib.hid (fun W => tbMay_any r W)
  go_enter Try.func23, Try.ntmps23
  go_upto_region 1 with fail
  generalize (w.alloc (.cells #[.int .i64 r.id, .bool r.up, .int .i64 r.rate] 70)) = w2 at *
  have hT := h.later hb
  have hgt := h.at3.lt
  have hrl := fun k (hk : (Value.slice a l.length cap).ownBlock = some k) => (h.row_lt hk).2
  generalize hg3 : w.heap.size = g3 at *
  have HG := Lib.hid hg3
  have hsz : g3 ≤ w2.heap.size := Nat.le_of_lt hE.lt
  clear hg3
  obtain ⟨_, _, _⟩ := hE.cells3
  rw [hm] at HMAY
  go_wp2_with fail
  refine (HMAY.out _).mono ?_
  rintro e w3 ⟨rfl, hb3⟩
  have hb3' := hb.trans (hb3.mono hsz)
  go_wp2_with fail
  go_ret2
  exact ⟨rfl, by rw [HG.out]; exact hb3'⟩
set_option maxRecDepth 100000 in
set_option maxHeartbeats 6400000 in
theorem tbSetFull {w : World} {base gt : Nat} {m ver : Int} {v : Value} {l : List TB} (h : TbIn w base gt m ver v l) (r : TB) (hm : tbMay r = true) (hne : ∀ x ∈ l, x.id ≠ r.id) (hfull : min (max m 1) 15 ≤ (l.length : Int)) :
    Calls Try.prog 23 #[.pointer (some ⟨gt, 0, none⟩), .agg #[.int .i64 r.id, .bool r.up, .int .i64 r.rate]] w fun e w' => e = .returned (.tuple #[.bool false, .int .i64 8]) ∧ Below w.heap.size w w' := by
  obtain ⟨a, cap, rfl⟩ := h.row.formG
  have hE := atB_new 70 w w.heap.size #[.int .i64 r.id, .bool r.up, .int .i64 r.rate] rfl
  have hb : Below w.heap.size w (w.alloc (.cells #[.int .i64 r.id, .bool r.up, .int .i64 r.rate] 70)) := (Below.refl _ _).alloc (Nat.le_refl _) _
  have HMAY := Lib.hid (fun W => tbMay_any r W)
  go_enter Try.func23, Try.ntmps23
  go_upto_region 1 with fail
  generalize (w.alloc (.cells #[.int .i64 r.id, .bool r.up, .int .i64 r.rate] 70)) = w2 at *
  have hT := h.later hb
  have hgt := h.at3.lt
  have hrl := fun k (hk : (Value.slice a l.length cap).ownBlock = some k) => (h.row_lt hk).2
  generalize hg3 : w.heap.size = g3 at *
  have HG := Lib.hid hg3
  have hsz : g3 ≤ w2.heap.size := Nat.le_of_lt hE.lt
  clear hg3
  obtain ⟨_, _, _⟩ := hE.cells3
  rw [hm] at HMAY
  go_wp2_with fail
  refine (HMAY.out _).mono ?_
  rintro e w3 ⟨rfl, hb3⟩
  have hb3' := hb.trans (hb3.mono hsz)
  have hT3 := hT.later hb3
  have hE3' := hE.later hb3
  have hsz3 : g3 ≤ w3.heap.size := Nat.le_trans hsz hb3.size
  have HPL := Lib.hid (tbPlace_any hT3 r.id hne)
  obtain ⟨_, _, _⟩ := hE3'.cells3
  go_wp2_with fail
  refine HPL.out.mono ?_
  rintro e w4 ⟨rfl, hb4⟩
  have hT4 := hT3.later hb4
  have hE4 := hE3'.later hb4
  have hb4 := hb3'.trans (hb4.mono hsz3)
  clear HPL hT hT3 hE hE3' hb3 hb hb3'
  have hroom : decide (min (max m 1) 15 ≤ (l.length : Int)) = true := decide_eq_true hfull
  go_upto_region 5 with fail
  have hT4d := hT4.later (Below.refl _ _).drew
  have hSd : w4.drew.cell? ⟨gt, 2, none⟩ = some (.slice a l.length cap) := hT4d.at3.cells3.2.2
  refine wp_region_noPanic ?_
  refine ordM_begin (fun W : World => W.cell? ⟨gt, 2, none⟩ = some (.slice a l.length cap)) (fun i => false) (by kernel_rfl) hSd ?_
  have hb4d := hb4.drew
  have hE4d := hE4.drew
  generalize w4.drew = w5 at *
  refine ordM_take 0 ?vq9 rfl (by kernel_rfl) (by kernel_rfl) (by kernel_rfl) (by kernel_rfl) (fun _ _ _ h => h) (by rfl) ?hq9 (by assumption) ?rq9
  case hq9 => (intro W hSw; (try dsimp only at hSw); go_simp <;> with_reducible rfl)
  (try simp only [Act.put, List.setIfInBounds_toArray, List.set_cons_zero, List.set_cons_succ])
  refine ordM_take 1 ?vq10 rfl (by kernel_rfl) (by kernel_rfl) (by kernel_rfl) (by kernel_rfl) (fun _ _ _ h => h) (by rfl) ?hq10 (by assumption) ?rq10
  case hq10 => (intro W hSw; (try dsimp only at hSw); go_simp <;> with_reducible rfl)
  (try simp only [Act.put, List.setIfInBounds_toArray, List.set_cons_zero, List.set_cons_succ])
  refine ordM_take 2 ?vq11 rfl (by kernel_rfl) (by kernel_rfl) (by kernel_rfl) (by kernel_rfl) (fun _ _ _ h => h) (by rfl) ?hq11 (by assumption) ?rq11
  case hq11 => (intro W hSw; (try dsimp only at hSw); go_simp <;> with_reducible rfl)
  (try simp only [Act.put, List.setIfInBounds_toArray, List.set_cons_zero, List.set_cons_succ])
  refine ordM_take 3 ?vq12 rfl (by kernel_rfl) (by kernel_rfl) (by kernel_rfl) (by kernel_rfl) (fun _ _ _ h => h) (by rfl) ?hq12 (by assumption) ?rq12
  case hq12 => (intro W hSw; (try dsimp only at hSw); go_simp <;> with_reducible rfl)
  (try simp only [Act.put, List.setIfInBounds_toArray, List.set_cons_zero, List.set_cons_succ])
  refine ordM_take 4 ?vq13 rfl (by kernel_rfl) (by kernel_rfl) (by kernel_rfl) (by kernel_rfl) (fun _ _ _ h => h) (by rfl) ?hq13 (by assumption) ?rq13
  case hq13 => (intro W hSw; (try dsimp only at hSw); go_simp <;> with_reducible rfl)
  (try simp only [Act.put, List.setIfInBounds_toArray, List.set_cons_zero, List.set_cons_succ])
  refine ordM_take 5 ?vq14 rfl (by kernel_rfl) (by kernel_rfl) (by kernel_rfl) (by kernel_rfl) (fun _ _ _ h => h) (by rfl) ?hq14 (by assumption) ?rq14
  case hq14 => (intro W hSw; (try dsimp only at hSw); go_simp <;> with_reducible rfl)
  (try simp only [Act.put, List.setIfInBounds_toArray, List.set_cons_zero, List.set_cons_succ])
  refine ordM_take 6 ?vq15 rfl (by kernel_rfl) (by kernel_rfl) (by kernel_rfl) (by kernel_rfl) (fun _ _ _ h => h) (by rfl) ?hq15 (by assumption) ?rq15
  case hq15 => (intro W hSw; (try dsimp only at hSw); go_simp <;> with_reducible rfl)
  (try simp only [Act.put, List.setIfInBounds_toArray, List.set_cons_zero, List.set_cons_succ])
  refine ordM_take 7 ?vq16 rfl (by kernel_rfl) (by kernel_rfl) (by kernel_rfl) (by kernel_rfl) (fun _ _ _ h => h) (by rfl) ?hq16 (by assumption) ?rq16
  case hq16 => (intro W hSw; (try dsimp only at hSw); go_simp <;> with_reducible rfl)
  (try simp only [Act.put, List.setIfInBounds_toArray, List.set_cons_zero, List.set_cons_succ])
  refine ordM_take 8 ?vq17 rfl (by kernel_rfl) (by kernel_rfl) (by kernel_rfl) (by kernel_rfl) (fun _ _ _ h => h) (by rfl) ?hq17 (by assumption) ?rq17
  case hq17 => (intro W hSw; (try dsimp only at hSw); go_simp <;> with_reducible rfl)
  (try simp only [Act.put, List.setIfInBounds_toArray, List.set_cons_zero, List.set_cons_succ])
  refine ordM_ready [9] (by kernel_rfl) (by simp) ?_
  refine AllReadyM.cons rfl (fun K hK => ?_) AllReadyM.nil
  go_simp
  go_at_call 51
  refine (tbRoom_q hT4d).mono ?_
  rintro e w5' ⟨rfl, hq⟩
  subst hq
  rename World => w5
  (try go_wp2_with fail)
  refine hK.out _ _ (fun _ => hSd) ?_
  clear hK K
  (try simp only [Act.put, List.setIfInBounds_toArray, List.set_cons_zero, List.set_cons_succ])
  refine ordM_take 10 ?vq18 rfl (by kernel_rfl) (by kernel_rfl) (by kernel_rfl) (by kernel_rfl) (fun _ _ _ h => h) (by rfl) ?hq18 (by assumption) ?rq18
  case hq18 => (intro W hSw; (try dsimp only at hSw); go_simp <;> with_reducible rfl)
  (try simp only [Act.put, List.setIfInBounds_toArray, List.set_cons_zero, List.set_cons_succ])
  refine ordM_take 11 ?vq19 rfl (by kernel_rfl) (by kernel_rfl) (by kernel_rfl) (by kernel_rfl) (fun _ _ _ h => h) (by rfl) ?hq19 (by assumption) ?rq19
  case hq19 => (intro W hSw; (try dsimp only at hSw); go_simp <;> with_reducible rfl)
  (try simp only [Act.put, List.setIfInBounds_toArray, List.set_cons_zero, List.set_cons_succ])
  refine ordM_take 12 ?vq20 rfl (by kernel_rfl) (by kernel_rfl) (by kernel_rfl) (by kernel_rfl) (fun _ _ _ h => h) (by rfl) ?hq20 (by assumption) ?rq20
  case hq20 => (intro W hSw; (try dsimp only at hSw); go_simp <;> with_reducible rfl)
  (try simp only [Act.put, List.setIfInBounds_toArray, List.set_cons_zero, List.set_cons_succ])
  refine ordM_done (by kernel_rfl) ?_ _
  refine NoPanic.normal ?_
  go_wp2_with fail
  go_ret2
  exact ⟨rfl, by rw [HG.out]; exact hb4d⟩
set_option maxRecDepth 100000 in
set_option maxHeartbeats 6400000 in
theorem tbSetNew {w : World} {base gt : Nat} {m ver : Int} {v : Value} {l : List TB} (h : TbIn w base gt m ver v l) (r : TB) (hm : tbMay r = true) (hne : ∀ x ∈ l, x.id ≠ r.id) (hroom0 : (l.length : Int) < min (max m 1) 15) (hver : 0 ≤ ver ∧ ver ≤ 1099511627776) :
    Calls Try.prog 23 #[.pointer (some ⟨gt, 0, none⟩), .agg #[.int .i64 r.id, .bool r.up, .int .i64 r.rate]] w fun e w' => ∃ v', e = .returned (.tuple #[.bool true, .int .i64 0]) ∧ TbIn w' base gt m (ver + 1) v' (tbPut r l) ∧ w.heap.size ≤ w'.heap.size ∧ (∀ k, k < w.heap.size → k ≠ gt → v.ownBlock ≠ some k → w'.heap[k]? = w.heap[k]?) ∧ (v'.ownBlock = v.ownBlock ∨ ∃ k, v'.ownBlock = some k ∧ w.heap.size ≤ k) ∧ Below base w w' := by
  obtain ⟨a, cap, rfl⟩ := h.row.formG
  have hE := atB_new 70 w w.heap.size #[.int .i64 r.id, .bool r.up, .int .i64 r.rate] rfl
  have hb : Below w.heap.size w (w.alloc (.cells #[.int .i64 r.id, .bool r.up, .int .i64 r.rate] 70)) := (Below.refl _ _).alloc (Nat.le_refl _) _
  have HMAY := Lib.hid (fun W => tbMay_any r W)
  go_enter Try.func23, Try.ntmps23
  go_upto_region 1 with fail
  generalize (w.alloc (.cells #[.int .i64 r.id, .bool r.up, .int .i64 r.rate] 70)) = w2 at *
  have hT := h.later hb
  have hgt := h.at3.lt
  have hrl := fun k (hk : (Value.slice a l.length cap).ownBlock = some k) => (h.row_lt hk).2
  generalize hg3 : w.heap.size = g3 at *
  have HG := Lib.hid hg3
  have hsz : g3 ≤ w2.heap.size := Nat.le_of_lt hE.lt
  clear hg3
  obtain ⟨_, _, _⟩ := hE.cells3
  rw [hm] at HMAY
  go_wp2_with fail
  refine (HMAY.out _).mono ?_
  rintro e w3 ⟨rfl, hb3⟩
  have hb3' := hb.trans (hb3.mono hsz)
  have hT3 := hT.later hb3
  have hE3' := hE.later hb3
  have hsz3 : g3 ≤ w3.heap.size := Nat.le_trans hsz hb3.size
  have HPL := Lib.hid (tbPlace_any hT3 r.id hne)
  obtain ⟨_, _, _⟩ := hE3'.cells3
  go_wp2_with fail
  refine HPL.out.mono ?_
  rintro e w4 ⟨rfl, hb4⟩
  have hT4 := hT3.later hb4
  have hE4 := hE3'.later hb4
  have hb4 := hb3'.trans (hb4.mono hsz3)
  clear HPL hT hT3 hE hE3' hb3 hb hb3'
  have hroom : decide (min (max m 1) 15 ≤ (l.length : Int)) = false := decide_eq_false (by omega)
  go_upto_region 5 with fail
  have hT4d := hT4.later (Below.refl _ _).drew
  have hSd : w4.drew.cell? ⟨gt, 2, none⟩ = some (.slice a l.length cap) := hT4d.at3.cells3.2.2
  refine wp_region_noPanic ?_
  refine ordM_begin (fun W : World => W.cell? ⟨gt, 2, none⟩ = some (.slice a l.length cap)) (fun i => false) (by kernel_rfl) hSd ?_
  have hb4d := hb4.drew
  have hE4d := hE4.drew
  generalize w4.drew = w5 at *
  refine ordM_take 0 ?vq9 rfl (by kernel_rfl) (by kernel_rfl) (by kernel_rfl) (by kernel_rfl) (fun _ _ _ h => h) (by rfl) ?hq9 (by assumption) ?rq9
  case hq9 => (intro W hSw; (try dsimp only at hSw); go_simp <;> with_reducible rfl)
  (try simp only [Act.put, List.setIfInBounds_toArray, List.set_cons_zero, List.set_cons_succ])
  refine ordM_take 1 ?vq10 rfl (by kernel_rfl) (by kernel_rfl) (by kernel_rfl) (by kernel_rfl) (fun _ _ _ h => h) (by rfl) ?hq10 (by assumption) ?rq10
  case hq10 => (intro W hSw; (try dsimp only at hSw); go_simp <;> with_reducible rfl)
  (try simp only [Act.put, List.setIfInBounds_toArray, List.set_cons_zero, List.set_cons_succ])
  refine ordM_take 2 ?vq11 rfl (by kernel_rfl) (by kernel_rfl) (by kernel_rfl) (by kernel_rfl) (fun _ _ _ h => h) (by rfl) ?hq11 (by assumption) ?rq11
  case hq11 => (intro W hSw; (try dsimp only at hSw); go_simp <;> with_reducible rfl)
  (try simp only [Act.put, List.setIfInBounds_toArray, List.set_cons_zero, List.set_cons_succ])
  refine ordM_take 3 ?vq12 rfl (by kernel_rfl) (by kernel_rfl) (by kernel_rfl) (by kernel_rfl) (fun _ _ _ h => h) (by rfl) ?hq12 (by assumption) ?rq12
  case hq12 => (intro W hSw; (try dsimp only at hSw); go_simp <;> with_reducible rfl)
  (try simp only [Act.put, List.setIfInBounds_toArray, List.set_cons_zero, List.set_cons_succ])
  refine ordM_take 4 ?vq13 rfl (by kernel_rfl) (by kernel_rfl) (by kernel_rfl) (by kernel_rfl) (fun _ _ _ h => h) (by rfl) ?hq13 (by assumption) ?rq13
  case hq13 => (intro W hSw; (try dsimp only at hSw); go_simp <;> with_reducible rfl)
  (try simp only [Act.put, List.setIfInBounds_toArray, List.set_cons_zero, List.set_cons_succ])
  refine ordM_take 5 ?vq14 rfl (by kernel_rfl) (by kernel_rfl) (by kernel_rfl) (by kernel_rfl) (fun _ _ _ h => h) (by rfl) ?hq14 (by assumption) ?rq14
  case hq14 => (intro W hSw; (try dsimp only at hSw); go_simp <;> with_reducible rfl)
  (try simp only [Act.put, List.setIfInBounds_toArray, List.set_cons_zero, List.set_cons_succ])
  refine ordM_take 6 ?vq15 rfl (by kernel_rfl) (by kernel_rfl) (by kernel_rfl) (by kernel_rfl) (fun _ _ _ h => h) (by rfl) ?hq15 (by assumption) ?rq15
  case hq15 => (intro W hSw; (try dsimp only at hSw); go_simp <;> with_reducible rfl)
  (try simp only [Act.put, List.setIfInBounds_toArray, List.set_cons_zero, List.set_cons_succ])
  refine ordM_take 7 ?vq16 rfl (by kernel_rfl) (by kernel_rfl) (by kernel_rfl) (by kernel_rfl) (fun _ _ _ h => h) (by rfl) ?hq16 (by assumption) ?rq16
  case hq16 => (intro W hSw; (try dsimp only at hSw); go_simp <;> with_reducible rfl)
  (try simp only [Act.put, List.setIfInBounds_toArray, List.set_cons_zero, List.set_cons_succ])
  refine ordM_take 8 ?vq17 rfl (by kernel_rfl) (by kernel_rfl) (by kernel_rfl) (by kernel_rfl) (fun _ _ _ h => h) (by rfl) ?hq17 (by assumption) ?rq17
  case hq17 => (intro W hSw; (try dsimp only at hSw); go_simp <;> with_reducible rfl)
  (try simp only [Act.put, List.setIfInBounds_toArray, List.set_cons_zero, List.set_cons_succ])
  refine ordM_ready [9] (by kernel_rfl) (by simp) ?_
  refine AllReadyM.cons rfl (fun K hK => ?_) AllReadyM.nil
  go_simp
  go_at_call 51
  refine (tbRoom_q hT4d).mono ?_
  rintro e w5' ⟨rfl, hq⟩
  subst hq
  rename World => w5
  (try go_wp2_with fail)
  refine hK.out _ _ (fun _ => hSd) ?_
  clear hK K
  (try simp only [Act.put, List.setIfInBounds_toArray, List.set_cons_zero, List.set_cons_succ])
  refine ordM_take 10 ?vq18 rfl (by kernel_rfl) (by kernel_rfl) (by kernel_rfl) (by kernel_rfl) (fun _ _ _ h => h) (by rfl) ?hq18 (by assumption) ?rq18
  case hq18 => (intro W hSw; (try dsimp only at hSw); go_simp <;> with_reducible rfl)
  (try simp only [Act.put, List.setIfInBounds_toArray, List.set_cons_zero, List.set_cons_succ])
  refine ordM_take 11 ?vq19 rfl (by kernel_rfl) (by kernel_rfl) (by kernel_rfl) (by kernel_rfl) (fun _ _ _ h => h) (by rfl) ?hq19 (by assumption) ?rq19
  case hq19 => (intro W hSw; (try dsimp only at hSw); go_simp <;> with_reducible rfl)
  (try simp only [Act.put, List.setIfInBounds_toArray, List.set_cons_zero, List.set_cons_succ])
  refine ordM_take 12 ?vq20 rfl (by kernel_rfl) (by kernel_rfl) (by kernel_rfl) (by kernel_rfl) (fun _ _ _ h => h) (by rfl) ?hq20 (by assumption) ?rq20
  case hq20 => (intro W hSw; (try dsimp only at hSw); go_simp <;> with_reducible rfl)
  (try simp only [Act.put, List.setIfInBounds_toArray, List.set_cons_zero, List.set_cons_succ])
  refine ordM_done (by kernel_rfl) ?_ _
  refine NoPanic.normal ?_
  have HNE : Hid ((Value.slice a l.length cap).ownBlock ≠ some g3) := Lib.hid (fun e => by have := hrl g3 e; omega)
  have HG3 : Hid (g3 ≠ gt) := Lib.hid (by omega)
  have hT := hT4d
  have hE3 := hE4d
  have hb5 := hb4d
  have hszd : g3 ≤ w5.drew.heap.size := Nat.le_of_lt hE4d.lt
  clear hT4 hT4d hE4 hE4d hb4 hb4d hSd
  go_upto_region 8 with fail
  have hTd := hT.later (Below.refl _ _).drew
  have hEd := hE3.drew
  have hSd : w5.drew.cell? ⟨gt, 2, none⟩ = some (.slice a l.length cap) ∧ w5.drew.cell? ⟨g3, 0, none⟩ = some (.int .i64 r.id) ∧ w5.drew.cell? ⟨g3, 1, none⟩ = some (.bool r.up) ∧ w5.drew.cell? ⟨g3, 2, none⟩ = some (.int .i64 r.rate) := ⟨hTd.at3.cells3.2.2, hEd.cells3⟩
  refine wp_region_noPanic ?_
  refine ordM_begin (fun W : World => W.cell? ⟨gt, 2, none⟩ = some (.slice a l.length cap) ∧ W.cell? ⟨g3, 0, none⟩ = some (.int .i64 r.id) ∧ W.cell? ⟨g3, 1, none⟩ = some (.bool r.up) ∧ W.cell? ⟨g3, 2, none⟩ = some (.int .i64 r.rate)) (fun i => i == 11) (by kernel_rfl) hSd ?_
  have hbd := hb5.drew
  generalize w5.drew = wd at *
  refine ordM_take 0 ?vq1 rfl (by kernel_rfl) (by kernel_rfl) (by kernel_rfl) (by kernel_rfl) (fun _ _ _ h => h) (by rfl) ?hq1 (by assumption) ?rq1
  case hq1 => (intro W hSw; (try dsimp only at hSw); go_simp <;> with_reducible rfl)
  (try simp only [Act.put, List.setIfInBounds_toArray, List.set_cons_zero, List.set_cons_succ])
  refine ordM_take 1 ?vq2 rfl (by kernel_rfl) (by kernel_rfl) (by kernel_rfl) (by kernel_rfl) (fun _ _ _ h => h) (by rfl) ?hq2 (by assumption) ?rq2
  case hq2 => (intro W hSw; (try dsimp only at hSw); go_simp <;> with_reducible rfl)
  (try simp only [Act.put, List.setIfInBounds_toArray, List.set_cons_zero, List.set_cons_succ])
  refine ordM_take 2 ?vq3 rfl (by kernel_rfl) (by kernel_rfl) (by kernel_rfl) (by kernel_rfl) (fun _ _ _ h => h) (by rfl) ?hq3 (by assumption) ?rq3
  case hq3 => (intro W hSw; (try dsimp only at hSw); go_simp <;> with_reducible rfl)
  (try simp only [Act.put, List.setIfInBounds_toArray, List.set_cons_zero, List.set_cons_succ])
  refine ordM_take 3 ?vq4 rfl (by kernel_rfl) (by kernel_rfl) (by kernel_rfl) (by kernel_rfl) (fun _ _ _ h => h) (by rfl) ?hq4 (by assumption) ?rq4
  case hq4 => (intro W hSw; (try dsimp only at hSw); go_simp <;> with_reducible rfl)
  (try simp only [Act.put, List.setIfInBounds_toArray, List.set_cons_zero, List.set_cons_succ])
  refine ordM_take 4 ?vq5 rfl (by kernel_rfl) (by kernel_rfl) (by kernel_rfl) (by kernel_rfl) (fun _ _ _ h => h) (by rfl) ?hq5 (by assumption) ?rq5
  case hq5 => (intro W hSw; (try dsimp only at hSw); go_simp <;> with_reducible rfl)
  (try simp only [Act.put, List.setIfInBounds_toArray, List.set_cons_zero, List.set_cons_succ])
  refine ordM_take 5 ?vq6 rfl (by kernel_rfl) (by kernel_rfl) (by kernel_rfl) (by kernel_rfl) (fun _ _ _ h => h) (by rfl) ?hq6 (by assumption) ?rq6
  case hq6 => (intro W hSw; (try dsimp only at hSw); go_simp <;> with_reducible rfl)
  (try simp only [Act.put, List.setIfInBounds_toArray, List.set_cons_zero, List.set_cons_succ])
  refine ordM_take 6 ?vq7 rfl (by kernel_rfl) (by kernel_rfl) (by kernel_rfl) (by kernel_rfl) (fun _ _ _ h => h) (by rfl) ?hq7 (by assumption) ?rq7
  case hq7 => (intro W hSw; (try dsimp only at hSw); go_simp <;> with_reducible rfl)
  (try simp only [Act.put, List.setIfInBounds_toArray, List.set_cons_zero, List.set_cons_succ])
  refine ordM_ready [7] (by kernel_rfl) (by simp) ?_
  refine AllReadyM.cons rfl (fun K hK => ?_) AllReadyM.nil
  go_simp
  have hal : Below wd.heap.size wd (wd.alloc (.cells #[.int .i64 r.id, .bool r.up, .int .i64 r.rate] 70)) := (Below.refl _ _).alloc (Nat.le_refl _) _
  have hT6 := hTd.later hal
  have hE6 := hEd.later hal
  have hvb := atB_new 70 wd wd.heap.size #[.int .i64 r.id, .bool r.up, .int .i64 r.rate] rfl
  have hS6 : (wd.alloc (.cells #[.int .i64 r.id, .bool r.up, .int .i64 r.rate] 70)).cell? ⟨gt, 2, none⟩ = some (.slice a l.length cap) ∧ (wd.alloc (.cells #[.int .i64 r.id, .bool r.up, .int .i64 r.rate] 70)).cell? ⟨g3, 0, none⟩ = some (.int .i64 r.id) ∧ (wd.alloc (.cells #[.int .i64 r.id, .bool r.up, .int .i64 r.rate] 70)).cell? ⟨g3, 1, none⟩ = some (.bool r.up) ∧ (wd.alloc (.cells #[.int .i64 r.id, .bool r.up, .int .i64 r.rate] 70)).cell? ⟨g3, 2, none⟩ = some (.int .i64 r.rate) := ⟨hT6.at3.cells3.2.2, hE6.cells3⟩
  refine hK.out _ _ (fun _ => hS6) ?_
  clear hK K
  (try simp only [Act.put, List.setIfInBounds_toArray, List.set_cons_zero, List.set_cons_succ])
  have hvn : (Value.slice a l.length cap).ownBlock ≠ some wd.heap.size := fun e => by have := (hTd.row_lt e).2; omega
  have hb6 := hbd.trans (hal.mono hszd)
  obtain ⟨w6, hw6⟩ : ∃ z, (wd.alloc (.cells #[.int .i64 r.id, .bool r.up, .int .i64 r.rate] 70)) = z := ⟨_, rfl⟩
  obtain ⟨vb, hvbq⟩ : ∃ z, wd.heap.size = z := ⟨_, rfl⟩
  rw [hw6] at hT6 hE6 hvb hS6 hb6 ⊢
  rw [hvbq] at hvb hvn ⊢
  clear hal hw6 hSd
  refine ordM_ready [8] (by kernel_rfl) (by simp) ?_
  refine AllReadyM.cons rfl (fun K hK => ?_) AllReadyM.nil
  go_simp
  go_at_call 52
  refine (tbInsert_any hT6.row (tbPos r.id l) vb r.rs rfl (tbPos_le _ _) (by have := hT6.ln; omega) hvb hvn (tbV_one _) (TB.rs_one _) (by have := hT6.bs; have := hT6.at3.lt; omega)).mono ?_
  rintro e w7 ⟨v7, rfl, hO7, hg7, hv7⟩
  obtain ⟨a7, k7, rfl⟩ := hO7.formG
  (try go_wp2_with fail)
  rw [tbV_ins] at hO7
  have hgt6 : gt < w6.heap.size := hT6.at3.lt
  have hT7 : AtB 93 w7 gt #[.int .i64 m, .int .i64 ver, .slice a l.length cap] := hT6.at3.same (hg7.block gt hgt6 (fun e => hT6.row_ne e.symm))
  have hE7 : AtB 70 w7 g3 #[.int .i64 r.id, .bool r.up, .int .i64 r.rate] := hE6.same (hg7.block g3 hE6.lt (fun e => HNE.out e.symm))
  have hS7 : w7.cell? ⟨gt, 2, none⟩ = some (.slice a l.length cap) ∧ w7.cell? ⟨g3, 0, none⟩ = some (.int .i64 r.id) ∧ w7.cell? ⟨g3, 1, none⟩ = some (.bool r.up) ∧ w7.cell? ⟨g3, 2, none⟩ = some (.int .i64 r.rate) := ⟨hT7.cells3.2.2, hE7.cells3⟩
  refine hK.out _ _ (fun _ => hS7) ?_
  clear hK K
  (try simp only [Act.put, List.setIfInBounds_toArray, List.set_cons_zero, List.set_cons_succ])
  refine ordM_ready [9] (by kernel_rfl) (by simp) ?_
  refine AllReadyM.cons rfl (fun K hK => ?_) AllReadyM.nil
  go_simp
  refine hK.out _ _ (fun _ => hS7) ?_
  clear hK K
  (try simp only [Act.put, List.setIfInBounds_toArray, List.set_cons_zero, List.set_cons_succ])
  refine ordM_take 10 ?vq8 rfl (by kernel_rfl) (by kernel_rfl) (by kernel_rfl) (by kernel_rfl) (fun _ _ _ h => h) (by rfl) ?hq8 (by assumption) ?rq8
  case hq8 => (intro W hSw; (try dsimp only at hSw); go_simp <;> with_reducible rfl)
  (try simp only [Act.put, List.setIfInBounds_toArray, List.set_cons_zero, List.set_cons_succ])
  have hf7 := hT7.free 2
  have hc7 := hT7.cells3.2.2
  refine ordM_ready [11] (by kernel_rfl) (by simp) ?_
  refine AllReadyM.cons rfl (fun K hK => ?_) AllReadyM.nil
  go_simp
  refine hK.out _ _ (fun h => absurd h (by decide)) ?_
  clear hK K
  (try simp only [Act.put, List.setIfInBounds_toArray, List.set_cons_zero, List.set_cons_succ])
  refine ordM_done (by kernel_rfl) ?_ _
  refine NoPanic.normal ?_
  have ho := (Only.refl gt w7).setCell 2 (.slice a7 (l.length + 1) k7)
  have hT8 : AtB 93 (w7.setCell ⟨gt, 2, none⟩ (.slice a7 (l.length + 1) k7)) gt #[.int .i64 m, .int .i64 ver, (.slice a7 (l.length + 1) k7)] := block_setCell hT7
  have HCU := Lib.hid (fun (k : Nat) (hk : k < g3) (h1 : k ≠ gt) (h2 : (Value.slice a l.length cap).ownBlock ≠ some k) => show (w7.setCell ⟨gt, 2, none⟩ (.slice a7 (l.length + 1) k7)).heap[k]? = w.heap[k]? from by
    have hkl : k < w6.heap.size := by have := hb6.size; have := HG.out; omega
    rw [ho.block k h1, hg7.block k hkl (fun e => h2 e.symm), hb6.block k hk])
  have hO8 := hO7.keep (W' := w7.setCell ⟨gt, 2, none⟩ (.slice a7 (l.length + 1) k7)) (by rw [ho.size]; exact Nat.le_refl _) (fun k cs hk hc => ho.block k (fun e' => by
    subst e'
    exact blkB_ne (T := 70) (T' := 93) hc hT7 (by decide) rfl))
  have hBB : Below base w (w7.setCell ⟨gt, 2, none⟩ (.slice a7 (l.length + 1) k7)) := (((hb6.mono (by have := hT6.bs; omega)).grown hg7 (by have := hT6.bs; omega) (fun k hk => (hT6.row_lt hk).1)).trans (ho.below hT6.bs))
  have hsz8 : w6.heap.size ≤ (w7.setCell ⟨gt, 2, none⟩ (.slice a7 (l.length + 1) k7)).heap.size := by rw [ho.size]; exact hg7.size
  have hsz6 : g3 ≤ w6.heap.size := by have := hb6.size; have := HG.out; omega
  have hbs := hT6.bs
  generalize (w7.setCell ⟨gt, 2, none⟩ (.slice a7 (l.length + 1) k7)) = w8 at *
  clear hT7 hE7 hS7 hf7 hc7 ho hT6 hE6 hvb hS6 hO7 hg7 hb6
  obtain ⟨x0, x1, x2⟩ := hT8.cells3
  have x3 := hT8.free 1
  have hwr : IntKind.i64.wrap (ver + 1) = ver + 1 := IntWalk.i64_in _ ⟨by omega, by omega⟩
  have ho9 := (Only.refl gt w8).setCell 1 (.int .i64 (ver + 1))
  have hT9 : AtB 93 (w8.setCell ⟨gt, 1, none⟩ (.int .i64 (ver + 1))) gt #[.int .i64 m, .int .i64 (ver + 1), .slice a7 (l.length + 1) k7] := block_setCell hT8
  have hO9 := hO8.keep (W' := w8.setCell ⟨gt, 1, none⟩ (.int .i64 (ver + 1))) (by rw [ho9.size]; exact Nat.le_refl _) (fun k cs hk hc => ho9.block k (fun e' => by
    subst e'
    exact blkB_ne (T := 70) (T' := 93) hc hT8 (by decide) rfl))
  go_wp2_with fail
  go_ret2
  have hll : (tbPut r l).length = l.length + 1 := tbPut_len r l
  refine ⟨.slice a7 (l.length + 1) k7, rfl, ⟨hbs, hT9, by rw [hll]; exact hO9, tbPut_up h.up hne, by rw [hll]; have := h.ln; omega⟩, ?_, fun k hk h1 h2 => ?_, ?_, hBB.trans (ho9.below hbs)⟩
  · rw [ho9.size, HG.out]; omega
  · rw [ho9.block k h1]; exact HCU.out k (by rw [← HG.out]; exact hk) h1 h2
  · exact hv7.imp id (fun ⟨k, q1, q2⟩ => ⟨k, q1, by rw [HG.out]; omega⟩)
end Go.Proofs.Ytilobmebfeenfaa
