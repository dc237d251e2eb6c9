/- net: end, Take, Lose. -/
import Derived.Test.YtbmbomojnljccaaNeF
namespace Go.Proofs.Ytbmbomojnljccaa
open Go.RowKit Go.Maps
set_option linter.unusedVariables false
set_option linter.unusedSimpArgs false
theorem MapN.upd {w : World} {b n : Nat} {f : Int → Int → Option Value} (h : MapN w b n f) (hn : n < maxLen) {a p : Int} (hk : wf2 a p) {v : Value} (hv : IsSl v) :
    ∃ w', (Instr.mapUpdate 60 (.map (some b)) (.agg #[.int .i64 a, .int .i64 p]) v).run Try.prog w = .ok () w' ∧ MapN w' b (n + 1) (putF f a p (some v)) ∧ w.grownBy w' (some b) := by
  obtain ⟨D, h1, h2, h3, h4⟩ := h
  obtain ⟨w', hr, hown, hg⟩ := h1.update neKey Try.underlying60 hn (ne_key hk.1 hk.2) (slElem_mk hv)
  obtain ⟨q1, q2⟩ := mapN_put hk v h2 h3 h4
  exact ⟨w', hr, ⟨_, hown, Tidy.put (k := neKl a p) h2 trivial _, q1, q2⟩, hg⟩
theorem MapN.del {w : World} {b n : Nat} {f : Int → Int → Option Value} (h : MapN w b n f) {a p : Int} (hk : wf2 a p) (ty : TypeId) :
    ∃ w', (Builtin.delete_ #[60, 73] ty #[.map (some b), .agg #[.int .i64 a, .int .i64 p]]).run Try.prog w = .ok (.tuple #[]) w' ∧ MapN w' b n (putF f a p none) ∧ w.grownBy w' (some b) := by
  obtain ⟨D, h1, h2, h3, h4⟩ := h
  obtain ⟨w', hr, hown, hg⟩ := h1.drop neKey Try.underlying60 (ne_key hk.1 hk.2) ty
  refine ⟨w', hr, ⟨_, hown, Tidy.del h2 _, fun a' p' hy => ?_, fun a' p' hy => ?_⟩, hg.grown⟩
  · unfold putF
    by_cases e : a' = a ∧ p' = p
    · obtain ⟨rfl, rfl⟩ := e
      rw [has_del_same]
      simp
    · rw [has_del_other (show neKl a' p' ≠ neKl a p from fun h => e (neKl_inj hy.1 hy.2 hk.1 hk.2 h)), h3 a' p' hy, if_neg e]
  · unfold putF
    by_cases e : a' = a ∧ p' = p
    · obtain ⟨rfl, rfl⟩ := e
      rw [atKey_del_same]
      simp [slD, slElem]
    · rw [atKey_del_other (show neKl a' p' ≠ neKl a p from fun h => e (neKl_inj hy.1 hy.2 hk.1 hk.2 h)), h4 a' p' hy, if_neg e]
/-- How Take and Lose end. -/
inductive NeEnd (x : NE) (a p i : Int) (q : Nat) : Option ByteArray → NE → Prop
  | none (h : neAt (x.G a p) i = none) : NeEnd x a p i q none x
  | some (k : Nat) (s : ByteArray) (hk : i = k) (hs : (x.G a p)[k]? = some s) (v' : Value) : NeEnd x a p i q (some s) ((x.set a p v' ((x.G a p).eraseIdx k)).more q)
theorem mem_eraseIdx' {l : List ByteArray} {k : Nat} {s : ByteArray} (h : s ∈ l.eraseIdx k) : s ∈ l := List.mem_of_mem_eraseIdx h
theorem putF_same (f : Int → Int → Option Value) (a p : Int) (v : Option Value) : putF f a p v a p = v := by simp [putF]
theorem putF_slF {f : Int → Int → Option Value} (h : SlF f) {a p : Int} {v : Value} (hv : IsSl v) : SlF (putF f a p (some v)) := fun a' p' u hu => by
  unfold putF at hu
  split at hu
  · cases hu; exact hv
  · exact h a' p' u hu
set_option maxRecDepth 100000 in
set_option maxHeartbeats 6400000 in
theorem neEndTake {w : World} {base gn n : Nat} {x : NE} (h : NIn w base gn n x) {a p : Int} (hk : wf2 a p) (i : Int) (hn : n < 4611686018427387904) (hc : ∀ i, 0 ≤ x.c i ∧ x.c i ≤ 1099511627776) :
    Calls Try.prog 35 #[.pointer (some ⟨gn, 0, none⟩), .agg #[.int .i64 a, .int .i64 p], .int .i64 i, .pointer (some ⟨gn, 5, none⟩)] w fun e w' => ∃ (r : Option ByteArray) (x' : NE), e = .returned (.tuple #[.string (r.getD (⟨#[]⟩ : ByteArray)), .bool r.isSome]) ∧ NeEnd x a p i 2 r x' ∧ NIn w' base gn (n + 1) x' ∧ NKeep gn x w w' x' := by
  have hX := atQ_new 73 w w.heap.size #[.int .i64 a, .int .i64 p] rfl
  have hb : Below w.heap.size w (w.alloc (.cells #[.int .i64 a, .int .i64 p] 73)) := (Below.refl _ _).alloc (Nat.le_refl _) _
  have h2 := h.later hb
  have hK2 : NKeep gn x w (w.alloc (.cells #[.int .i64 a, .int .i64 p] 73)) x := nKeep_below hb
  go_enter Try.func35, Try.ntmps35
  go_upto_region 1 with fail
  generalize (w.alloc (.cells #[.int .i64 a, .int .i64 p] 73)) = w2 at hX hb h2 hK2 ⊢
  generalize hg0 : w.heap.size = g0 at hX hb ⊢
  clear hg0 h hb
  obtain ⟨_, _⟩ := hX.cells2
  have HGT := Lib.hid (neGet_any h2 hk i)
  go_wp2_with fail
  refine HGT.out.mono ?_
  rintro e w3 ⟨rfl, hk3⟩
  have hJ := h2.later hk3
  have hX3 := hX.later hk3
  have hKJ := hK2.trans (nKeep_below hk3)
  obtain ⟨_, _⟩ := hX3.cells2
  clear h2 hX hK2 hk3 HGT
  cases hi : neAt (x.G a p) i with
  | none =>
    simp only [Option.getD, Option.isSome]
    go_wp2_with fail
    go_ret2
    exact ⟨none, x, rfl, .none hi, hJ.mono (by omega), hKJ⟩
  | some s =>
    obtain ⟨k, rfl, hkl, hs⟩ := neAt_some hi
    simp only [Option.getD, Option.isSome]
    have hln := hJ.ln a p
    have hGne : x.G a p ≠ [] := fun e => by rw [e] at hkl; cases hkl
    obtain ⟨b, hmp, hbb, hmap⟩ : ∃ b, x.mp = some b ∧ base ≤ b ∧ MapN w3 b n x.f := by
      rcases hJ.mem with ⟨_, e⟩ | h
      · exact absurd (e a p) hGne
      · exact h
    have hgw : gn < w3.heap.size := hJ.at9.lt
    have hg0w : g0 < w3.heap.size := hX3.lt
    have hbw : b < w3.heap.size := hmap.lt
    have hbg : b ≠ gn := hJ.map_ne hmp
    have hbg0 : b ≠ g0 := by
      obtain ⟨es, cl, hh⟩ := hmap.isMap
      exact fun e => blkQ_map hX3 hh e.symm
    have hrg0 : ∀ k, (x.V a p).ownBlock = some k → k ≠ g0 ∧ k ≠ gn ∧ k ≠ b ∧ k < w3.heap.size := fun k hk2 => by
      obtain ⟨cs, hcs⟩ := (hJ.own a p).2 k hk2
      exact ⟨blkQ_ne hcs hX3 (by decide), fun e => hJ.row_ne a p (by rw [hk2, e]), fun e => hJ.row_map a p hmp (by rw [hk2, e]), lt_of_block hcs⟩
    have hlkG : ∀ W : World, W.heap[b]? = w3.heap[b]? → (Instr.lookup 60 (.map (some b)) (.agg #[.int .i64 a, .int .i64 p]) false).run Try.prog W = .ok (x.V a p) W := fun W hW => by
      have := (hmap.same hW).eq hJ.slF hk
      rw [hJ.fV] at this
      exact this
    have hSG : ∀ W : World, W.heap[gn]? = w3.heap[gn]? → W.heap[g0]? = w3.heap[g0]? → W.heap[b]? = w3.heap[b]? → W.cell? ⟨gn, 2, none⟩ = some (.map (some b)) ∧ W.cell? ⟨g0, 0, none⟩ = some (.int .i64 a) ∧ W.cell? ⟨g0, 1, none⟩ = some (.int .i64 p) ∧ (Instr.lookup 60 (.map (some b)) (.agg #[.int .i64 a, .int .i64 p]) false).run Try.prog W = .ok (x.V a p) W := fun W h1 h2 h3 => by
      have e1 := hJ.cells.2.2.1
      rw [hmp] at e1
      exact ⟨by rw [cell_same h1]; exact e1, by rw [cell_same h2]; exact hX3.cells2.1, by rw [cell_same h2]; exact hX3.cells2.2, hlkG W h3⟩
    have hown := hJ.own a p
    have HI := Lib.hid hJ
    have HK := Lib.hid hKJ
    have HMAP := Lib.hid hmap
    have HDEL := Lib.hid (fun W (hW : OwnE W base 9 1 (x.V a p) (x.G a p).length (neV (x.G a p))) => neDelete_one hW (by omega) k hkl)
    have hwr : IntKind.i64.wrap ((k : Int) + 1) = (k : Int) + 1 := IntWalk.i64_in _ ⟨by omega, by omega⟩
    have hnil := hJ.slF
    clear hJ hKJ hmap hlkG
    generalize hV : x.V a p = v at *
    generalize hG : x.G a p = l at *
    go_upto_region 4 with fail
    have hSd := hSG w3.drew rfl rfl rfl
    have hownd := hown.drew
    refine wp_region_noPanic ?_
    refine ordM_begin (fun W : World => W.cell? ⟨gn, 2, none⟩ = some (.map (some b)) ∧ W.cell? ⟨g0, 0, none⟩ = some (.int .i64 a) ∧ W.cell? ⟨g0, 1, none⟩ = some (.int .i64 p) ∧ (Instr.lookup 60 (.map (some b)) (.agg #[.int .i64 a, .int .i64 p]) false).run Try.prog W = .ok (v) W) (fun i => i == 15) (by kernel_rfl) hSd ?_
    refine ordM_take 0 ?vq1 rfl (by kernel_rfl) (by kernel_rfl) (by kernel_rfl) (by kernel_rfl) (fun _ _ _ h => h) (by rfl) ?hq1 (by assumption) ?rq1
    case hq1 => (intro W hSw; (try dsimp only at hSw); go_simp <;> with_reducible rfl)
    (try simp only [Act.put, List.setIfInBounds_toArray, List.set_cons_zero, List.set_cons_succ])
    refine ordM_take 1 ?vq2 rfl (by kernel_rfl) (by kernel_rfl) (by kernel_rfl) (by kernel_rfl) (fun _ _ _ h => h) (by rfl) ?hq2 (by assumption) ?rq2
    case hq2 => (intro W hSw; (try dsimp only at hSw); go_simp <;> with_reducible rfl)
    (try simp only [Act.put, List.setIfInBounds_toArray, List.set_cons_zero, List.set_cons_succ])
    refine ordM_take 2 ?vq3 rfl (by kernel_rfl) (by kernel_rfl) (by kernel_rfl) (by kernel_rfl) (fun _ _ _ h => h) (by rfl) ?hq3 (by assumption) ?rq3
    case hq3 => (intro W hSw; (try dsimp only at hSw); go_simp <;> with_reducible rfl)
    (try simp only [Act.put, List.setIfInBounds_toArray, List.set_cons_zero, List.set_cons_succ])
    refine ordM_take 3 ?vq4 rfl (by kernel_rfl) (by kernel_rfl) (by kernel_rfl) (by kernel_rfl) (fun _ _ _ h => h) (by rfl) ?hq4 (by assumption) ?rq4
    case hq4 => (intro W hSw; (try dsimp only at hSw); go_simp <;> with_reducible rfl)
    (try simp only [Act.put, List.setIfInBounds_toArray, List.set_cons_zero, List.set_cons_succ])
    refine ordM_take 4 ?vq5 rfl (by kernel_rfl) (by kernel_rfl) (by kernel_rfl) (by kernel_rfl) (fun _ _ _ h => h) (by rfl) ?hq5 (by assumption) ?rq5
    case hq5 => (intro W hSw; (try dsimp only at hSw); go_simp <;> with_reducible rfl)
    (try simp only [Act.put, List.setIfInBounds_toArray, List.set_cons_zero, List.set_cons_succ])
    refine ordM_take 5 ?vq6 rfl (by kernel_rfl) (by kernel_rfl) (by kernel_rfl) (by kernel_rfl) (fun _ _ _ h => h) (by rfl) ?hq6 (by assumption) ?rq6
    case hq6 => (intro W hSw; (try dsimp only at hSw); go_simp <;> with_reducible rfl)
    (try simp only [Act.put, List.setIfInBounds_toArray, List.set_cons_zero, List.set_cons_succ])
    refine ordM_take 6 ?vq7 rfl (by kernel_rfl) (by kernel_rfl) (by kernel_rfl) (by kernel_rfl) (fun _ _ _ h => h) (by rfl) ?hq7 (by assumption) ?rq7
    case hq7 => (intro W hSw; (try dsimp only at hSw); go_simp <;> with_reducible rfl)
    (try simp only [Act.put, List.setIfInBounds_toArray, List.set_cons_zero, List.set_cons_succ])
    refine ordM_take 7 ?vq8 rfl (by kernel_rfl) (by kernel_rfl) (by kernel_rfl) (by kernel_rfl) (fun _ _ _ h => h) (by rfl) ?hq8 (by assumption) ?rq8
    case hq8 => (intro W hSw; (try dsimp only at hSw); go_simp <;> with_reducible rfl)
    (try simp only [Act.put, List.setIfInBounds_toArray, List.set_cons_zero, List.set_cons_succ])
    refine ordM_take 8 ?vq9 rfl (by kernel_rfl) (by kernel_rfl) (by kernel_rfl) (by kernel_rfl) (fun _ _ _ h => h) (by rfl) ?hq9 (by assumption) ?rq9
    case hq9 => (intro W hSw; (try dsimp only at hSw); go_simp <;> with_reducible rfl)
    (try simp only [Act.put, List.setIfInBounds_toArray, List.set_cons_zero, List.set_cons_succ])
    refine ordM_take 9 ?vq10 rfl (by kernel_rfl) (by kernel_rfl) (by kernel_rfl) (by kernel_rfl) (fun _ _ _ h => h) (by rfl) ?hq10 (by assumption) ?rq10
    case hq10 => (intro W hSw; (try dsimp only at hSw); go_simp <;> with_reducible rfl)
    (try simp only [Act.put, List.setIfInBounds_toArray, List.set_cons_zero, List.set_cons_succ])
    refine ordM_take 10 ?vq11 rfl (by kernel_rfl) (by kernel_rfl) (by kernel_rfl) (by kernel_rfl) (fun _ _ _ h => h) (by rfl) ?hq11 (by assumption) ?rq11
    case hq11 => (intro W hSw; (try dsimp only at hSw); go_simp <;> with_reducible rfl)
    (try simp only [Act.put, List.setIfInBounds_toArray, List.set_cons_zero, List.set_cons_succ])
    refine ordM_take 11 ?vq12 rfl (by kernel_rfl) (by kernel_rfl) (by kernel_rfl) (by kernel_rfl) (fun _ _ _ h => h) (by rfl) ?hq12 (by assumption) ?rq12
    case hq12 => (intro W hSw; (try dsimp only at hSw); go_simp <;> with_reducible rfl)
    (try simp only [Act.put, List.setIfInBounds_toArray, List.set_cons_zero, List.set_cons_succ])
    refine ordM_take 12 ?vq13 rfl (by kernel_rfl) (by kernel_rfl) (by kernel_rfl) (by kernel_rfl) (fun _ _ _ h => h) (by rfl) ?hq13 (by assumption) ?rq13
    case hq13 => (intro W hSw; (try dsimp only at hSw); go_simp <;> with_reducible rfl)
    (try simp only [Act.put, List.setIfInBounds_toArray, List.set_cons_zero, List.set_cons_succ])
    refine ordM_take 13 ?vq14 rfl (by kernel_rfl) (by kernel_rfl) (by kernel_rfl) (by kernel_rfl) (fun _ _ _ h => h) (by rfl) ?hq14 (by assumption) ?rq14
    case hq14 => (intro W hSw; (try dsimp only at hSw); go_simp <;> with_reducible rfl)
    (try simp only [Act.put, List.setIfInBounds_toArray, List.set_cons_zero, List.set_cons_succ])
    refine ordM_ready [14] (by kernel_rfl) (by simp) ?_
    refine AllReadyM.cons rfl (fun K hK => ?_) AllReadyM.nil
    go_simp
    go_at_call 45
    refine (HDEL.out _ hownd).mono ?_
    rintro e w4 ⟨v4, rfl, hO4, hob4, henv4, hsz4, hbl4⟩
    (try go_wp2_with fail)
    have hb4 : ∀ k, v.ownBlock ≠ some k → w4.heap[k]? = w3.heap[k]? := hbl4
    have hs4 : w4.heap.size = w3.heap.size := hsz4
    have henv3 : SameE w3 w4 := (sameE_below (Below.refl 0 w3).drew).trans henv4
    have hm4 : MapN w4 b n x.f := HMAP.out.same (hb4 b (fun e => (hrg0 b e).2.2.1 rfl))
    have hS4 := hSG w4 (hb4 gn (fun e => (hrg0 gn e).2.1 rfl)) (hb4 g0 (fun e => (hrg0 g0 e).1 rfl)) (hb4 b (fun e => (hrg0 b e).2.2.1 rfl))
    refine hK.out _ _ (fun _ => hS4) ?_
    clear hK K
    (try simp only [Act.put, List.setIfInBounds_toArray, List.set_cons_zero, List.set_cons_succ])
    obtain ⟨w5, hr5, hm5, hg5⟩ := hm4.upd (by unfold maxLen; omega) hk (ownE_isSl hO4)
    obtain ⟨ad, cc, rfl⟩ := hO4.formG
    refine ordM_ready [15] (by kernel_rfl) (by simp) ?_
    refine AllReadyM.cons rfl (fun K hK => ?_) AllReadyM.nil
    go_simp
    refine hK.out _ _ (fun h => absurd h (by decide)) ?_
    clear hK K
    (try simp only [Act.put, List.setIfInBounds_toArray, List.set_cons_zero, List.set_cons_succ])
    refine ordM_done (by kernel_rfl) ?_ _
    refine NoPanic.normal ?_
    have hO5 : OwnE w5 base 9 1 (.slice ad (l.length - 1) cc) (l.length - 1) (neV (l.eraseIdx k)) := hO4.keep hg5.size (fun k cs h1 h2 => hg5.block k (lt_of_block h2) (fun e => by
      rw [hob4] at h1
      exact (hrg0 k h1).2.2.1 (by cases e; rfl)))
    have hb5 : ∀ k, k < w3.heap.size → k ≠ b → v.ownBlock ≠ some k → w5.heap[k]? = w3.heap[k]? := fun k h1 h2 h3 => by rw [hg5.block k (by omega) (fun e => h2 (by cases e; rfl)), hb4 k h3]
    have hs5 : w3.heap.size ≤ w5.heap.size := by have := hg5.size; omega
    have hSG5 : ∀ W : World, W.heap[gn]? = w5.heap[gn]? → W.heap[g0]? = w5.heap[g0]? → W.heap[b]? = w5.heap[b]? → W.cell? ⟨gn, 2, none⟩ = some (.map (some b)) ∧ W.cell? ⟨g0, 0, none⟩ = some (.int .i64 a) ∧ W.cell? ⟨g0, 1, none⟩ = some (.int .i64 p) ∧ (Instr.lookup 60 (.map (some b)) (.agg #[.int .i64 a, .int .i64 p]) false).run Try.prog W = .ok (.slice ad (l.length - 1) cc) W := fun W h1 h2 h3 => by
      have e1 := (h1.trans (hb5 gn hgw (fun e => hbg e.symm) (fun e => (hrg0 gn e).2.1 rfl)))
      have e2 := (h2.trans (hb5 g0 hg0w (fun e => hbg0 e.symm) (fun e => (hrg0 g0 e).1 rfl)))
      have e3 := HI.out.cells.2.2.1
      rw [hmp] at e3
      have e4 := (hm5.same h3).eq (putF_slF hnil (ownE_isSl hO4)) hk
      rw [putF_same] at e4
      exact ⟨by rw [cell_same e1]; exact e3, by rw [cell_same e2]; assumption, by rw [cell_same e2]; assumption, e4⟩
    have hel : (l.eraseIdx k).length = l.length - 1 := List.length_eraseIdx_of_lt hkl
    have hSd5 := hSG5 w5.drew rfl rfl rfl
    clear hS4 hSd HDEL hownd hown hO4 hr5 hm4 hbl4
    go_upto_region 5 with fail
    by_cases hl1 : l.length - 1 = 0
    · have hnil2 : l.eraseIdx k = [] := List.eq_nil_of_length_eq_zero (by omega)
      have hd0 : decide (((l.length - 1 : Nat) : Int) = 0) = true := decide_eq_true (by omega)
      refine wp_region_noPanic ?_
      refine ordM_begin (fun W : World => W.cell? ⟨gn, 2, none⟩ = some (.map (some b)) ∧ W.cell? ⟨g0, 0, none⟩ = some (.int .i64 a) ∧ W.cell? ⟨g0, 1, none⟩ = some (.int .i64 p) ∧ (Instr.lookup 60 (.map (some b)) (.agg #[.int .i64 a, .int .i64 p]) false).run Try.prog W = .ok (.slice ad (l.length - 1) cc) W) (fun i => false) (by kernel_rfl) hSd5 ?_
      refine ordM_take 0 ?vq15 rfl (by kernel_rfl) (by kernel_rfl) (by kernel_rfl) (by kernel_rfl) (fun _ _ _ h => h) (by rfl) ?hq15 (by assumption) ?rq15
      case hq15 => (intro W hSw; (try dsimp only at hSw); go_simp <;> with_reducible rfl)
      (try simp only [Act.put, List.setIfInBounds_toArray, List.set_cons_zero, List.set_cons_succ])
      refine ordM_take 1 ?vq16 rfl (by kernel_rfl) (by kernel_rfl) (by kernel_rfl) (by kernel_rfl) (fun _ _ _ h => h) (by rfl) ?hq16 (by assumption) ?rq16
      case hq16 => (intro W hSw; (try dsimp only at hSw); go_simp <;> with_reducible rfl)
      (try simp only [Act.put, List.setIfInBounds_toArray, List.set_cons_zero, List.set_cons_succ])
      refine ordM_take 2 ?vq17 rfl (by kernel_rfl) (by kernel_rfl) (by kernel_rfl) (by kernel_rfl) (fun _ _ _ h => h) (by rfl) ?hq17 (by assumption) ?rq17
      case hq17 => (intro W hSw; (try dsimp only at hSw); go_simp <;> with_reducible rfl)
      (try simp only [Act.put, List.setIfInBounds_toArray, List.set_cons_zero, List.set_cons_succ])
      refine ordM_take 3 ?vq18 rfl (by kernel_rfl) (by kernel_rfl) (by kernel_rfl) (by kernel_rfl) (fun _ _ _ h => h) (by rfl) ?hq18 (by assumption) ?rq18
      case hq18 => (intro W hSw; (try dsimp only at hSw); go_simp <;> with_reducible rfl)
      (try simp only [Act.put, List.setIfInBounds_toArray, List.set_cons_zero, List.set_cons_succ])
      refine ordM_take 4 ?vq19 rfl (by kernel_rfl) (by kernel_rfl) (by kernel_rfl) (by kernel_rfl) (fun _ _ _ h => h) (by rfl) ?hq19 (by assumption) ?rq19
      case hq19 => (intro W hSw; (try dsimp only at hSw); go_simp <;> with_reducible rfl)
      (try simp only [Act.put, List.setIfInBounds_toArray, List.set_cons_zero, List.set_cons_succ])
      refine ordM_take 5 ?vq20 rfl (by kernel_rfl) (by kernel_rfl) (by kernel_rfl) (by kernel_rfl) (fun _ _ _ h => h) (by rfl) ?hq20 (by assumption) ?rq20
      case hq20 => (intro W hSw; (try dsimp only at hSw); go_simp <;> with_reducible rfl)
      (try simp only [Act.put, List.setIfInBounds_toArray, List.set_cons_zero, List.set_cons_succ])
      refine ordM_take 6 ?vq21 rfl (by kernel_rfl) (by kernel_rfl) (by kernel_rfl) (by kernel_rfl) (fun _ _ _ h => h) (by rfl) ?hq21 (by assumption) ?rq21
      case hq21 => (intro W hSw; (try dsimp only at hSw); go_simp <;> with_reducible rfl)
      (try simp only [Act.put, List.setIfInBounds_toArray, List.set_cons_zero, List.set_cons_succ])
      refine ordM_take 7 ?vq22 rfl (by kernel_rfl) (by kernel_rfl) (by kernel_rfl) (by kernel_rfl) (fun _ _ _ h => h) (by rfl) ?hq22 (by assumption) ?rq22
      case hq22 => (intro W hSw; (try dsimp only at hSw); go_simp <;> with_reducible rfl)
      (try simp only [Act.put, List.setIfInBounds_toArray, List.set_cons_zero, List.set_cons_succ])
      refine ordM_done (by kernel_rfl) ?_ _
      refine NoPanic.normal ?_
      go_upto_region 6 with fail
      have hSd6 := hSG5 w5.drew.drew rfl rfl rfl
      obtain ⟨w6, hr6, hm6, hg6⟩ := (hm5.same (W' := w5.drew.drew) rfl).del hk 0
      have hSe6 := And.intro hSd6.1 (And.intro hSd6.2.1 hSd6.2.2.1)
      refine wp_region_noPanic ?_
      refine ordM_begin (fun W : World => W.cell? ⟨gn, 2, none⟩ = some (.map (some b)) ∧ W.cell? ⟨g0, 0, none⟩ = some (.int .i64 a) ∧ W.cell? ⟨g0, 1, none⟩ = some (.int .i64 p)) (fun i => false) (by kernel_rfl) hSe6 ?_
      refine ordM_take 0 ?vq23 rfl (by kernel_rfl) (by kernel_rfl) (by kernel_rfl) (by kernel_rfl) (fun _ _ _ h => h) (by rfl) ?hq23 (by assumption) ?rq23
      case hq23 => (intro W hSw; (try dsimp only at hSw); go_simp <;> with_reducible rfl)
      (try simp only [Act.put, List.setIfInBounds_toArray, List.set_cons_zero, List.set_cons_succ])
      refine ordM_take 1 ?vq24 rfl (by kernel_rfl) (by kernel_rfl) (by kernel_rfl) (by kernel_rfl) (fun _ _ _ h => h) (by rfl) ?hq24 (by assumption) ?rq24
      case hq24 => (intro W hSw; (try dsimp only at hSw); go_simp <;> with_reducible rfl)
      (try simp only [Act.put, List.setIfInBounds_toArray, List.set_cons_zero, List.set_cons_succ])
      refine ordM_take 2 ?vq25 rfl (by kernel_rfl) (by kernel_rfl) (by kernel_rfl) (by kernel_rfl) (fun _ _ _ h => h) (by rfl) ?hq25 (by assumption) ?rq25
      case hq25 => (intro W hSw; (try dsimp only at hSw); go_simp <;> with_reducible rfl)
      (try simp only [Act.put, List.setIfInBounds_toArray, List.set_cons_zero, List.set_cons_succ])
      refine ordM_take 3 ?vq26 rfl (by kernel_rfl) (by kernel_rfl) (by kernel_rfl) (by kernel_rfl) (fun _ _ _ h => h) (by rfl) ?hq26 (by assumption) ?rq26
      case hq26 => (intro W hSw; (try dsimp only at hSw); go_simp <;> with_reducible rfl)
      (try simp only [Act.put, List.setIfInBounds_toArray, List.set_cons_zero, List.set_cons_succ])
      refine ordM_take 4 ?vq27 rfl (by kernel_rfl) (by kernel_rfl) (by kernel_rfl) (by kernel_rfl) (fun _ _ _ h => h) (by rfl) ?hq27 (by assumption) ?rq27
      case hq27 => (intro W hSw; (try dsimp only at hSw); go_simp <;> with_reducible rfl)
      (try simp only [Act.put, List.setIfInBounds_toArray, List.set_cons_zero, List.set_cons_succ])
      refine ordM_ready [5] (by kernel_rfl) (by simp) ?_
      refine AllReadyM.cons rfl (fun K hK => ?_) AllReadyM.nil
      go_simp
      have hSf6 : w6.cell? ⟨gn, 2, none⟩ = some (.map (some b)) ∧ w6.cell? ⟨g0, 0, none⟩ = some (.int .i64 a) ∧ w6.cell? ⟨g0, 1, none⟩ = some (.int .i64 p) := ⟨by rw [cell_same (hg6.block gn (Nat.lt_of_lt_of_le hgw hs5) (fun e => hbg (by cases e; rfl)))]; exact hSe6.1, by rw [cell_same (hg6.block g0 (Nat.lt_of_lt_of_le hg0w hs5) (fun e => hbg0 (by cases e; rfl)))]; exact hSe6.2.1, by rw [cell_same (hg6.block g0 (Nat.lt_of_lt_of_le hg0w hs5) (fun e => hbg0 (by cases e; rfl)))]; exact hSe6.2.2⟩
      refine hK.out _ _ (fun _ => hSf6) ?_
      clear hK K
      (try simp only [Act.put, List.setIfInBounds_toArray, List.set_cons_zero, List.set_cons_succ])
      refine ordM_done (by kernel_rfl) ?_ _
      refine NoPanic.normal ?_
      have hbl6 : ∀ k, k < w3.heap.size → k ≠ b → v.ownBlock ≠ some k → w6.heap[k]? = w3.heap[k]? := fun k h1 h2 h3 => by
        rw [hg6.block k (Nat.lt_of_lt_of_le h1 hs5) (fun e => h2 (by cases e; rfl))]
        exact hb5 k h1 h2 h3
      have hdn := HI.out.done (a := a) (p := p) (v' := .slice none 0 0) (l' := l.eraseIdx k) hmp (Nat.le_trans hs5 hg6.size) (by rw [hV]; exact hbl6) (hm6.ext (fun a' p' _ => by rw [NE.set_f, if_pos hnil2]; unfold putF; split <;> rfl)) (by rw [hnil2]; exact ownE_nil _ _ _ _) (.inr (.inl rfl)) (fun _ => rfl) (fun h => absurd hnil2 h) (fun t ht => by rw [hnil2] at ht; cases ht) (by omega) (((henv3.trans (sameE_grown hg5)).trans (sameE_below (Below.refl 0 w5).drew.drew)).trans (sameE_grown hg6))
      obtain ⟨hI6, hK6⟩ := hdn
      have hcq : (x.set a p (.slice none 0 0) (l.eraseIdx k)).c 2 = x.c 2 := rfl
      obtain ⟨_, _, _, c3, c4, c5, c6, c7, c8⟩ := hI6.cells
      have hfz : w6.frozen? ⟨gn, 5, none⟩ = false := AtQ.free hI6.at9 5
      have hwc : IntKind.i64.wrap (x.c 2 + 1) = x.c 2 + 1 := IntWalk.i64_in _ ⟨by have := hc 2; omega, by have := hc 2; omega⟩
      have hM := hI6.more 2 (by omega)
      rw [hcq] at c5 hM
      go_wp2_with fail
      go_ret2
      exact ⟨some s, _, rfl, by have h0 := NeEnd.some (x := x) (a := a) (p := p) (q := 2) k s rfl (by rw [hG]; exact hs) (.slice none 0 0); rw [hG] at h0; exact h0, by first | exact hM.1 | exact hM.1.mono (by omega), (HK.out.trans hK6).trans hM.2⟩
    · have hd0 : decide (((l.length - 1 : Nat) : Int) = 0) = false := decide_eq_false (by omega)
      refine wp_region_noPanic ?_
      refine ordM_begin (fun W : World => W.cell? ⟨gn, 2, none⟩ = some (.map (some b)) ∧ W.cell? ⟨g0, 0, none⟩ = some (.int .i64 a) ∧ W.cell? ⟨g0, 1, none⟩ = some (.int .i64 p) ∧ (Instr.lookup 60 (.map (some b)) (.agg #[.int .i64 a, .int .i64 p]) false).run Try.prog W = .ok (.slice ad (l.length - 1) cc) W) (fun i => false) (by kernel_rfl) hSd5 ?_
      refine ordM_take 0 ?vq28 rfl (by kernel_rfl) (by kernel_rfl) (by kernel_rfl) (by kernel_rfl) (fun _ _ _ h => h) (by rfl) ?hq28 (by assumption) ?rq28
      case hq28 => (intro W hSw; (try dsimp only at hSw); go_simp <;> with_reducible rfl)
      (try simp only [Act.put, List.setIfInBounds_toArray, List.set_cons_zero, List.set_cons_succ])
      refine ordM_take 1 ?vq29 rfl (by kernel_rfl) (by kernel_rfl) (by kernel_rfl) (by kernel_rfl) (fun _ _ _ h => h) (by rfl) ?hq29 (by assumption) ?rq29
      case hq29 => (intro W hSw; (try dsimp only at hSw); go_simp <;> with_reducible rfl)
      (try simp only [Act.put, List.setIfInBounds_toArray, List.set_cons_zero, List.set_cons_succ])
      refine ordM_take 2 ?vq30 rfl (by kernel_rfl) (by kernel_rfl) (by kernel_rfl) (by kernel_rfl) (fun _ _ _ h => h) (by rfl) ?hq30 (by assumption) ?rq30
      case hq30 => (intro W hSw; (try dsimp only at hSw); go_simp <;> with_reducible rfl)
      (try simp only [Act.put, List.setIfInBounds_toArray, List.set_cons_zero, List.set_cons_succ])
      refine ordM_take 3 ?vq31 rfl (by kernel_rfl) (by kernel_rfl) (by kernel_rfl) (by kernel_rfl) (fun _ _ _ h => h) (by rfl) ?hq31 (by assumption) ?rq31
      case hq31 => (intro W hSw; (try dsimp only at hSw); go_simp <;> with_reducible rfl)
      (try simp only [Act.put, List.setIfInBounds_toArray, List.set_cons_zero, List.set_cons_succ])
      refine ordM_take 4 ?vq32 rfl (by kernel_rfl) (by kernel_rfl) (by kernel_rfl) (by kernel_rfl) (fun _ _ _ h => h) (by rfl) ?hq32 (by assumption) ?rq32
      case hq32 => (intro W hSw; (try dsimp only at hSw); go_simp <;> with_reducible rfl)
      (try simp only [Act.put, List.setIfInBounds_toArray, List.set_cons_zero, List.set_cons_succ])
      refine ordM_take 5 ?vq33 rfl (by kernel_rfl) (by kernel_rfl) (by kernel_rfl) (by kernel_rfl) (fun _ _ _ h => h) (by rfl) ?hq33 (by assumption) ?rq33
      case hq33 => (intro W hSw; (try dsimp only at hSw); go_simp <;> with_reducible rfl)
      (try simp only [Act.put, List.setIfInBounds_toArray, List.set_cons_zero, List.set_cons_succ])
      refine ordM_take 6 ?vq34 rfl (by kernel_rfl) (by kernel_rfl) (by kernel_rfl) (by kernel_rfl) (fun _ _ _ h => h) (by rfl) ?hq34 (by assumption) ?rq34
      case hq34 => (intro W hSw; (try dsimp only at hSw); go_simp <;> with_reducible rfl)
      (try simp only [Act.put, List.setIfInBounds_toArray, List.set_cons_zero, List.set_cons_succ])
      refine ordM_take 7 ?vq35 rfl (by kernel_rfl) (by kernel_rfl) (by kernel_rfl) (by kernel_rfl) (fun _ _ _ h => h) (by rfl) ?hq35 (by assumption) ?rq35
      case hq35 => (intro W hSw; (try dsimp only at hSw); go_simp <;> with_reducible rfl)
      (try simp only [Act.put, List.setIfInBounds_toArray, List.set_cons_zero, List.set_cons_succ])
      refine ordM_done (by kernel_rfl) ?_ _
      refine NoPanic.normal ?_
      have hO6 : OwnE w5.drew base 9 1 (.slice ad (l.length - 1) cc) (l.length - 1) (neV (l.eraseIdx k)) := hO5
      have hne : l.eraseIdx k ≠ [] := fun e => by rw [e] at hel; simp at hel; omega
      have hdn := HI.out.done (w6 := w5.drew) (a := a) (p := p) (v' := .slice ad (l.length - 1) cc) (l' := l.eraseIdx k) hmp hs5 (by rw [hV]; exact hb5) ((hm5.same (W' := w5.drew) rfl).ext (fun a' p' _ => by rw [NE.set_f, if_neg hne])) (by rw [hel]; exact hO6) (.inl (by rw [hV]; exact hob4)) (fun h => absurd h hne) (fun _ => HI.out.pl a p (by rw [hG]; intro e; rw [e] at hkl; cases hkl)) (fun t ht => HI.out.tx a p t (by rw [hG]; exact mem_eraseIdx' ht)) (by omega) ((henv3.trans (sameE_grown hg5)).trans (sameE_below (Below.refl 0 w5).drew))
      obtain ⟨hI6, hK6⟩ := hdn
      have hcq : (x.set a p (.slice ad (l.length - 1) cc) (l.eraseIdx k)).c 2 = x.c 2 := rfl
      obtain ⟨_, _, _, c3, c4, c5, c6, c7, c8⟩ := hI6.cells
      have hfz : w5.drew.frozen? ⟨gn, 5, none⟩ = false := AtQ.free hI6.at9 5
      have hwc : IntKind.i64.wrap (x.c 2 + 1) = x.c 2 + 1 := IntWalk.i64_in _ ⟨by have := hc 2; omega, by have := hc 2; omega⟩
      have hM := hI6.more 2 (by omega)
      rw [hcq] at c5 hM
      go_wp2_with fail
      go_ret2
      exact ⟨some s, _, rfl, by have h0 := NeEnd.some (x := x) (a := a) (p := p) (q := 2) k s rfl (by rw [hG]; exact hs) (.slice ad (l.length - 1) cc); rw [hG] at h0; exact h0, by first | exact hM.1 | exact hM.1.mono (by omega), (HK.out.trans hK6).trans hM.2⟩
set_option maxRecDepth 100000 in
set_option maxHeartbeats 6400000 in
theorem neEndLose {w : World} {base gn n : Nat} {x : NE} (h : NIn w base gn n x) {a p : Int} (hk : wf2 a p) (i : Int) (hn : n < 4611686018427387904) (hc : ∀ i, 0 ≤ x.c i ∧ x.c i ≤ 1099511627776) :
    Calls Try.prog 35 #[.pointer (some ⟨gn, 0, none⟩), .agg #[.int .i64 a, .int .i64 p], .int .i64 i, .pointer (some ⟨gn, 4, none⟩)] w fun e w' => ∃ (r : Option ByteArray) (x' : NE), e = .returned (.tuple #[.string (r.getD (⟨#[]⟩ : ByteArray)), .bool r.isSome]) ∧ NeEnd x a p i 1 r x' ∧ NIn w' base gn (n + 1) x' ∧ NKeep gn x w w' x' := by
  have hX := atQ_new 73 w w.heap.size #[.int .i64 a, .int .i64 p] rfl
  have hb : Below w.heap.size w (w.alloc (.cells #[.int .i64 a, .int .i64 p] 73)) := (Below.refl _ _).alloc (Nat.le_refl _) _
  have h2 := h.later hb
  have hK2 : NKeep gn x w (w.alloc (.cells #[.int .i64 a, .int .i64 p] 73)) x := nKeep_below hb
  go_enter Try.func35, Try.ntmps35
  go_upto_region 1 with fail
  generalize (w.alloc (.cells #[.int .i64 a, .int .i64 p] 73)) = w2 at hX hb h2 hK2 ⊢
  generalize hg0 : w.heap.size = g0 at hX hb ⊢
  clear hg0 h hb
  obtain ⟨_, _⟩ := hX.cells2
  have HGT := Lib.hid (neGet_any h2 hk i)
  go_wp2_with fail
  refine HGT.out.mono ?_
  rintro e w3 ⟨rfl, hk3⟩
  have hJ := h2.later hk3
  have hX3 := hX.later hk3
  have hKJ := hK2.trans (nKeep_below hk3)
  obtain ⟨_, _⟩ := hX3.cells2
  clear h2 hX hK2 hk3 HGT
  cases hi : neAt (x.G a p) i with
  | none =>
    simp only [Option.getD, Option.isSome]
    go_wp2_with fail
    go_ret2
    exact ⟨none, x, rfl, .none hi, hJ.mono (by omega), hKJ⟩
  | some s =>
    obtain ⟨k, rfl, hkl, hs⟩ := neAt_some hi
    simp only [Option.getD, Option.isSome]
    have hln := hJ.ln a p
    have hGne : x.G a p ≠ [] := fun e => by rw [e] at hkl; cases hkl
    obtain ⟨b, hmp, hbb, hmap⟩ : ∃ b, x.mp = some b ∧ base ≤ b ∧ MapN w3 b n x.f := by
      rcases hJ.mem with ⟨_, e⟩ | h
      · exact absurd (e a p) hGne
      · exact h
    have hgw : gn < w3.heap.size := hJ.at9.lt
    have hg0w : g0 < w3.heap.size := hX3.lt
    have hbw : b < w3.heap.size := hmap.lt
    have hbg : b ≠ gn := hJ.map_ne hmp
    have hbg0 : b ≠ g0 := by
      obtain ⟨es, cl, hh⟩ := hmap.isMap
      exact fun e => blkQ_map hX3 hh e.symm
    have hrg0 : ∀ k, (x.V a p).ownBlock = some k → k ≠ g0 ∧ k ≠ gn ∧ k ≠ b ∧ k < w3.heap.size := fun k hk2 => by
      obtain ⟨cs, hcs⟩ := (hJ.own a p).2 k hk2
      exact ⟨blkQ_ne hcs hX3 (by decide), fun e => hJ.row_ne a p (by rw [hk2, e]), fun e => hJ.row_map a p hmp (by rw [hk2, e]), lt_of_block hcs⟩
    have hlkG : ∀ W : World, W.heap[b]? = w3.heap[b]? → (Instr.lookup 60 (.map (some b)) (.agg #[.int .i64 a, .int .i64 p]) false).run Try.prog W = .ok (x.V a p) W := fun W hW => by
      have := (hmap.same hW).eq hJ.slF hk
      rw [hJ.fV] at this
      exact this
    have hSG : ∀ W : World, W.heap[gn]? = w3.heap[gn]? → W.heap[g0]? = w3.heap[g0]? → W.heap[b]? = w3.heap[b]? → W.cell? ⟨gn, 2, none⟩ = some (.map (some b)) ∧ W.cell? ⟨g0, 0, none⟩ = some (.int .i64 a) ∧ W.cell? ⟨g0, 1, none⟩ = some (.int .i64 p) ∧ (Instr.lookup 60 (.map (some b)) (.agg #[.int .i64 a, .int .i64 p]) false).run Try.prog W = .ok (x.V a p) W := fun W h1 h2 h3 => by
      have e1 := hJ.cells.2.2.1
      rw [hmp] at e1
      exact ⟨by rw [cell_same h1]; exact e1, by rw [cell_same h2]; exact hX3.cells2.1, by rw [cell_same h2]; exact hX3.cells2.2, hlkG W h3⟩
    have hown := hJ.own a p
    have HI := Lib.hid hJ
    have HK := Lib.hid hKJ
    have HMAP := Lib.hid hmap
    have HDEL := Lib.hid (fun W (hW : OwnE W base 9 1 (x.V a p) (x.G a p).length (neV (x.G a p))) => neDelete_one hW (by omega) k hkl)
    have hwr : IntKind.i64.wrap ((k : Int) + 1) = (k : Int) + 1 := IntWalk.i64_in _ ⟨by omega, by omega⟩
    have hnil := hJ.slF
    clear hJ hKJ hmap hlkG
    generalize hV : x.V a p = v at *
    generalize hG : x.G a p = l at *
    go_upto_region 4 with fail
    have hSd := hSG w3.drew rfl rfl rfl
    have hownd := hown.drew
    refine wp_region_noPanic ?_
    refine ordM_begin (fun W : World => W.cell? ⟨gn, 2, none⟩ = some (.map (some b)) ∧ W.cell? ⟨g0, 0, none⟩ = some (.int .i64 a) ∧ W.cell? ⟨g0, 1, none⟩ = some (.int .i64 p) ∧ (Instr.lookup 60 (.map (some b)) (.agg #[.int .i64 a, .int .i64 p]) false).run Try.prog W = .ok (v) W) (fun i => i == 15) (by kernel_rfl) hSd ?_
    refine ordM_take 0 ?vq36 rfl (by kernel_rfl) (by kernel_rfl) (by kernel_rfl) (by kernel_rfl) (fun _ _ _ h => h) (by rfl) ?hq36 (by assumption) ?rq36
    case hq36 => (intro W hSw; (try dsimp only at hSw); go_simp <;> with_reducible rfl)
    (try simp only [Act.put, List.setIfInBounds_toArray, List.set_cons_zero, List.set_cons_succ])
    refine ordM_take 1 ?vq37 rfl (by kernel_rfl) (by kernel_rfl) (by kernel_rfl) (by kernel_rfl) (fun _ _ _ h => h) (by rfl) ?hq37 (by assumption) ?rq37
    case hq37 => (intro W hSw; (try dsimp only at hSw); go_simp <;> with_reducible rfl)
    (try simp only [Act.put, List.setIfInBounds_toArray, List.set_cons_zero, List.set_cons_succ])
    refine ordM_take 2 ?vq38 rfl (by kernel_rfl) (by kernel_rfl) (by kernel_rfl) (by kernel_rfl) (fun _ _ _ h => h) (by rfl) ?hq38 (by assumption) ?rq38
    case hq38 => (intro W hSw; (try dsimp only at hSw); go_simp <;> with_reducible rfl)
    (try simp only [Act.put, List.setIfInBounds_toArray, List.set_cons_zero, List.set_cons_succ])
    refine ordM_take 3 ?vq39 rfl (by kernel_rfl) (by kernel_rfl) (by kernel_rfl) (by kernel_rfl) (fun _ _ _ h => h) (by rfl) ?hq39 (by assumption) ?rq39
    case hq39 => (intro W hSw; (try dsimp only at hSw); go_simp <;> with_reducible rfl)
    (try simp only [Act.put, List.setIfInBounds_toArray, List.set_cons_zero, List.set_cons_succ])
    refine ordM_take 4 ?vq40 rfl (by kernel_rfl) (by kernel_rfl) (by kernel_rfl) (by kernel_rfl) (fun _ _ _ h => h) (by rfl) ?hq40 (by assumption) ?rq40
    case hq40 => (intro W hSw; (try dsimp only at hSw); go_simp <;> with_reducible rfl)
    (try simp only [Act.put, List.setIfInBounds_toArray, List.set_cons_zero, List.set_cons_succ])
    refine ordM_take 5 ?vq41 rfl (by kernel_rfl) (by kernel_rfl) (by kernel_rfl) (by kernel_rfl) (fun _ _ _ h => h) (by rfl) ?hq41 (by assumption) ?rq41
    case hq41 => (intro W hSw; (try dsimp only at hSw); go_simp <;> with_reducible rfl)
    (try simp only [Act.put, List.setIfInBounds_toArray, List.set_cons_zero, List.set_cons_succ])
    refine ordM_take 6 ?vq42 rfl (by kernel_rfl) (by kernel_rfl) (by kernel_rfl) (by kernel_rfl) (fun _ _ _ h => h) (by rfl) ?hq42 (by assumption) ?rq42
    case hq42 => (intro W hSw; (try dsimp only at hSw); go_simp <;> with_reducible rfl)
    (try simp only [Act.put, List.setIfInBounds_toArray, List.set_cons_zero, List.set_cons_succ])
    refine ordM_take 7 ?vq43 rfl (by kernel_rfl) (by kernel_rfl) (by kernel_rfl) (by kernel_rfl) (fun _ _ _ h => h) (by rfl) ?hq43 (by assumption) ?rq43
    case hq43 => (intro W hSw; (try dsimp only at hSw); go_simp <;> with_reducible rfl)
    (try simp only [Act.put, List.setIfInBounds_toArray, List.set_cons_zero, List.set_cons_succ])
    refine ordM_take 8 ?vq44 rfl (by kernel_rfl) (by kernel_rfl) (by kernel_rfl) (by kernel_rfl) (fun _ _ _ h => h) (by rfl) ?hq44 (by assumption) ?rq44
    case hq44 => (intro W hSw; (try dsimp only at hSw); go_simp <;> with_reducible rfl)
    (try simp only [Act.put, List.setIfInBounds_toArray, List.set_cons_zero, List.set_cons_succ])
    refine ordM_take 9 ?vq45 rfl (by kernel_rfl) (by kernel_rfl) (by kernel_rfl) (by kernel_rfl) (fun _ _ _ h => h) (by rfl) ?hq45 (by assumption) ?rq45
    case hq45 => (intro W hSw; (try dsimp only at hSw); go_simp <;> with_reducible rfl)
    (try simp only [Act.put, List.setIfInBounds_toArray, List.set_cons_zero, List.set_cons_succ])
    refine ordM_take 10 ?vq46 rfl (by kernel_rfl) (by kernel_rfl) (by kernel_rfl) (by kernel_rfl) (fun _ _ _ h => h) (by rfl) ?hq46 (by assumption) ?rq46
    case hq46 => (intro W hSw; (try dsimp only at hSw); go_simp <;> with_reducible rfl)
    (try simp only [Act.put, List.setIfInBounds_toArray, List.set_cons_zero, List.set_cons_succ])
    refine ordM_take 11 ?vq47 rfl (by kernel_rfl) (by kernel_rfl) (by kernel_rfl) (by kernel_rfl) (fun _ _ _ h => h) (by rfl) ?hq47 (by assumption) ?rq47
    case hq47 => (intro W hSw; (try dsimp only at hSw); go_simp <;> with_reducible rfl)
    (try simp only [Act.put, List.setIfInBounds_toArray, List.set_cons_zero, List.set_cons_succ])
    refine ordM_take 12 ?vq48 rfl (by kernel_rfl) (by kernel_rfl) (by kernel_rfl) (by kernel_rfl) (fun _ _ _ h => h) (by rfl) ?hq48 (by assumption) ?rq48
    case hq48 => (intro W hSw; (try dsimp only at hSw); go_simp <;> with_reducible rfl)
    (try simp only [Act.put, List.setIfInBounds_toArray, List.set_cons_zero, List.set_cons_succ])
    refine ordM_take 13 ?vq49 rfl (by kernel_rfl) (by kernel_rfl) (by kernel_rfl) (by kernel_rfl) (fun _ _ _ h => h) (by rfl) ?hq49 (by assumption) ?rq49
    case hq49 => (intro W hSw; (try dsimp only at hSw); go_simp <;> with_reducible rfl)
    (try simp only [Act.put, List.setIfInBounds_toArray, List.set_cons_zero, List.set_cons_succ])
    refine ordM_ready [14] (by kernel_rfl) (by simp) ?_
    refine AllReadyM.cons rfl (fun K hK => ?_) AllReadyM.nil
    go_simp
    go_at_call 45
    refine (HDEL.out _ hownd).mono ?_
    rintro e w4 ⟨v4, rfl, hO4, hob4, henv4, hsz4, hbl4⟩
    (try go_wp2_with fail)
    have hb4 : ∀ k, v.ownBlock ≠ some k → w4.heap[k]? = w3.heap[k]? := hbl4
    have hs4 : w4.heap.size = w3.heap.size := hsz4
    have henv3 : SameE w3 w4 := (sameE_below (Below.refl 0 w3).drew).trans henv4
    have hm4 : MapN w4 b n x.f := HMAP.out.same (hb4 b (fun e => (hrg0 b e).2.2.1 rfl))
    have hS4 := hSG w4 (hb4 gn (fun e => (hrg0 gn e).2.1 rfl)) (hb4 g0 (fun e => (hrg0 g0 e).1 rfl)) (hb4 b (fun e => (hrg0 b e).2.2.1 rfl))
    refine hK.out _ _ (fun _ => hS4) ?_
    clear hK K
    (try simp only [Act.put, List.setIfInBounds_toArray, List.set_cons_zero, List.set_cons_succ])
    obtain ⟨w5, hr5, hm5, hg5⟩ := hm4.upd (by unfold maxLen; omega) hk (ownE_isSl hO4)
    obtain ⟨ad, cc, rfl⟩ := hO4.formG
    refine ordM_ready [15] (by kernel_rfl) (by simp) ?_
    refine AllReadyM.cons rfl (fun K hK => ?_) AllReadyM.nil
    go_simp
    refine hK.out _ _ (fun h => absurd h (by decide)) ?_
    clear hK K
    (try simp only [Act.put, List.setIfInBounds_toArray, List.set_cons_zero, List.set_cons_succ])
    refine ordM_done (by kernel_rfl) ?_ _
    refine NoPanic.normal ?_
    have hO5 : OwnE w5 base 9 1 (.slice ad (l.length - 1) cc) (l.length - 1) (neV (l.eraseIdx k)) := hO4.keep hg5.size (fun k cs h1 h2 => hg5.block k (lt_of_block h2) (fun e => by
      rw [hob4] at h1
      exact (hrg0 k h1).2.2.1 (by cases e; rfl)))
    have hb5 : ∀ k, k < w3.heap.size → k ≠ b → v.ownBlock ≠ some k → w5.heap[k]? = w3.heap[k]? := fun k h1 h2 h3 => by rw [hg5.block k (by omega) (fun e => h2 (by cases e; rfl)), hb4 k h3]
    have hs5 : w3.heap.size ≤ w5.heap.size := by have := hg5.size; omega
    have hSG5 : ∀ W : World, W.heap[gn]? = w5.heap[gn]? → W.heap[g0]? = w5.heap[g0]? → W.heap[b]? = w5.heap[b]? → W.cell? ⟨gn, 2, none⟩ = some (.map (some b)) ∧ W.cell? ⟨g0, 0, none⟩ = some (.int .i64 a) ∧ W.cell? ⟨g0, 1, none⟩ = some (.int .i64 p) ∧ (Instr.lookup 60 (.map (some b)) (.agg #[.int .i64 a, .int .i64 p]) false).run Try.prog W = .ok (.slice ad (l.length - 1) cc) W := fun W h1 h2 h3 => by
      have e1 := (h1.trans (hb5 gn hgw (fun e => hbg e.symm) (fun e => (hrg0 gn e).2.1 rfl)))
      have e2 := (h2.trans (hb5 g0 hg0w (fun e => hbg0 e.symm) (fun e => (hrg0 g0 e).1 rfl)))
      have e3 := HI.out.cells.2.2.1
      rw [hmp] at e3
      have e4 := (hm5.same h3).eq (putF_slF hnil (ownE_isSl hO4)) hk
      rw [putF_same] at e4
      exact ⟨by rw [cell_same e1]; exact e3, by rw [cell_same e2]; assumption, by rw [cell_same e2]; assumption, e4⟩
    have hel : (l.eraseIdx k).length = l.length - 1 := List.length_eraseIdx_of_lt hkl
    have hSd5 := hSG5 w5.drew rfl rfl rfl
    clear hS4 hSd HDEL hownd hown hO4 hr5 hm4 hbl4
    go_upto_region 5 with fail
    by_cases hl1 : l.length - 1 = 0
    · have hnil2 : l.eraseIdx k = [] := List.eq_nil_of_length_eq_zero (by omega)
      have hd0 : decide (((l.length - 1 : Nat) : Int) = 0) = true := decide_eq_true (by omega)
      refine wp_region_noPanic ?_
      refine ordM_begin (fun W : World => W.cell? ⟨gn, 2, none⟩ = some (.map (some b)) ∧ W.cell? ⟨g0, 0, none⟩ = some (.int .i64 a) ∧ W.cell? ⟨g0, 1, none⟩ = some (.int .i64 p) ∧ (Instr.lookup 60 (.map (some b)) (.agg #[.int .i64 a, .int .i64 p]) false).run Try.prog W = .ok (.slice ad (l.length - 1) cc) W) (fun i => false) (by kernel_rfl) hSd5 ?_
      refine ordM_take 0 ?vq50 rfl (by kernel_rfl) (by kernel_rfl) (by kernel_rfl) (by kernel_rfl) (fun _ _ _ h => h) (by rfl) ?hq50 (by assumption) ?rq50
      case hq50 => (intro W hSw; (try dsimp only at hSw); go_simp <;> with_reducible rfl)
      (try simp only [Act.put, List.setIfInBounds_toArray, List.set_cons_zero, List.set_cons_succ])
      refine ordM_take 1 ?vq51 rfl (by kernel_rfl) (by kernel_rfl) (by kernel_rfl) (by kernel_rfl) (fun _ _ _ h => h) (by rfl) ?hq51 (by assumption) ?rq51
      case hq51 => (intro W hSw; (try dsimp only at hSw); go_simp <;> with_reducible rfl)
      (try simp only [Act.put, List.setIfInBounds_toArray, List.set_cons_zero, List.set_cons_succ])
      refine ordM_take 2 ?vq52 rfl (by kernel_rfl) (by kernel_rfl) (by kernel_rfl) (by kernel_rfl) (fun _ _ _ h => h) (by rfl) ?hq52 (by assumption) ?rq52
      case hq52 => (intro W hSw; (try dsimp only at hSw); go_simp <;> with_reducible rfl)
      (try simp only [Act.put, List.setIfInBounds_toArray, List.set_cons_zero, List.set_cons_succ])
      refine ordM_take 3 ?vq53 rfl (by kernel_rfl) (by kernel_rfl) (by kernel_rfl) (by kernel_rfl) (fun _ _ _ h => h) (by rfl) ?hq53 (by assumption) ?rq53
      case hq53 => (intro W hSw; (try dsimp only at hSw); go_simp <;> with_reducible rfl)
      (try simp only [Act.put, List.setIfInBounds_toArray, List.set_cons_zero, List.set_cons_succ])
      refine ordM_take 4 ?vq54 rfl (by kernel_rfl) (by kernel_rfl) (by kernel_rfl) (by kernel_rfl) (fun _ _ _ h => h) (by rfl) ?hq54 (by assumption) ?rq54
      case hq54 => (intro W hSw; (try dsimp only at hSw); go_simp <;> with_reducible rfl)
      (try simp only [Act.put, List.setIfInBounds_toArray, List.set_cons_zero, List.set_cons_succ])
      refine ordM_take 5 ?vq55 rfl (by kernel_rfl) (by kernel_rfl) (by kernel_rfl) (by kernel_rfl) (fun _ _ _ h => h) (by rfl) ?hq55 (by assumption) ?rq55
      case hq55 => (intro W hSw; (try dsimp only at hSw); go_simp <;> with_reducible rfl)
      (try simp only [Act.put, List.setIfInBounds_toArray, List.set_cons_zero, List.set_cons_succ])
      refine ordM_take 6 ?vq56 rfl (by kernel_rfl) (by kernel_rfl) (by kernel_rfl) (by kernel_rfl) (fun _ _ _ h => h) (by rfl) ?hq56 (by assumption) ?rq56
      case hq56 => (intro W hSw; (try dsimp only at hSw); go_simp <;> with_reducible rfl)
      (try simp only [Act.put, List.setIfInBounds_toArray, List.set_cons_zero, List.set_cons_succ])
      refine ordM_take 7 ?vq57 rfl (by kernel_rfl) (by kernel_rfl) (by kernel_rfl) (by kernel_rfl) (fun _ _ _ h => h) (by rfl) ?hq57 (by assumption) ?rq57
      case hq57 => (intro W hSw; (try dsimp only at hSw); go_simp <;> with_reducible rfl)
      (try simp only [Act.put, List.setIfInBounds_toArray, List.set_cons_zero, List.set_cons_succ])
      refine ordM_done (by kernel_rfl) ?_ _
      refine NoPanic.normal ?_
      go_upto_region 6 with fail
      have hSd6 := hSG5 w5.drew.drew rfl rfl rfl
      obtain ⟨w6, hr6, hm6, hg6⟩ := (hm5.same (W' := w5.drew.drew) rfl).del hk 0
      have hSe6 := And.intro hSd6.1 (And.intro hSd6.2.1 hSd6.2.2.1)
      refine wp_region_noPanic ?_
      refine ordM_begin (fun W : World => W.cell? ⟨gn, 2, none⟩ = some (.map (some b)) ∧ W.cell? ⟨g0, 0, none⟩ = some (.int .i64 a) ∧ W.cell? ⟨g0, 1, none⟩ = some (.int .i64 p)) (fun i => false) (by kernel_rfl) hSe6 ?_
      refine ordM_take 0 ?vq58 rfl (by kernel_rfl) (by kernel_rfl) (by kernel_rfl) (by kernel_rfl) (fun _ _ _ h => h) (by rfl) ?hq58 (by assumption) ?rq58
      case hq58 => (intro W hSw; (try dsimp only at hSw); go_simp <;> with_reducible rfl)
      (try simp only [Act.put, List.setIfInBounds_toArray, List.set_cons_zero, List.set_cons_succ])
      refine ordM_take 1 ?vq59 rfl (by kernel_rfl) (by kernel_rfl) (by kernel_rfl) (by kernel_rfl) (fun _ _ _ h => h) (by rfl) ?hq59 (by assumption) ?rq59
      case hq59 => (intro W hSw; (try dsimp only at hSw); go_simp <;> with_reducible rfl)
      (try simp only [Act.put, List.setIfInBounds_toArray, List.set_cons_zero, List.set_cons_succ])
      refine ordM_take 2 ?vq60 rfl (by kernel_rfl) (by kernel_rfl) (by kernel_rfl) (by kernel_rfl) (fun _ _ _ h => h) (by rfl) ?hq60 (by assumption) ?rq60
      case hq60 => (intro W hSw; (try dsimp only at hSw); go_simp <;> with_reducible rfl)
      (try simp only [Act.put, List.setIfInBounds_toArray, List.set_cons_zero, List.set_cons_succ])
      refine ordM_take 3 ?vq61 rfl (by kernel_rfl) (by kernel_rfl) (by kernel_rfl) (by kernel_rfl) (fun _ _ _ h => h) (by rfl) ?hq61 (by assumption) ?rq61
      case hq61 => (intro W hSw; (try dsimp only at hSw); go_simp <;> with_reducible rfl)
      (try simp only [Act.put, List.setIfInBounds_toArray, List.set_cons_zero, List.set_cons_succ])
      refine ordM_take 4 ?vq62 rfl (by kernel_rfl) (by kernel_rfl) (by kernel_rfl) (by kernel_rfl) (fun _ _ _ h => h) (by rfl) ?hq62 (by assumption) ?rq62
      case hq62 => (intro W hSw; (try dsimp only at hSw); go_simp <;> with_reducible rfl)
      (try simp only [Act.put, List.setIfInBounds_toArray, List.set_cons_zero, List.set_cons_succ])
      refine ordM_ready [5] (by kernel_rfl) (by simp) ?_
      refine AllReadyM.cons rfl (fun K hK => ?_) AllReadyM.nil
      go_simp
      have hSf6 : w6.cell? ⟨gn, 2, none⟩ = some (.map (some b)) ∧ w6.cell? ⟨g0, 0, none⟩ = some (.int .i64 a) ∧ w6.cell? ⟨g0, 1, none⟩ = some (.int .i64 p) := ⟨by rw [cell_same (hg6.block gn (Nat.lt_of_lt_of_le hgw hs5) (fun e => hbg (by cases e; rfl)))]; exact hSe6.1, by rw [cell_same (hg6.block g0 (Nat.lt_of_lt_of_le hg0w hs5) (fun e => hbg0 (by cases e; rfl)))]; exact hSe6.2.1, by rw [cell_same (hg6.block g0 (Nat.lt_of_lt_of_le hg0w hs5) (fun e => hbg0 (by cases e; rfl)))]; exact hSe6.2.2⟩
      refine hK.out _ _ (fun _ => hSf6) ?_
      clear hK K
      (try simp only [Act.put, List.setIfInBounds_toArray, List.set_cons_zero, List.set_cons_succ])
      refine ordM_done (by kernel_rfl) ?_ _
      refine NoPanic.normal ?_
      have hbl6 : ∀ k, k < w3.heap.size → k ≠ b → v.ownBlock ≠ some k → w6.heap[k]? = w3.heap[k]? := fun k h1 h2 h3 => by
        rw [hg6.block k (Nat.lt_of_lt_of_le h1 hs5) (fun e => h2 (by cases e; rfl))]
        exact hb5 k h1 h2 h3
      have hdn := HI.out.done (a := a) (p := p) (v' := .slice none 0 0) (l' := l.eraseIdx k) hmp (Nat.le_trans hs5 hg6.size) (by rw [hV]; exact hbl6) (hm6.ext (fun a' p' _ => by rw [NE.set_f, if_pos hnil2]; unfold putF; split <;> rfl)) (by rw [hnil2]; exact ownE_nil _ _ _ _) (.inr (.inl rfl)) (fun _ => rfl) (fun h => absurd hnil2 h) (fun t ht => by rw [hnil2] at ht; cases ht) (by omega) (((henv3.trans (sameE_grown hg5)).trans (sameE_below (Below.refl 0 w5).drew.drew)).trans (sameE_grown hg6))
      obtain ⟨hI6, hK6⟩ := hdn
      have hcq : (x.set a p (.slice none 0 0) (l.eraseIdx k)).c 1 = x.c 1 := rfl
      obtain ⟨_, _, _, c3, c4, c5, c6, c7, c8⟩ := hI6.cells
      have hfz : w6.frozen? ⟨gn, 4, none⟩ = false := AtQ.free hI6.at9 4
      have hwc : IntKind.i64.wrap (x.c 1 + 1) = x.c 1 + 1 := IntWalk.i64_in _ ⟨by have := hc 1; omega, by have := hc 1; omega⟩
      have hM := hI6.more 1 (by omega)
      rw [hcq] at c4 hM
      go_wp2_with fail
      go_ret2
      exact ⟨some s, _, rfl, by have h0 := NeEnd.some (x := x) (a := a) (p := p) (q := 1) k s rfl (by rw [hG]; exact hs) (.slice none 0 0); rw [hG] at h0; exact h0, by first | exact hM.1 | exact hM.1.mono (by omega), (HK.out.trans hK6).trans hM.2⟩
    · have hd0 : decide (((l.length - 1 : Nat) : Int) = 0) = false := decide_eq_false (by omega)
      refine wp_region_noPanic ?_
      refine ordM_begin (fun W : World => W.cell? ⟨gn, 2, none⟩ = some (.map (some b)) ∧ W.cell? ⟨g0, 0, none⟩ = some (.int .i64 a) ∧ W.cell? ⟨g0, 1, none⟩ = some (.int .i64 p) ∧ (Instr.lookup 60 (.map (some b)) (.agg #[.int .i64 a, .int .i64 p]) false).run Try.prog W = .ok (.slice ad (l.length - 1) cc) W) (fun i => false) (by kernel_rfl) hSd5 ?_
      refine ordM_take 0 ?vq63 rfl (by kernel_rfl) (by kernel_rfl) (by kernel_rfl) (by kernel_rfl) (fun _ _ _ h => h) (by rfl) ?hq63 (by assumption) ?rq63
      case hq63 => (intro W hSw; (try dsimp only at hSw); go_simp <;> with_reducible rfl)
      (try simp only [Act.put, List.setIfInBounds_toArray, List.set_cons_zero, List.set_cons_succ])
      refine ordM_take 1 ?vq64 rfl (by kernel_rfl) (by kernel_rfl) (by kernel_rfl) (by kernel_rfl) (fun _ _ _ h => h) (by rfl) ?hq64 (by assumption) ?rq64
      case hq64 => (intro W hSw; (try dsimp only at hSw); go_simp <;> with_reducible rfl)
      (try simp only [Act.put, List.setIfInBounds_toArray, List.set_cons_zero, List.set_cons_succ])
      refine ordM_take 2 ?vq65 rfl (by kernel_rfl) (by kernel_rfl) (by kernel_rfl) (by kernel_rfl) (fun _ _ _ h => h) (by rfl) ?hq65 (by assumption) ?rq65
      case hq65 => (intro W hSw; (try dsimp only at hSw); go_simp <;> with_reducible rfl)
      (try simp only [Act.put, List.setIfInBounds_toArray, List.set_cons_zero, List.set_cons_succ])
      refine ordM_take 3 ?vq66 rfl (by kernel_rfl) (by kernel_rfl) (by kernel_rfl) (by kernel_rfl) (fun _ _ _ h => h) (by rfl) ?hq66 (by assumption) ?rq66
      case hq66 => (intro W hSw; (try dsimp only at hSw); go_simp <;> with_reducible rfl)
      (try simp only [Act.put, List.setIfInBounds_toArray, List.set_cons_zero, List.set_cons_succ])
      refine ordM_take 4 ?vq67 rfl (by kernel_rfl) (by kernel_rfl) (by kernel_rfl) (by kernel_rfl) (fun _ _ _ h => h) (by rfl) ?hq67 (by assumption) ?rq67
      case hq67 => (intro W hSw; (try dsimp only at hSw); go_simp <;> with_reducible rfl)
      (try simp only [Act.put, List.setIfInBounds_toArray, List.set_cons_zero, List.set_cons_succ])
      refine ordM_take 5 ?vq68 rfl (by kernel_rfl) (by kernel_rfl) (by kernel_rfl) (by kernel_rfl) (fun _ _ _ h => h) (by rfl) ?hq68 (by assumption) ?rq68
      case hq68 => (intro W hSw; (try dsimp only at hSw); go_simp <;> with_reducible rfl)
      (try simp only [Act.put, List.setIfInBounds_toArray, List.set_cons_zero, List.set_cons_succ])
      refine ordM_take 6 ?vq69 rfl (by kernel_rfl) (by kernel_rfl) (by kernel_rfl) (by kernel_rfl) (fun _ _ _ h => h) (by rfl) ?hq69 (by assumption) ?rq69
      case hq69 => (intro W hSw; (try dsimp only at hSw); go_simp <;> with_reducible rfl)
      (try simp only [Act.put, List.setIfInBounds_toArray, List.set_cons_zero, List.set_cons_succ])
      refine ordM_take 7 ?vq70 rfl (by kernel_rfl) (by kernel_rfl) (by kernel_rfl) (by kernel_rfl) (fun _ _ _ h => h) (by rfl) ?hq70 (by assumption) ?rq70
      case hq70 => (intro W hSw; (try dsimp only at hSw); go_simp <;> with_reducible rfl)
      (try simp only [Act.put, List.setIfInBounds_toArray, List.set_cons_zero, List.set_cons_succ])
      refine ordM_done (by kernel_rfl) ?_ _
      refine NoPanic.normal ?_
      have hO6 : OwnE w5.drew base 9 1 (.slice ad (l.length - 1) cc) (l.length - 1) (neV (l.eraseIdx k)) := hO5
      have hne : l.eraseIdx k ≠ [] := fun e => by rw [e] at hel; simp at hel; omega
      have hdn := HI.out.done (w6 := w5.drew) (a := a) (p := p) (v' := .slice ad (l.length - 1) cc) (l' := l.eraseIdx k) hmp hs5 (by rw [hV]; exact hb5) ((hm5.same (W' := w5.drew) rfl).ext (fun a' p' _ => by rw [NE.set_f, if_neg hne])) (by rw [hel]; exact hO6) (.inl (by rw [hV]; exact hob4)) (fun h => absurd h hne) (fun _ => HI.out.pl a p (by rw [hG]; intro e; rw [e] at hkl; cases hkl)) (fun t ht => HI.out.tx a p t (by rw [hG]; exact mem_eraseIdx' ht)) (by omega) ((henv3.trans (sameE_grown hg5)).trans (sameE_below (Below.refl 0 w5).drew))
      obtain ⟨hI6, hK6⟩ := hdn
      have hcq : (x.set a p (.slice ad (l.length - 1) cc) (l.eraseIdx k)).c 1 = x.c 1 := rfl
      obtain ⟨_, _, _, c3, c4, c5, c6, c7, c8⟩ := hI6.cells
      have hfz : w5.drew.frozen? ⟨gn, 4, none⟩ = false := AtQ.free hI6.at9 4
      have hwc : IntKind.i64.wrap (x.c 1 + 1) = x.c 1 + 1 := IntWalk.i64_in _ ⟨by have := hc 1; omega, by have := hc 1; omega⟩
      have hM := hI6.more 1 (by omega)
      rw [hcq] at c4 hM
      go_wp2_with fail
      go_ret2
      exact ⟨some s, _, rfl, by have h0 := NeEnd.some (x := x) (a := a) (p := p) (q := 1) k s rfl (by rw [hG]; exact hs) (.slice ad (l.length - 1) cc); rw [hG] at h0; exact h0, by first | exact hM.1 | exact hM.1.mono (by omega), (HK.out.trans hK6).trans hM.2⟩
theorem neTake_any {w : World} {base gn n : Nat} {x : NE} (h : NIn w base gn n x) {a p : Int} (hk : wf2 a p) (i : Int) (hn : n < 4611686018427387904) (hc : ∀ i, 0 ≤ x.c i ∧ x.c i ≤ 1099511627776) :
    Calls Try.prog 15 #[.pointer (some ⟨gn, 0, none⟩), .int .i64 a, .int .i64 p, .int .i64 i] w fun e w' => ∃ (r : Option ByteArray) (x' : NE), e = .returned (.tuple #[.string (r.getD (⟨#[]⟩ : ByteArray)), .bool r.isSome]) ∧ NeEnd x a p i 2 r x' ∧ NIn w' base gn (n + 1) x' ∧ NKeep gn x w w' x' := by
  have HB := Lib.hid (neEndTake h hk i hn hc)
  clear h
  go_enter Try.func15, Try.ntmps15
  go_wp2_with fail
  refine HB.out.mono ?_
  rintro e w' ⟨r, x', rfl, h1, h2, h3⟩
  go_wp2_with fail
  go_ret2
  exact ⟨r, x', rfl, h1, h2, h3⟩
theorem neLose_any {w : World} {base gn n : Nat} {x : NE} (h : NIn w base gn n x) {a p : Int} (hk : wf2 a p) (i : Int) (hn : n < 4611686018427387904) (hc : ∀ i, 0 ≤ x.c i ∧ x.c i ≤ 1099511627776) :
    Calls Try.prog 16 #[.pointer (some ⟨gn, 0, none⟩), .int .i64 a, .int .i64 p, .int .i64 i] w fun e w' => ∃ (r : Option ByteArray) (x' : NE), e = .returned (.bool r.isSome) ∧ NeEnd x a p i 1 r x' ∧ NIn w' base gn (n + 1) x' ∧ NKeep gn x w w' x' := by
  have HB := Lib.hid (neEndLose h hk i hn hc)
  clear h
  go_enter Try.func16, Try.ntmps16
  go_wp2_with fail
  refine HB.out.mono ?_
  rintro e w' ⟨r, x', rfl, h1, h2, h3⟩
  go_wp2_with fail
  go_ret
  exact ⟨r, x', rfl, h1, h2, h3⟩
end Go.Proofs.Ytbmbomojnljccaa
