/- net: Turn. -/
import Derived.Test.YtbmbomojnljccaaNeP1
import Derived.Test.YtbmbomojnljccaaCrcT
namespace Go.Proofs.Ytbmbomojnljccaa
open Go.RowKit Go.Maps
set_option linter.unusedVariables false
set_option linter.unusedSimpArgs false
/-- Turned bits. -/
def turnB (s : ByteArray) (at_ : Int) (m : Nat) : ByteArray := ofL (turnL (by_ s) at_ m)
theorem turnB_size (s : ByteArray) (at_ : Int) (m : Nat) : (turnB s at_ m).size = s.size := by
  unfold turnB
  have h := turnL_len (by_ s) at_ m
  rw [ofL_size, h, by_len]
/-- How Turn ends. -/
inductive NeTurn (x : NE) (a p i at_ : Int) (m : Nat) : Bool → NE → Prop
  | none (h : neAt (x.G a p) i = none) : NeTurn x a p i at_ m false x
  | some (k : Nat) (s : ByteArray) (hk : i = k) (hs : (x.G a p)[k]? = some s) : NeTurn x a p i at_ m true ((x.set a p (x.V a p) ((x.G a p).set k (turnB s at_ m))).more 4)
set_option maxRecDepth 100000 in
set_option maxHeartbeats 3200000 in
theorem neTurn_any {w : World} {base gn n : Nat} {x : NE} (h : NIn w base gn n x) {a p : Int} (hk : wf2 a p) (i at_ : Int) (m : Nat) (hmk : m < 4294967296) (hc : ∀ i, 0 ≤ x.c i ∧ x.c i ≤ 1099511627776) :
    Calls Try.prog 27 #[.pointer (some ⟨gn, 0, none⟩), .int .i64 a, .int .i64 p, .int .i64 i, .int .i64 at_, .int .u32 (m : Int)] w fun e w' => ∃ (r : Bool) (x' : NE), e = .returned (.bool r) ∧ NeTurn x a p i at_ m r x' ∧ NIn w' base gn n x' ∧ NKeep gn x w w' x' := by
  have hX := atQ_new 73 w w.heap.size #[.int .i64 a, .int .i64 p] rfl
  have hb : Below w.heap.size w (w.alloc (.cells #[.int .i64 a, .int .i64 p] 73)) := (Below.refl _ _).alloc (Nat.le_refl _) _
  have h2 := h.later hb
  have hK2 : NKeep gn x w (w.alloc (.cells #[.int .i64 a, .int .i64 p] 73)) x := nKeep_below hb
  go_enter Try.func27, Try.ntmps27
  go_upto_region 2 with fail
  generalize (w.alloc (.cells #[.int .i64 a, .int .i64 p] 73)) = w2 at hX hb h2 hK2 ⊢
  generalize hg0 : w.heap.size = g0 at hX hb ⊢
  clear hg0 h hb
  obtain ⟨_, _⟩ := hX.cells2
  have HGT := Lib.hid (neGet_any h2 hk i)
  go_wp2_with fail
  refine HGT.out.mono ?_
  rintro e w3 ⟨rfl, hk3⟩
  have hJ := h2.later hk3
  have hX3 := hX.later hk3
  have hKJ := hK2.trans (nKeep_below hk3)
  obtain ⟨_, _⟩ := hX3.cells2
  clear h2 hX hK2 hk3 HGT
  cases hi : neAt (x.G a p) i with
  | none =>
    simp only [Option.getD, Option.isSome]
    go_wp2_with fail
    go_ret
    exact ⟨false, x, rfl, .none hi, hJ, hKJ⟩
  | some s =>
    obtain ⟨k, rfl, hkl, hs⟩ := neAt_some hi
    simp only [Option.getD, Option.isSome]
    have hs15 := hJ.tx a p s (List.mem_of_getElem? hs)
    have hGne : x.G a p ≠ [] := fun e => by rw [e] at hkl; cases hkl
    have hpl := hJ.pl a p hGne
    obtain ⟨b, hmp, hbb, hmap⟩ : ∃ b, x.mp = some b ∧ base ≤ b ∧ MapN w3 b n x.f := by
      rcases hJ.mem with ⟨_, e⟩ | h
      · exact absurd (e a p) hGne
      · exact h
    obtain ⟨gr, off, cap, hv, hlc, hcm, hcell, hfz⟩ := hJ.rowAt a p hs
    have hSG : ∀ W : World, Below w3.heap.size w3 W → W.cell? ⟨gn, 2, none⟩ = some (.map (some b)) ∧ W.cell? ⟨g0, 0, none⟩ = some (.int .i64 a) ∧ W.cell? ⟨g0, 1, none⟩ = some (.int .i64 p) ∧ (Instr.lookup 60 (.map (some b)) (.agg #[.int .i64 a, .int .i64 p]) false).run Try.prog W = .ok (.slice (some ⟨gr, off, none⟩) (x.G a p).length cap) W ∧ W.cell? ⟨gr, off + k, none⟩ = some (.string s) ∧ W.frozen? ⟨gr, off + k, none⟩ = false := fun W hW => by
      have hJW := hJ.later hW
      have e1 := hJW.cells.2.2.1
      have e2 := (hX3.later hW).cells2
      have e3 := hJW.look hk
      rw [hmp] at e1 e3
      rw [hv] at e3
      obtain ⟨_, _, _, hv2, _, _, hc2, hf2⟩ := hJW.rowAt a p hs
      rw [hv] at hv2
      cases hv2
      exact ⟨e1, e2.1, e2.2, e3, hc2, hf2⟩
    have HTU := Lib.hid (fun W => turn_any s at_ m W (by omega) hmk)
    have HI := Lib.hid hJ
    have HK := Lib.hid hKJ
    generalize hG : x.G a p = l at *
    go_upto_region 5 with fail
    have hSd := hSG w3.drew (Below.refl _ _).drew
    have hJd := hJ.drew
    have k0 : (0 : Int) ≤ (k : Int) := by omega
    have k1 : (k : Int) < (l.length : Int) := by omega
    refine wp_region_noPanic ?_
    refine ordM_begin (fun W : World => W.cell? ⟨gn, 2, none⟩ = some (.map (some b)) ∧ W.cell? ⟨g0, 0, none⟩ = some (.int .i64 a) ∧ W.cell? ⟨g0, 1, none⟩ = some (.int .i64 p) ∧ (Instr.lookup 60 (.map (some b)) (.agg #[.int .i64 a, .int .i64 p]) false).run Try.prog W = .ok (.slice (some ⟨gr, off, none⟩) l.length cap) W ∧ W.cell? ⟨gr, off + k, none⟩ = some (.string s) ∧ W.frozen? ⟨gr, off + k, none⟩ = false) (fun i => i == 12) (by kernel_rfl) hSd ?_
    refine ordM_take 0 ?vq1 rfl (by kernel_rfl) (by kernel_rfl) (by kernel_rfl) (by kernel_rfl) (fun _ _ _ h => h) (by rfl) ?hq1 (by assumption) ?rq1
    case hq1 => (intro W hSw; (try dsimp only at hSw); go_simp <;> with_reducible rfl)
    (try simp only [Act.put, List.setIfInBounds_toArray, List.set_cons_zero, List.set_cons_succ])
    refine ordM_take 1 ?vq2 rfl (by kernel_rfl) (by kernel_rfl) (by kernel_rfl) (by kernel_rfl) (fun _ _ _ h => h) (by rfl) ?hq2 (by assumption) ?rq2
    case hq2 => (intro W hSw; (try dsimp only at hSw); go_simp <;> with_reducible rfl)
    (try simp only [Act.put, List.setIfInBounds_toArray, List.set_cons_zero, List.set_cons_succ])
    refine ordM_take 2 ?vq3 rfl (by kernel_rfl) (by kernel_rfl) (by kernel_rfl) (by kernel_rfl) (fun _ _ _ h => h) (by rfl) ?hq3 (by assumption) ?rq3
    case hq3 => (intro W hSw; (try dsimp only at hSw); go_simp <;> with_reducible rfl)
    (try simp only [Act.put, List.setIfInBounds_toArray, List.set_cons_zero, List.set_cons_succ])
    refine ordM_take 3 ?vq4 rfl (by kernel_rfl) (by kernel_rfl) (by kernel_rfl) (by kernel_rfl) (fun _ _ _ h => h) (by rfl) ?hq4 (by assumption) ?rq4
    case hq4 => (intro W hSw; (try dsimp only at hSw); go_simp <;> with_reducible rfl)
    (try simp only [Act.put, List.setIfInBounds_toArray, List.set_cons_zero, List.set_cons_succ])
    refine ordM_take 4 ?vq5 rfl (by kernel_rfl) (by kernel_rfl) (by kernel_rfl) (by kernel_rfl) (fun _ _ _ h => h) (by rfl) ?hq5 (by assumption) ?rq5
    case hq5 => (intro W hSw; (try dsimp only at hSw); go_simp <;> with_reducible rfl)
    (try simp only [Act.put, List.setIfInBounds_toArray, List.set_cons_zero, List.set_cons_succ])
    refine ordM_take 5 ?vq6 rfl (by kernel_rfl) (by kernel_rfl) (by kernel_rfl) (by kernel_rfl) (fun _ _ _ h => h) (by rfl) ?hq6 (by assumption) ?rq6
    case hq6 => (intro W hSw; (try dsimp only at hSw); go_simp <;> with_reducible rfl)
    (try simp only [Act.put, List.setIfInBounds_toArray, List.set_cons_zero, List.set_cons_succ])
    refine ordM_take 6 ?vq7 rfl (by kernel_rfl) (by kernel_rfl) (by kernel_rfl) (by kernel_rfl) (fun _ _ _ h => h) (by rfl) ?hq7 (by assumption) ?rq7
    case hq7 => (intro W hSw; (try dsimp only at hSw); go_simp <;> with_reducible rfl)
    (try simp only [Act.put, List.setIfInBounds_toArray, List.set_cons_zero, List.set_cons_succ])
    refine ordM_take 7 ?vq8 rfl (by kernel_rfl) (by kernel_rfl) (by kernel_rfl) (by kernel_rfl) (fun _ _ _ h => h) (by rfl) ?hq8 (by assumption) ?rq8
    case hq8 => (intro W hSw; (try dsimp only at hSw); go_simp <;> with_reducible rfl)
    (try simp only [Act.put, List.setIfInBounds_toArray, List.set_cons_zero, List.set_cons_succ])
    refine ordM_take 8 ?vq9 rfl (by kernel_rfl) (by kernel_rfl) (by kernel_rfl) (by kernel_rfl) (fun _ _ _ h => h) (by rfl) ?hq9 (by assumption) ?rq9
    case hq9 => (intro W hSw; (try dsimp only at hSw); go_simp <;> with_reducible rfl)
    (try simp only [Act.put, List.setIfInBounds_toArray, List.set_cons_zero, List.set_cons_succ])
    refine ordM_take 9 ?vq10 rfl (by kernel_rfl) (by kernel_rfl) (by kernel_rfl) (by kernel_rfl) (fun _ _ _ h => h) (by rfl) ?hq10 (by assumption) ?rq10
    case hq10 => (intro W hSw; (try dsimp only at hSw); go_simp <;> with_reducible rfl)
    (try simp only [Act.put, List.setIfInBounds_toArray, List.set_cons_zero, List.set_cons_succ])
    refine ordM_ready [10] (by kernel_rfl) (by simp) ?_
    refine AllReadyM.cons rfl (fun K hK => ?_) AllReadyM.nil
    go_simp
    go_at_call 43
    refine (HTU.out _).mono ?_
    rintro e w5 ⟨rfl, hk5⟩
    (try go_wp2_with fail)
    have hb5 : Below w3.heap.size w3 w5 := (Below.refl _ _).drew.trans hk5
    have hS5 := hSG w5 hb5
    refine hK.out _ _ (fun _ => hS5) ?_
    clear hK K
    (try simp only [Act.put, List.setIfInBounds_toArray, List.set_cons_zero, List.set_cons_succ])
    refine ordM_take 11 ?vq11 rfl (by kernel_rfl) (by kernel_rfl) (by kernel_rfl) (by kernel_rfl) (fun _ _ _ h => h) (by rfl) ?hq11 (by assumption) ?rq11
    case hq11 => (intro W hSw; (try dsimp only at hSw); go_simp <;> with_reducible rfl)
    (try simp only [Act.put, List.setIfInBounds_toArray, List.set_cons_zero, List.set_cons_succ])
    obtain ⟨_, _, _, _, hc5, hf5⟩ := hS5
    rw [show ofL (turnL (by_ s) at_ m) = turnB s at_ m from rfl]
    refine ordM_ready [12] (by kernel_rfl) (by simp) ?_
    refine AllReadyM.cons rfl (fun K hK => ?_) AllReadyM.nil
    go_simp
    refine hK.out _ _ (fun h => absurd h (by decide)) ?_
    clear hK K
    (try simp only [Act.put, List.setIfInBounds_toArray, List.set_cons_zero, List.set_cons_succ])
    refine ordM_done (by kernel_rfl) ?_ _
    refine NoPanic.normal ?_
    have hO5 : OwnE w5 base 9 1 (.slice (some ⟨gr, off, none⟩) l.length cap) l.length (neV l) := by
      have := (HI.out.later hb5).own a p
      rw [hv, hG] at this
      exact this
    have hset := hO5.setAt k (.string (turnB s at_ m)) (by rw [neV_len]; exact hkl)
    have ev : (neV l).set k (.string (turnB s at_ m)) = neV (l.set k (turnB s at_ m)) := by unfold neV; rw [List.map_set]
    rw [ev] at hset
    have ho6 := (Only.refl gr w5).setCell (off + k) (.string (turnB s at_ m))
    have hgr : (x.V a p).ownBlock = some gr := by rw [hv]; rfl
    have hll : (l.set k (turnB s at_ m)).length = l.length := List.length_set
    have hne : l.set k (turnB s at_ m) ≠ [] := fun e => by rw [e] at hll; simp at hll; omega
    have hbg : b ≠ gr := fun e => HI.out.row_map a p hmp (by rw [hgr, e])
    have hbw : b < w3.heap.size := hmap.lt
    have hdn := HI.out.done (w6 := w5.setCell ⟨gr, off + k, none⟩ (.string (turnB s at_ m))) (n' := n) (a := a) (p := p) (v' := x.V a p) (l' := l.set k (turnB s at_ m)) hmp (by rw [ho6.size]; exact hb5.size) (fun q h1 h2 h3 => by rw [ho6.block q (fun e => h3 (by rw [hgr, e])), hb5.block q h1])
      ((hmap.same (by rw [ho6.block b hbg, hb5.block b hbw])).ext (fun a' p' _ => by
        rw [NE.set_f, if_neg hne]
        unfold putF
        split
        · rename_i e
          obtain ⟨rfl, rfl⟩ := e
          unfold NE.f
          rw [if_neg (by rw [hG]; exact hGne)]
        · rfl)) (by rw [hv, hll]; exact hset) (.inl rfl) (fun h => absurd h hne) (fun _ => hpl) (fun t ht => by
        rcases List.mem_or_eq_of_mem_set ht with h | h
        · exact HI.out.tx a p t (by rw [hG]; exact h)
        · rw [h, turnB_size]; exact hs15) (by rw [hll]; have := HI.out.ln a p; rw [hG] at this; exact this) ((sameE_below hb5).trans (sameE_only ho6))
    obtain ⟨hI6, hK6⟩ := hdn
    generalize (w5.setCell ⟨gr, off + k, none⟩ (.string (turnB s at_ m))) = w6 at hI6 hK6 ⊢
    obtain ⟨_, _, _, c3, c4, c5, c6, c7, c8⟩ := hI6.cells
    have hfz6 : w6.frozen? ⟨gn, 7, none⟩ = false := AtQ.free hI6.at9 7
    have hcq : (x.set a p (x.V a p) (l.set k (turnB s at_ m))).c 4 = x.c 4 := rfl
    have hwr : IntKind.i64.wrap (x.c 4 + 1) = x.c 4 + 1 := IntWalk.i64_in _ ⟨by have := hc 4; omega, by have := hc 4; omega⟩
    have hM := hI6.more 4 (by omega)
    rw [hcq] at c7 hM
    clear hset ev ho6 hO5 HTU hJ hJd hSd hSG hmap
    go_wp2_with fail
    go_ret
    exact ⟨true, _, rfl, by have h0 := NeTurn.some (x := x) (a := a) (p := p) (at_ := at_) (m := m) k s rfl (by rw [hG]; exact hs); rw [hG] at h0; exact h0, hM.1, (HK.out.trans hK6).trans hM.2⟩
end Go.Proofs.Ytbmbomojnljccaa
