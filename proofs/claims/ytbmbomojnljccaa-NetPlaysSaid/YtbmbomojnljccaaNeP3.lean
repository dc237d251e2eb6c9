/- net: Clone. -/
import Derived.Test.YtbmbomojnljccaaNeP2
import Derived.Maps.RangeWalk
import Derived.Laws.IdiomRangeMap
namespace Go.Proofs.Ytbmbomojnljccaa
open Go.RowKit Go.Maps
set_option linter.unusedVariables false
set_option linter.unusedSimpArgs false
theorem neKeyInt {m : Nat} {c : Value} {l : List Lit} (h : Try.prog.keyLits (m + 1) 3 [c] = some l) : ∃ a, c = .int .i64 a ∧ (Lit.int .i64 a).wf = true ∧ l = [.int .i64 a] := by
  unfold Program.keyLits at h
  rw [Try.underlying3] at h
  cases c <;> simp at h
  obtain ⟨⟨rfl, hw⟩, rfl⟩ := h
  exact ⟨_, rfl, hw, rfl⟩
theorem ne_key_inv {v : Value} {kl : Lit} (h : keyOf Try.prog 73 v = some kl) : ∃ a p, wf2 a p ∧ v = .agg #[.int .i64 a, .int .i64 p] ∧ kl = neKl a p := by
  obtain ⟨h1, h2, h3⟩ := neTy
  obtain ⟨m, hm⟩ : ∃ m, Try.prog.types.size = m + 1 := ⟨Try.prog.types.size - 1, by have : 0 < Try.prog.types.size := of_decide_eq_true (by kernel_rfl); omega⟩
  obtain ⟨⟨xs⟩, L, rfl, hL, rfl⟩ := keyOf_top neWide h
  rw [hm] at hL
  obtain ⟨d, hd⟩ : ∃ d, m + 1 = d := ⟨_, rfl⟩
  rw [hd] at hL
  unfold Program.keyLits at hL
  rw [Try.underlying73] at hL
  simp only at hL
  split at hL
  · rename_i hc
    have hlen : xs.length = 2 := by rw [← h1]; exact hc.1
    match xs, hlen with
    | [c0, c1], _ =>
      simp [h2, Option.bind_eq_some_iff] at hL
      obtain ⟨l0, e0, _, ⟨l1, e1, rfl⟩, rfl⟩ := hL
      rw [← hd] at e0 e1
      obtain ⟨a, rfl, ha, rfl⟩ := neKeyInt e0
      obtain ⟨p, rfl, hp, rfl⟩ := neKeyInt e1
      exact ⟨a, p, ⟨ha, hp⟩, rfl, rfl⟩
  · cases hL
theorem neKl_same {a p a' p' : Int} (h : wf2 a p) (h' : wf2 a' p') : (neKl a' p').sameKey (neKl a p) = decide (a' = a ∧ p' = p) := by
  by_cases e : a' = a ∧ p' = p
  · obtain ⟨rfl, rfl⟩ := e
    simp [neKl, Lit.sameKey]
  · rw [sameKey_ne (fun h2 => e (neKl_inj h'.1 h'.2 h.1 h.2 h2))]
    simp [e]
/-- A Net that has of another one what is not left. -/
def neGc (G : Int → Int → List ByteArray) (left : Lit → Bool) (a p : Int) : List ByteArray := if left (neKl a p) = true then [] else G a p
theorem NIn.ranged {W : World} {b r n cnt : Nat} {D : DataW Unit} {left : Lit → Bool} {f : Int → Int → Option Value} (h : W.ranges Try.prog 73 slElem b r n D left cnt) : True := trivial
set_option maxRecDepth 100000 in
set_option maxHeartbeats 6400000 in
theorem neClone_any {w : World} {base gn n : Nat} {x : NE} (h : NIn w base gn n x) (hn : n < 4611686018427387904) :
    Calls Try.prog 11 #[.pointer (some ⟨gn, 0, none⟩)] w fun e w' => ∃ (gc nc : Nat) (V : Int → Int → Value) (mp : Option Nat), e = .returned (.pointer (some ⟨gc, 0, none⟩)) ∧ NIn w' w.heap.size gc nc ⟨x.m, x.b, mp, V, x.G, x.c⟩ ∧ nc ≤ n + 1 ∧ Below w.heap.size w w' := by
  have hX := atQ_new 62 w w.heap.size x.cells rfl
  have hb : Below w.heap.size w (w.alloc (.cells x.cells 62)) := (Below.refl _ _).alloc (Nat.le_refl _) _
  have hgw : gn < w.heap.size := h.at9.lt
  obtain ⟨_, _, _, _, _, _, _, _, _⟩ := h.cells
  have hmm := @run_makeMap Try.prog
  go_enter Try.func11, Try.ntmps11
  go_upto_region 3 with fail
  have hX1 : AtQ 62 ((w.alloc (.cells #[.int .i64 x.m, .int .i64 x.b, .map (some (w.heap.size + 1)), .int .i64 (x.c 0), .int .i64 (x.c 1), .int .i64 (x.c 2), .int .i64 (x.c 3), .int .i64 (x.c 4), .int .i64 (x.c 5)] 62)).alloc (.map #[] 0)) w.heap.size #[.int .i64 x.m, .int .i64 x.b, .map (some (w.heap.size + 1)), .int .i64 (x.c 0), .int .i64 (x.c 1), .int .i64 (x.c 2), .int .i64 (x.c 3), .int .i64 (x.c 4), .int .i64 (x.c 5)] := AtQ.later (atQ_new _ w _ _ rfl) ((Below.refl _ _).alloc (Nat.le_refl _) _)
  have hM1 : MapN ((w.alloc (.cells #[.int .i64 x.m, .int .i64 x.b, .map (some (w.heap.size + 1)), .int .i64 (x.c 0), .int .i64 (x.c 1), .int .i64 (x.c 2), .int .i64 (x.c 3), .int .i64 (x.c 4), .int .i64 (x.c 5)] 62)).alloc (.map #[] 0)) (w.heap.size + 1) 0 (fun _ _ => none) := by
    have := mapN_new (w.alloc (.cells #[.int .i64 x.m, .int .i64 x.b, .map (some (w.heap.size + 1)), .int .i64 (x.c 0), .int .i64 (x.c 1), .int .i64 (x.c 2), .int .i64 (x.c 3), .int .i64 (x.c 4), .int .i64 (x.c 5)] 62))
    simpa using this
  have hb1 : Below w.heap.size w ((w.alloc (.cells #[.int .i64 x.m, .int .i64 x.b, .map (some (w.heap.size + 1)), .int .i64 (x.c 0), .int .i64 (x.c 1), .int .i64 (x.c 2), .int .i64 (x.c 3), .int .i64 (x.c 4), .int .i64 (x.c 5)] 62)).alloc (.map #[] 0)) := ((Below.refl _ _).alloc (Nat.le_refl _) _).alloc (by simp) _
  have hs1 : (((w.alloc (.cells #[.int .i64 x.m, .int .i64 x.b, .map (some (w.heap.size + 1)), .int .i64 (x.c 0), .int .i64 (x.c 1), .int .i64 (x.c 2), .int .i64 (x.c 3), .int .i64 (x.c 4), .int .i64 (x.c 5)] 62)).alloc (.map #[] 0))).heap.size = w.heap.size + 2 := by simp
  clear hX hb hmm
  generalize ((w.alloc (.cells #[.int .i64 x.m, .int .i64 x.b, .map (some (w.heap.size + 1)), .int .i64 (x.c 0), .int .i64 (x.c 1), .int .i64 (x.c 2), .int .i64 (x.c 3), .int .i64 (x.c 4), .int .i64 (x.c 5)] 62)).alloc (.map #[] 0)) = w2 at hX1 hM1 hb1 hs1 ⊢
  obtain ⟨gc, hgc⟩ : ∃ gc, w.heap.size = gc := ⟨_, rfl⟩
  have HGC := Lib.hid hgc
  rw [hgc] at hX1 hM1 hb1 hs1 hgw ⊢
  have HX := Lib.hid (fun W (hb : Below w.heap.size w W) => h.later hb)
  have hxf : ∀ k, NFoot gn x k → k < gc := fun k hk => by rw [← hgc]; exact (h.foot_lt hk).2
  have hpl := h.pl
  have hslF := h.slF
  have hfV := h.fV
  have htx := h.tx
  have hln := h.ln
  have h2 := h.later (W' := w2) (by rw [hgc]; exact hb1)
  cases hmp : x.mp with
  | none =>
    obtain ⟨_, _, hc2, _, _, _, _, _, _⟩ := h2.cells
    rw [hmp] at hc2
    have hrn := run_range_nilMap (P := Try.prog) w2 60 73 56 Try.underlying60
    have hnx := fun ty => run_next_nilMap (P := Try.prog) w2 ty 0 0 #[]
    simp only [hs1] at hnx
    have hGall : x.G = fun _ _ => [] := by
      rcases h.mem with ⟨_, e⟩ | ⟨b', e, _⟩
      · funext a p; exact e a p
      · rw [hmp] at e; cases e
    have hal : Below w2.heap.size w2 (w2.alloc (.mapIter none 0 #[] 0)) := (Below.refl _ _).alloc (Nat.le_refl _) _
    have hbf : Below gc w (w2.alloc (.mapIter none 0 #[] 0)) := hb1.trans (hal.mono (by omega))
    have hJ3 : NIn w2 gc gc 0 ⟨x.m, x.b, some (gc + 1), fun _ _ => .slice none 0 0, x.G, x.c⟩ := by
      rw [hGall]
      refine ⟨Nat.le_refl _, hX1, .inr ⟨gc + 1, rfl, by omega, ?_⟩, fun a p => ownE_nil _ _ _ _, fun _ _ _ => rfl, fun a p a' p' k h => (by cases h), fun a p h => absurd rfl h, fun a p s h => (by cases h), fun a p => Nat.zero_le _⟩
      exact hM1.ext (fun a p _ => by unfold NE.f; rw [if_pos rfl])
    have hJ4 := hJ3.later hal
    clear hX1 hM1 h2 hJ3 hal hb1
    go_wp2_with fail
    go_loopw [] (fun wr => wr = w2.alloc (.mapIter none 0 #[] 0)) (fun _ => 0)
    case atStart => rfl
    case round =>
      subst hrel
      go_wp2_with fail
      go_ret
      exact ⟨gc, 0, fun _ _ => .slice none 0 0, some (gc + 1), rfl, by rw [HGC.out]; exact hJ4, by omega, by rw [HGC.out]; exact hbf⟩
  | some b =>
    have hmap : MapN w2 b n x.f := by
      rcases h2.mem with ⟨e, _⟩ | ⟨b', e, _, hm⟩
      · rw [hmp] at e; cases e
      · rw [hmp] at e
        cases e
        exact hm
    have hbgc : b < gc := hxf b (.inr (.inl hmp))
    obtain ⟨_, _, hc2, _, _, _, _, _, _⟩ := h2.cells
    rw [hmp] at hc2
    obtain ⟨D, hD1, hD2, hD3, hD4⟩ := hmap
    have hdn := hD1.size_le
    clear h hgc
    go_wp2_with (at_range; refine wpList_range_own _ rfl _ 60 rfl 73 56 neKey Try.underlying60 slElem b n D rfl hD1 ?_)
    intro w3 hrg3 hg3 hs3
    have hG0 : neGc x.G (Maps.has D) = fun _ _ => [] := by
      funext a p
      unfold neGc
      by_cases e : x.G a p = []
      · simp [e]
      · have hwf : wf2 a p := by
          obtain ⟨q1, q2, q3⟩ := hpl a p e
          exact neIs_wf (by unfold neIs; rcases q1 with q1 | q1 <;> simp [q1] <;> omega)
        rw [if_pos (by rw [hD3 a p hwf]; unfold NE.f; rw [if_neg e]; rfl)]
    have hb3 : Below gc w w3 := hb1.grown hg3 (by omega) (fun k hk => by cases hk)
    try rw [hs1] at hs3
    try rw [hs1] at hrg3
    generalize hr : gc + 2 = r at hrg3 hs3 ⊢
    have hJ3 : NIn w3 gc gc 0 ⟨x.m, x.b, some (gc + 1), fun _ _ => .slice none 0 0, neGc x.G (Maps.has D), x.c⟩ := by
      rw [hG0]
      refine ⟨Nat.le_refl _, hX1.same (hg3.block gc (by omega) (by simp)), .inr ⟨gc + 1, rfl, by omega, ?_⟩, fun a p => ownE_nil _ _ _ _, fun _ _ _ => rfl, fun a p a' p' k h => (by cases h), fun a p h => absurd rfl h, fun a p s h => (by cases h), fun a p => Nat.zero_le _⟩
      exact (hM1.same (hg3.block (gc + 1) (by omega) (by simp))).ext (fun a p _ => by unfold NE.f; rw [if_pos rfl])
    have hnf3 : ¬ NFoot gc ⟨x.m, x.b, some (gc + 1), fun _ _ => .slice none 0 0, neGc x.G (Maps.has D), x.c⟩ r := by
      rintro (e | e | ⟨a, p, e⟩)
      · omega
      · have := Option.some.inj e; omega
      · cases e
    generalize hb2 : gc + 1 = b2 at hJ3 hnf3
    have hrb : r ≠ b2 := by omega
    have hbb2 : b ≠ b2 := by omega
    have hrw3 : r < w3.heap.size := by omega
    clear hX1 hM1 hb1 hs1 hg3 hs3 hc2 h2 hG0 hD1
    go_wp2_with fail
    go_loopw [] (fun wr => ∃ (left : Lit → Bool) (cnt n2 : Nat) (V2 : Int → Int → Value), wr.ranges Try.prog 73 slElem b r n D left cnt ∧ NIn wr gc gc n2 ⟨x.m, x.b, some b2, V2, neGc x.G left, x.c⟩ ∧ ¬ NFoot gc ⟨x.m, x.b, some b2, V2, neGc x.G left, x.c⟩ r ∧ Below gc w wr ∧ n2 + cnt ≤ n ∧ r < wr.heap.size ∧ Hid (∀ kl, left kl = true → Maps.has D kl = true)) (fun wr => wr.rangeLeft b r)
    case atStart => exact ⟨_, _, 0, _, hrg3, hJ3, hnf3, hb3, by omega, hrw3, Lib.hid (fun _ h => h)⟩
    case round =>
      obtain ⟨left, cnt, n2, V2, hrg, hJ, hnf, hb, hcn, hrw, HL⟩ := hrel
      clear hrg3 hJ3 hnf3 hb3 hrw3
      rename World => wr
      have hle := hrg.left_eq
      go_wp2_with (at_next; refine wpList_next_ranges _ rfl _ rfl 73 neKey slElem (fun ap : Int × Int => Value.agg #[.int .i64 ap.1, .int .i64 ap.2]) (fun c : Value => c) (fun key kl h => by obtain ⟨a, p, _, e, _⟩ := ne_key_inv h; exact ⟨(a, p), e⟩) (fun v y _ => ⟨v, rfl⟩) b r n D left cnt rfl hrg ?_ ?_)
      · intro hc0 hl0
        have hGG : neGc x.G left = x.G := by
          funext a p
          unfold neGc
          rw [hl0]
          simp
        rw [hGG] at hJ
        go_wp2_with fail
        go_ret
        exact ⟨gc, n2, V2, some b2, rfl, by rw [HGC.out]; exact hJ, by omega, by rw [HGC.out]; exact hb⟩
      · intro a p c kl yd yp w5 cnt5 hwx hlx hRv hat hrg5 hlt5 hg5 hs5 hen
        obtain ⟨a', p', hwf, e, rfl⟩ := ne_key_inv hwx
        simp at e
        obtain ⟨rfl, rfl⟩ := e
        have hcV : c = x.V a p := by
          have e1 := hat .nil
          rw [hD4 a p hwf, hfV] at e1
          have hsl := hslF.getD a p
          rw [hfV] at hsl
          refine slElem_inj (ps := yp) hsl ?_
          rw [hRv, ← e1]
        have hGne : x.G a p ≠ [] := fun e => by
          have := HL.out _ hlx
          rw [hD3 a p hwf] at this
          unfold NE.f at this
          rw [if_pos e] at this
          cases this
        subst hcV
        have hJ5 : NIn w5 gc gc n2 ⟨x.m, x.b, some b2, V2, neGc x.G left, x.c⟩ := hJ.keep (by omega) (fun k hk => hg5.block k (hJ.foot_lt hk).2 (fun e => hnf (by cases e; exact hk)))
        have hb5 : Below gc w w5 := hb.grown hg5 (by have := hb.size; rw [HGC.out] at this; exact this) (fun q hq => by cases hq; omega)
        have hown5 : OwnE w5 0 9 1 (x.V a p) (x.G a p).length (neV (x.G a p)) := ((HX.out w5 (by rw [HGC.out]; exact hb5)).own a p).base (Nat.zero_le _)
        have hYn := atQ_new 73 w5 w5.heap.size #[.int .i64 a, .int .i64 p] rfl
        have hal : Below w5.heap.size w5 (w5.alloc (.cells #[.int .i64 a, .int .i64 p] 73)) := (Below.refl _ _).alloc (Nat.le_refl _) _
        have hJ6 := hJ5.later hal
        have hrg6 := hrg5.alloc (.cells #[.int .i64 a, .int .i64 p] 73)
        have hown6 := hown5.later hal
        have hb6 := hb5.trans (hal.mono (by have := hb5.size; rw [HGC.out] at this; exact this))
        have hs6 : (w5.alloc (.cells #[.int .i64 a, .int .i64 p] 73)).heap.size = wr.heap.size + 1 := by simp; omega
        have HS6 := Lib.hid hs6
        clear hs5 hs6
        go_upto_region 6 with fail
        generalize (w5.alloc (.cells #[.int .i64 a, .int .i64 p] 73)) = w6 at hYn hJ6 hrg6 hown6 hb6 HS6 ⊢
        generalize w5.heap.size = ga at hYn ⊢
        clear hal hown5 hb5 hJ5 hrg5 hg5 hen hb hJ hrg
        have hJd := hJ6.drew
        have hYd := hYn.drew
        have HC := Lib.hid (fun (W : World) (hW : OwnE W 0 9 1 (x.V a p) (x.G a p).length (neV (x.G a p))) => neSClone_any hW (by have := hln a p; omega))
        have hownd := hown6.drew
        have hSd := And.intro hJd.cells.2.2.1 hYd.cells2
        refine wp_region_noPanic ?_
        refine ordM_begin (fun W : World => W.cell? ⟨gc, 2, none⟩ = some (.map (some b2)) ∧ W.cell? ⟨ga, 0, none⟩ = some (.int .i64 a) ∧ W.cell? ⟨ga, 1, none⟩ = some (.int .i64 p)) (fun i => i == 5) (by kernel_rfl) hSd ?_
        refine ordM_take 0 ?vq1 rfl (by kernel_rfl) (by kernel_rfl) (by kernel_rfl) (by kernel_rfl) (fun _ _ _ h => h) (by rfl) ?hq1 (by assumption) ?rq1
        case hq1 => (intro W hSw; (try dsimp only at hSw); go_simp <;> with_reducible rfl)
        (try simp only [Act.put, List.setIfInBounds_toArray, List.set_cons_zero, List.set_cons_succ])
        refine ordM_take 1 ?vq2 rfl (by kernel_rfl) (by kernel_rfl) (by kernel_rfl) (by kernel_rfl) (fun _ _ _ h => h) (by rfl) ?hq2 (by assumption) ?rq2
        case hq2 => (intro W hSw; (try dsimp only at hSw); go_simp <;> with_reducible rfl)
        (try simp only [Act.put, List.setIfInBounds_toArray, List.set_cons_zero, List.set_cons_succ])
        refine ordM_take 2 ?vq3 rfl (by kernel_rfl) (by kernel_rfl) (by kernel_rfl) (by kernel_rfl) (fun _ _ _ h => h) (by rfl) ?hq3 (by assumption) ?rq3
        case hq3 => (intro W hSw; (try dsimp only at hSw); go_simp <;> with_reducible rfl)
        (try simp only [Act.put, List.setIfInBounds_toArray, List.set_cons_zero, List.set_cons_succ])
        refine ordM_take 3 ?vq4 rfl (by kernel_rfl) (by kernel_rfl) (by kernel_rfl) (by kernel_rfl) (fun _ _ _ h => h) (by rfl) ?hq4 (by assumption) ?rq4
        case hq4 => (intro W hSw; (try dsimp only at hSw); go_simp <;> with_reducible rfl)
        (try simp only [Act.put, List.setIfInBounds_toArray, List.set_cons_zero, List.set_cons_succ])
        refine ordM_ready [4] (by kernel_rfl) (by simp) ?_
        refine AllReadyM.cons rfl (fun K hK => ?_) AllReadyM.nil
        go_simp
        go_at_call 32
        refine (HC.out _ hownd).mono ?_
        rintro e w7 ⟨v7, rfl, hO7, _, hk7⟩
        (try go_wp2_with fail)
        have hJ7 := hJd.later hk7
        have hY7 := hYd.later hk7
        have hS7 := And.intro hJ7.cells.2.2.1 hY7.cells2
        refine hK.out _ _ (fun _ => hS7) ?_
        clear hK K
        (try simp only [Act.put, List.setIfInBounds_toArray, List.set_cons_zero, List.set_cons_succ])
        obtain ⟨w8, hr8, hm8, hg8⟩ := (show MapN w7 b2 n2 (NE.f ⟨x.m, x.b, some b2, V2, neGc x.G left, x.c⟩) from by
          rcases hJ7.mem with ⟨e, _⟩ | ⟨b', e, _, hm⟩
          · cases e
          · cases e
            exact hm).upd (by unfold maxLen; omega) hwf (ownE_isSl hO7)
        refine ordM_ready [5] (by kernel_rfl) (by simp) ?_
        refine AllReadyM.cons rfl (fun K hK => ?_) AllReadyM.nil
        go_simp
        refine hK.out _ _ (fun h => absurd h (by decide)) ?_
        clear hK K
        (try simp only [Act.put, List.setIfInBounds_toArray, List.set_cons_zero, List.set_cons_succ])
        refine ordM_done (by kernel_rfl) ?_ _
        refine NoPanic.normal ?_
        have hb7 : Below gc w w7 := hb6.trans ((Below.refl gc w6).drew.trans (hk7.mono (by have := hb6.size; rw [HGC.out] at this; exact this)))
        have hs7 : w6.heap.size ≤ w7.heap.size := hk7.size
        have hrg7 : w7.ranges Try.prog 73 slElem b r n D (fun z => left z && !z.sameKey (neKl a p)) cnt5 := (show (w6.drew).ranges Try.prog 73 slElem b r n D (fun z => left z && !z.sameKey (neKl a p)) cnt5 from hrg6).kept (row := none) ⟨hk7.os, hk7.tape, hk7.output, hk7.size, fun k hk _ => hk7.block k hk⟩ (by simp) (by simp)
        have hrg8 := hrg7.kept hg8 (by simpa using hbb2) (by simpa using hrb)
        have hO8 : OwnE w8 gc 9 1 v7 (x.G a p).length (neV (x.G a p)) := (hO7.base (by show gc ≤ w6.heap.size; have := hb6.size; rw [HGC.out] at this; exact this)).keep hg8.size (fun k cs h1 h2 => hg8.block k (lt_of_block h2) (fun e => by
          cases e
          have q1 := (hO7.1.lt _ h1).1
          have q2 := (hJd.foot_lt (k := b2) (.inr (.inl rfl))).2
          omega))
        have hG0 : neGc x.G left a p = [] := by unfold neGc; rw [if_pos hlx]
        have hV0 : V2 a p = .slice none 0 0 := hJ6.nil a p hG0
        have hdn := hJd.done (w6 := w8) (n' := n2 + 1) (a := a) (p := p) (v' := v7) (l' := x.G a p) rfl (by show w6.heap.size ≤ _; have := hg8.size; omega) (fun k h1 h2 h3 => by
          have h1' : k < w6.heap.size := h1
          rw [hg8.block k (by omega) (fun e => h2 (by cases e; rfl))]
          exact hk7.block k h1) (hm8.ext (fun a' p' _ => by rw [NE.set_f, if_neg hGne])) (by exact hO8) (by
          cases hv : v7.ownBlock with
          | none => exact .inr (.inl rfl)
          | some q => exact .inr (.inr ⟨q, rfl, (hO7.1.lt q hv).1⟩)) (fun e => absurd e hGne) (fun _ => hpl a p hGne) (fun t ht => htx a p t ht) (hln a p) ((sameE_below hk7).trans (sameE_grown hg8))
        obtain ⟨hJ8, hK8⟩ := hdn
        have hset : (NE.set ⟨x.m, x.b, some b2, V2, neGc x.G left, x.c⟩ a p v7 (x.G a p)) = ⟨x.m, x.b, some b2, fun a' p' => if a' = a ∧ p' = p then v7 else V2 a' p', neGc x.G (fun z => left z && !z.sameKey (neKl a p)), x.c⟩ := by
          unfold NE.set
          congr 1
          funext a' p'
          by_cases e0 : x.G a' p' = []
          · have e1 : neGc x.G left a' p' = [] := by unfold neGc; simp [e0]
            have e2 : neGc x.G (fun z => left z && !z.sameKey (neKl a p)) a' p' = [] := by unfold neGc; simp [e0]
            show (if a' = a ∧ p' = p then x.G a p else neGc x.G left a' p') = _
            rw [e1, e2]
            split
            · rename_i e
              rw [e.1, e.2] at e0
              exact e0
            · rfl
          · have hwf' : wf2 a' p' := by
              obtain ⟨q1, q2, q3⟩ := hpl a' p' e0
              exact neIs_wf (by unfold neIs; rcases q1 with q1 | q1 <;> simp [q1] <;> omega)
            show (if a' = a ∧ p' = p then x.G a p else neGc x.G left a' p') = neGc x.G (fun z => left z && !z.sameKey (neKl a p)) a' p'
            unfold neGc
            simp only [neKl_same hwf hwf']
            by_cases e : a' = a ∧ p' = p
            · obtain ⟨rfl, rfl⟩ := e
              simp
            · rw [if_neg e]
              simp [e]
        have hnf8 : ¬ NFoot gc ⟨x.m, x.b, some b2, fun a' p' => if a' = a ∧ p' = p then v7 else V2 a' p', neGc x.G (fun z => left z && !z.sameKey (neKl a p)), x.c⟩ r := by
          rw [← hset]
          intro hf
          rcases hK8.foot r hf with e | e
          · exact hnf e
          · have e' : w6.heap.size ≤ r := e
            have := HS6.out
            omega
        rw [hset] at hJ8
        have hb8 : Below gc w w8 := hb7.grown hg8 (by have := hb7.size; rw [HGC.out] at this; exact this) (fun q hq => by cases hq; omega)
        have hr8 : r < w8.heap.size := by have := hg8.size; have := HS6.out; omega
        have HL8 : Hid (∀ kl, (fun z => left z && !z.sameKey (neKl a p)) kl = true → Maps.has D kl = true) := Lib.hid (fun kl h => HL.out kl (by simp at h; exact h.1))
        have hle8 := hrg8.left_eq
        go_wp2_with fail
        go_roundw
        case rel => exact ⟨_, cnt5, n2 + 1, _, hrg8, hJ8, hnf8, hb8, by omega, hr8, HL8⟩
        case measure => rw [hle8, hle]; exact hlt5
end Go.Proofs.Ytbmbomojnljccaa
