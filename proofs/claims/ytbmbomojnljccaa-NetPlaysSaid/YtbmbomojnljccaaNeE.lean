/- net: add. -/
import Derived.Test.YtbmbomojnljccaaNeC
namespace Go.Proofs.Ytbmbomojnljccaa
open Go.RowKit Go.Maps
set_option linter.unusedVariables false
set_option linter.unusedSimpArgs false
theorem neStepOf {P : Program} {ops : Array Oper} {o : Oper} {a : Act} {w : World} {K : Act → World → Prop} {Q : Exit → Act → World → Prop} {E : Prop}
    (hg : o.guard = none) (s x : Operand) (t : TypeId) (hop : o.op = Op.call { callee := Callee.builtin Builtin.append, args := #[s, x], argTypes := #[t, t] })
    (h : wpList P ops (fun e a w => e = .normal ∧ K a w) [o] a w) : if Region.wanted o (yielded ops a.tmps) = true then Oper.wp P o a w K Q else E := by
  have hw : Region.wanted o (yielded ops a.tmps) = true := by simp [Region.wanted, hg]
  rw [if_pos hw]
  unfold wpList at h
  rw [if_pos hw] at h
  rcases h with h | ⟨_, h⟩
  · unfold Oper.wp execOp at h ⊢
    simp only [hop, resolve, invoke, builtin, Sem.run_bind, Sem.run_pure, Result.andThen_ok, List.map_toArray, List.map_cons, List.map_nil] at h ⊢
    generalize (Sem.run P (Builtin.append_ #[t, t] o.type #[a.eval s, a.eval x]) w) = r at h ⊢
    cases r with
    | ok v w' => simpa [wpList, Oper.upon] using h
    | halt e w' =>
      exfalso
      cases e <;> simp [Result.andThen, Oper.upon] at h
  · exact absurd h (by simp [LetsOut])
/-- 'append' of one record in a drawn region, behind the making of what is appended. -/

theorem info_strN : (Try.prog.info? 9).map (fun i => (i.zero, i.size, i.bytes)) = some (some (.string ⟨#[]⟩), 1, 16) := by kernel_rfl
theorem cell_same {W W' : World} {g i : Nat} (h : W'.heap[g]? = W.heap[g]?) : W'.cell? ⟨g, i, none⟩ = W.cell? ⟨g, i, none⟩ := by simp [World.cell?, h]
theorem neStep {w : World} {ops : Array Oper} {o : Oper} {ac : Act} {K : Act → World → Prop} {Q : Exit → Act → World → Prop} {E : Prop}
    (hg : o.guard = none) (s x : Operand) (hop : o.op = Op.call { callee := Callee.builtin Builtin.append, args := #[s, x], argTypes := #[56, 56] })
    (base : Nat) (v : Value) (n : Nat) (l : List ByteArray) (hs : ac.eval s = v) (hown : OwnE w base 9 1 v n (neV l)) (g : Nat) (u : ByteArray) (hx : ac.eval x = .slice (some ⟨g, 0, none⟩) 1 1) (hc : w.cell? ⟨g, 0, none⟩ = some (.string u))
    (b1 : n ≤ 65535) (hbase : base ≤ w.heap.size)
    (hK : ∀ ad c w', OwnE w' base 9 1 (.slice ad (n + 1) c) (n + 1) (neV (l ++ [u])) → w.grownBy w' v.ownBlock → ((Value.slice ad (n + 1) c).ownBlock = v.ownBlock ∨ ∃ k, (Value.slice ad (n + 1) c).ownBlock = some k ∧ w.heap.size ≤ k) → K (ac.put o.dst (.slice ad (n + 1) c)) w') :
    if Region.wanted o (yielded ops ac.tmps) = true then Oper.wp Try.prog o ac w K Q else E := by
  obtain ⟨i0, hi, hz0, hz1, hz2⟩ := info_parts info_strN
  refine neStepOf hg s x 56 hop (append_anyG w hg s x 56 hop 9 i0 (.string ⟨#[]⟩) 1 16 Try.underlying56 hi hz0 hz1 hz2 rfl (by decide) base v n (neV l) hs hown (some ⟨g, 0, none⟩) 1 1 [.string u] hx rfl (fun e => by cases e) ?_ (fun u' hu' => by simp at hu'; subst hu'; rfl) (by unfold maxLen; omega) (by omega) hbase ?_)
  · intro ad e j u' hj
    cases e
    match j, hj with
    | 0, hj => simp at hj; subst hj; simpa [Addr.add] using hc
  · intro v' w' r1 r2 r3
    obtain ⟨ad, c, rfl⟩ := r1.formG
    have e : neV (l ++ [u]) = neV l ++ [.string u] := by rw [neV_app]; rfl
    exact ⟨rfl, hK ad c w' (by rw [e]; exact r1) r2 r3⟩
theorem neEqS (b : Nat) (W : World) : (binOp .eql 60 (.map (some b)) (.map none)).run Try.prog W = .ok (.bool false) W := by kernel_rfl
theorem neEqN (W : World) : (binOp .eql 60 (.map none) (.map none)).run Try.prog W = .ok (.bool true) W := by kernel_rfl
/-- Another list at one place. -/
def NE.set (x : NE) (a p : Int) (v : Value) (l : List ByteArray) : NE := { x with V := fun a' p' => if a' = a ∧ p' = p then v else x.V a' p', G := fun a' p' => if a' = a ∧ p' = p then l else x.G a' p' }
theorem NE.set_V (x : NE) (a p : Int) (v : Value) (l : List ByteArray) : (x.set a p v l).V a p = v := by simp [NE.set]
theorem NE.set_G (x : NE) (a p : Int) (v : Value) (l : List ByteArray) : (x.set a p v l).G a p = l := by simp [NE.set]
theorem NE.set_Vo (x : NE) {a p a' p' : Int} (v : Value) (l : List ByteArray) (h : ¬ (a' = a ∧ p' = p)) : (x.set a p v l).V a' p' = x.V a' p' := by simp [NE.set, h]
theorem NE.set_Go (x : NE) {a p a' p' : Int} (v : Value) (l : List ByteArray) (h : ¬ (a' = a ∧ p' = p)) : (x.set a p v l).G a' p' = x.G a' p' := by simp [NE.set, h]
theorem NE.set_f (x : NE) (a p : Int) (v : Value) (l : List ByteArray) (a' p' : Int) : (x.set a p v l).f a' p' = putF x.f a p (if l = [] then none else some v) a' p' := by
  unfold NE.f putF
  by_cases h : a' = a ∧ p' = p
  · obtain ⟨rfl, rfl⟩ := h
    rw [NE.set_G, NE.set_V]
    simp
  · rw [NE.set_Go _ _ _ h, NE.set_Vo _ _ _ h, if_neg h]
theorem NIn.done {w w6 : World} {base gn n n' b : Nat} {x : NE} (h : NIn w base gn n x) (hb : x.mp = some b) {a p : Int} {v' : Value} {l' : List ByteArray} (hsz : w.heap.size ≤ w6.heap.size)
    (hbl : ∀ k, k < w.heap.size → k ≠ b → (x.V a p).ownBlock ≠ some k → w6.heap[k]? = w.heap[k]?) (hm : MapN w6 b n' (x.set a p v' l').f) (hO : OwnE w6 base 9 1 v' l'.length (neV l'))
    (hv : v'.ownBlock = (x.V a p).ownBlock ∨ v'.ownBlock = none ∨ ∃ k, v'.ownBlock = some k ∧ w.heap.size ≤ k) (hnil : l' = [] → v' = .slice none 0 0) (hpl : l' ≠ [] → (a = 0 ∨ a = 1) ∧ 1 ≤ p ∧ p ≤ 15) (htx : ∀ s ∈ l', s.size ≤ 1500) (hln : l'.length ≤ 1024) (henv : SameE w w6) :
    NIn w6 base gn n' (x.set a p v' l') ∧ NKeep gn x w w6 (x.set a p v' l') := by
  have hbb : base ≤ b := (h.foot_lt (.inr (.inl hb))).1
  have hblt : b < w.heap.size := (h.foot_lt (.inr (.inl hb))).2
  have hgn : gn < w.heap.size := h.at9.lt
  have hfoot : ∀ k, NFoot gn (x.set a p v' l') k → NFoot gn x k ∨ w.heap.size ≤ k := by
    rintro k (rfl | hk | ⟨a', p', hk⟩)
    · exact .inl (.inl rfl)
    · exact .inl (.inr (.inl hk))
    · by_cases e : a' = a ∧ p' = p
      · obtain ⟨rfl, rfl⟩ := e
        rw [NE.set_V] at hk
        rcases hv with hv | hv | ⟨k', hv, hk'⟩
        · rw [hv] at hk
          exact .inl (.inr (.inr ⟨_, _, hk⟩))
        · rw [hv] at hk; cases hk
        · rw [hv] at hk
          cases hk
          exact .inr hk'
      · rw [NE.set_Vo _ _ _ e] at hk
        exact .inl (.inr (.inr ⟨_, _, hk⟩))
  refine ⟨⟨h.bs, h.at9.same (hbl gn hgn (fun e => h.map_ne hb e.symm) (h.row_ne a p)), .inr ⟨b, hb, hbb, hm⟩, fun a' p' => ?_, fun a' p' hG => ?_, fun a1 p1 a2 p2 k h1 h2 => ?_, fun a' p' hG => ?_, fun a' p' s hs => ?_, fun a' p' => ?_⟩, ⟨hsz, fun k hk hf => hbl k hk (fun e => hf (.inr (.inl (by rw [e]; exact hb)))) (fun e => hf (.inr (.inr ⟨_, _, e⟩))), hfoot, henv⟩⟩
  · by_cases e : a' = a ∧ p' = p
    · obtain ⟨rfl, rfl⟩ := e
      rw [NE.set_V, NE.set_G]
      exact hO
    · rw [NE.set_Vo _ _ _ e, NE.set_Go _ _ _ e]
      refine (h.own a' p').keep hsz (fun k cs hk hc => hbl k (lt_of_block hc) (fun e2 => h.row_map a' p' hb (by rw [hk, e2])) (fun e2 => e ?_))
      exact h.ap _ _ _ _ k hk e2
  · by_cases e : a' = a ∧ p' = p
    · obtain ⟨rfl, rfl⟩ := e
      rw [NE.set_G] at hG
      rw [NE.set_V]
      exact hnil hG
    · rw [NE.set_Go _ _ _ e] at hG
      rw [NE.set_Vo _ _ _ e]
      exact h.nil _ _ hG
  · have hold : ∀ a' p', (x.V a' p').ownBlock = some k → k < w.heap.size := fun a' p' hk => (h.foot_lt (.inr (.inr ⟨a', p', hk⟩))).2
    by_cases e1 : a1 = a ∧ p1 = p
    · by_cases e2 : a2 = a ∧ p2 = p
      · exact ⟨e1.1.trans e2.1.symm, e1.2.trans e2.2.symm⟩
      · obtain ⟨rfl, rfl⟩ := e1
        rw [NE.set_V] at h1
        rw [NE.set_Vo _ _ _ e2] at h2
        rcases hv with hv | hv | ⟨k', hv, hk'⟩
        · rw [hv] at h1
          exact h.ap _ _ _ _ k h1 h2
        · rw [hv] at h1; cases h1
        · rw [hv] at h1
          cases h1
          have := hold _ _ h2
          omega
    · by_cases e2 : a2 = a ∧ p2 = p
      · obtain ⟨rfl, rfl⟩ := e2
        rw [NE.set_V] at h2
        rw [NE.set_Vo _ _ _ e1] at h1
        rcases hv with hv | hv | ⟨k', hv, hk'⟩
        · rw [hv] at h2
          exact h.ap _ _ _ _ k h1 h2
        · rw [hv] at h2; cases h2
        · rw [hv] at h2
          cases h2
          have := hold _ _ h1
          omega
      · rw [NE.set_Vo _ _ _ e1] at h1
        rw [NE.set_Vo _ _ _ e2] at h2
        exact h.ap _ _ _ _ k h1 h2
  · by_cases e : a' = a ∧ p' = p
    · obtain ⟨rfl, rfl⟩ := e
      rw [NE.set_G] at hG
      exact hpl hG
    · rw [NE.set_Go _ _ _ e] at hG
      exact h.pl _ _ hG
  · by_cases e : a' = a ∧ p' = p
    · obtain ⟨rfl, rfl⟩ := e
      rw [NE.set_G] at hs
      exact htx s hs
    · rw [NE.set_Go _ _ _ e] at hs
      exact h.tx _ _ s hs
  · by_cases e : a' = a ∧ p' = p
    · obtain ⟨rfl, rfl⟩ := e
      rw [NE.set_G]
      exact hln
    · rw [NE.set_Go _ _ _ e]
      exact h.ln _ _
/-- A map is made for it. -/
theorem NIn.made {w : World} {base gn n : Nat} {x : NE} (h : NIn w base gn n x) (hm : x.mp = none) : NIn ((w.alloc (.map #[] 0)).setCell ⟨gn, 2, none⟩ (.map (some w.heap.size))) base gn n { x with mp := some w.heap.size } ∧ NKeep gn x w ((w.alloc (.map #[] 0)).setCell ⟨gn, 2, none⟩ (.map (some w.heap.size))) { x with mp := some w.heap.size } := by
  have hgn : gn < w.heap.size := h.at9.lt
  have hal : Below w.heap.size w (w.alloc (.map #[] 0)) := (Below.refl _ _).alloc (Nat.le_refl _) _
  have ho := (Only.refl gn (w.alloc (.map #[] 0))).setCell 2 (.map (some w.heap.size))
  have hG : ∀ a p, x.G a p = [] := by
    rcases h.mem with h1 | ⟨b, e, _⟩
    · exact h1.2
    · rw [hm] at e; cases e
  have h9 : AtQ 62 ((w.alloc (.map #[] 0)).setCell ⟨gn, 2, none⟩ (.map (some w.heap.size))) gn (NE.cells { x with mp := some w.heap.size }) := block_setCell (h.at9.later hal)
  refine ⟨⟨h.bs, h9, .inr ⟨_, rfl, Nat.le_trans h.bs (Nat.le_of_lt hgn), ?_⟩, fun a p => ?_, h.nil, h.ap, h.pl, h.tx, h.ln⟩, ⟨by rw [ho.size]; exact hal.size, fun k hk hf => ?_, ?_, (sameE_below hal).trans (sameE_only ho)⟩⟩
  · have h1 := ((mapN_new w).mono (Nat.zero_le n)).ext (f' := NE.f { x with mp := some w.heap.size }) (fun a p _ => by unfold NE.f; rw [if_pos (hG a p)])
    exact h1.same (ho.block _ (by omega))
  · show OwnE _ base 9 1 (x.V a p) (x.G a p).length (neV (x.G a p))
    rw [h.nil a p (hG a p), hG a p]
    exact ownE_nil _ _ _ _
  · rw [ho.block k (fun e => hf (.inl e)), hal.block k hk]
  · rintro k (rfl | hk | ⟨a, p, hk⟩)
    · exact .inl (.inl rfl)
    · cases hk
      exact .inr (Nat.le_refl _)
    · exact .inl (.inr (.inr ⟨a, p, hk⟩))
set_option maxRecDepth 100000 in
set_option maxHeartbeats 3200000 in
/-- 'n.under[at] = append(n.under[at], data)'. -/
theorem neAdd2 {w : World} {base gn n b : Nat} {x : NE} (h : NIn w base gn n x) (hmp : x.mp = some b) {a p : Int} (hk : wf2 a p) (s : ByteArray) (hs : s.size ≤ 1500) (hl : (x.G a p).length < 1024) (hpl : (a = 0 ∨ a = 1) ∧ 1 ≤ p ∧ p ≤ 15) (hn : n < maxLen) :
    Calls Try.prog 38 #[.pointer (some ⟨gn, 0, none⟩), .agg #[.int .i64 a, .int .i64 p], .string s] w fun e w' => e = .returned (.tuple #[]) ∧ ∃ v' mp', NIn w' base gn (n + 1) ({ x with mp := mp' }.set a p v' (x.G a p ++ [s])) ∧ NKeep gn x w w' ({ x with mp := mp' }.set a p v' (x.G a p ++ [s])) := by
  have hX := atQ_new 73 w w.heap.size #[.int .i64 a, .int .i64 p] rfl
  have hb : Below w.heap.size w (w.alloc (.cells #[.int .i64 a, .int .i64 p] 73)) := (Below.refl _ _).alloc (Nat.le_refl _) _
  have h2 := h.later hb
  have hK2 : NKeep gn x w (w.alloc (.cells #[.int .i64 a, .int .i64 p] 73)) x := nKeep_below hb
  go_enter Try.func38, Try.ntmps38
  go_upto_region 1 with fail
  generalize (w.alloc (.cells #[.int .i64 a, .int .i64 p] 73)) = w2 at hX hb h2 hK2 ⊢
  generalize hg0 : w.heap.size = g0 at hX hb ⊢
  have HG := Lib.hid hg0
  clear hg0 h
  obtain ⟨_, _⟩ := hX.cells2
  obtain ⟨_, _, hc2, _, _, _, _, _, _⟩ := h2.cells
  rw [hmp] at hc2
  have heq := neEqS b w2
  go_upto_region 3 with fail
  have h3 := h2.drew
  have hX3 := hX.drew
  have hK3 : NKeep gn x w w2.drew x := ⟨hK2.size, hK2.block, hK2.foot, hK2.env.trans (sameE_below (Below.refl 0 w2).drew)⟩
  obtain ⟨w3, hw3⟩ : ∃ w3, w2.drew = w3 := ⟨_, rfl⟩
  rw [hw3] at h3 hX3 hK3
  clear h2 hX hb hK2 hc2
  have HI := Lib.hid h3
  have HK := Lib.hid hK3
  have hgw : gn < w3.heap.size := h3.at9.lt
  have hg0w : g0 < w3.heap.size := hX3.lt
  have hbw : b < w3.heap.size := (h3.foot_lt (.inr (.inl hmp))).2
  have hbg : b ≠ gn := h3.map_ne hmp
  have hbg0 : b ≠ g0 := by
    rcases h3.mem with ⟨e, _⟩ | ⟨b', e, _, hm⟩
    · rw [hmp] at e; cases e
    · rw [hmp] at e
      cases e
      obtain ⟨es, cl, hh⟩ := hm.isMap
      exact fun e => blkQ_map hX3 hh e.symm
  have hrg0 : ∀ k, (x.V a p).ownBlock = some k → k ≠ g0 ∧ k ≠ gn ∧ k ≠ b ∧ k < w3.heap.size := fun k hk2 => by
    obtain ⟨cs, hcs⟩ := (h3.own a p).2 k hk2
    exact ⟨blkQ_ne hcs hX3 (by decide), fun e => h3.row_ne a p (by rw [hk2, e]), fun e => h3.row_map a p hmp (by rw [hk2, e]), lt_of_block hcs⟩
  have hmap : MapN w3 b n x.f := by
    rcases h3.mem with ⟨e, _⟩ | ⟨b', e, _, hm⟩
    · rw [hmp] at e; cases e
    · rw [hmp] at e
      cases e
      exact hm
  have hbase : base ≤ w3.heap.size := Nat.le_trans h3.bs (Nat.le_of_lt hgw)
  have hS := And.intro (by have := h3.cells.2.2.1; rw [hmp] at this; exact this) (And.intro hX3.cells2.1 hX3.cells2.2)
  have hsl := h3.slF
  have hfV := h3.fV a p
  have hown := h3.own a p
  generalize hV : x.V a p = v at *
  generalize hl0 : x.G a p = l at *
  have HFIN := Lib.hid (fun (w6 : World) (ad : Option Addr) (c : Nat) (hsz : w3.heap.size ≤ w6.heap.size) (hbl : ∀ k, k < w3.heap.size → k ≠ b → v.ownBlock ≠ some k → w6.heap[k]? = w3.heap[k]?) (hm : MapN w6 b (n + 1) (putF x.f a p (some (.slice ad (l.length + 1) c)))) (hO : OwnE w6 base 9 1 (.slice ad (l.length + 1) c) (l.length + 1) (neV (l ++ [s]))) (hv : (Value.slice ad (l.length + 1) c).ownBlock = v.ownBlock ∨ ∃ k, (Value.slice ad (l.length + 1) c).ownBlock = some k ∧ w3.heap.size ≤ k) (henv : SameE w3 w6) => by
    have hne : l ++ [s] ≠ [] := by simp
    have := HI.out.done (a := a) (p := p) (v' := .slice ad (l.length + 1) c) (l' := l ++ [s]) hmp hsz (by rw [hV]; exact hbl) (hm.ext (fun a' p' _ => by rw [NE.set_f, if_neg hne])) (by simpa using hO) (by rw [hV]; exact hv.imp id .inr) (fun e => absurd e hne) (fun _ => hpl) (fun t ht => by
      rcases List.mem_append.1 ht with e | e
      · exact HI.out.tx a p t (by rw [hl0]; exact e)
      · have : t = s := by simpa using e
        rw [this]; exact hs) (by simp; omega) henv
    have e : ({ x with mp := some b } : NE) = x := by rw [← hmp]
    exact (show ∃ v' mp', NIn w6 base gn (n + 1) (NE.set { x with mp := mp' } a p v' (l ++ [s])) ∧ NKeep gn x w w6 (NE.set { x with mp := mp' } a p v' (l ++ [s])) from ⟨_, some b, by rw [e]; exact this.1, by rw [e]; exact HK.out.trans this.2⟩))
  clear h3 hK3
  have hSd : w2.drew.cell? ⟨gn, 2, none⟩ = some (.map (some b)) ∧ w2.drew.cell? ⟨g0, 0, none⟩ = some (.int .i64 a) ∧ w2.drew.cell? ⟨g0, 1, none⟩ = some (.int .i64 p) := by rw [hw3]; exact hS
  refine wp_region_noPanic ?_
  refine ordM_begin (fun W : World => W.cell? ⟨gn, 2, none⟩ = some (.map (some b)) ∧ W.cell? ⟨g0, 0, none⟩ = some (.int .i64 a) ∧ W.cell? ⟨g0, 1, none⟩ = some (.int .i64 p)) (fun i => i == 11) (by kernel_rfl) hSd ?_
  refine ordM_take 0 ?vq5 rfl (by kernel_rfl) (by kernel_rfl) (by kernel_rfl) (by kernel_rfl) (fun _ _ _ h => h) (by rfl) ?hq5 (by assumption) ?rq5
  case hq5 => (intro W hSw; (try dsimp only at hSw); go_simp <;> with_reducible rfl)
  (try simp only [Act.put, List.setIfInBounds_toArray, List.set_cons_zero, List.set_cons_succ])
  refine ordM_take 1 ?vq6 rfl (by kernel_rfl) (by kernel_rfl) (by kernel_rfl) (by kernel_rfl) (fun _ _ _ h => h) (by rfl) ?hq6 (by assumption) ?rq6
  case hq6 => (intro W hSw; (try dsimp only at hSw); go_simp <;> with_reducible rfl)
  (try simp only [Act.put, List.setIfInBounds_toArray, List.set_cons_zero, List.set_cons_succ])
  refine ordM_take 2 ?vq7 rfl (by kernel_rfl) (by kernel_rfl) (by kernel_rfl) (by kernel_rfl) (fun _ _ _ h => h) (by rfl) ?hq7 (by assumption) ?rq7
  case hq7 => (intro W hSw; (try dsimp only at hSw); go_simp <;> with_reducible rfl)
  (try simp only [Act.put, List.setIfInBounds_toArray, List.set_cons_zero, List.set_cons_succ])
  refine ordM_take 3 ?vq8 rfl (by kernel_rfl) (by kernel_rfl) (by kernel_rfl) (by kernel_rfl) (fun _ _ _ h => h) (by rfl) ?hq8 (by assumption) ?rq8
  case hq8 => (intro W hSw; (try dsimp only at hSw); go_simp <;> with_reducible rfl)
  (try simp only [Act.put, List.setIfInBounds_toArray, List.set_cons_zero, List.set_cons_succ])
  refine ordM_take 4 ?vq9 rfl (by kernel_rfl) (by kernel_rfl) (by kernel_rfl) (by kernel_rfl) (fun _ _ _ h => h) (by rfl) ?hq9 (by assumption) ?rq9
  case hq9 => (intro W hSw; (try dsimp only at hSw); go_simp <;> with_reducible rfl)
  (try simp only [Act.put, List.setIfInBounds_toArray, List.set_cons_zero, List.set_cons_succ])
  refine ordM_take 5 ?vq10 rfl (by kernel_rfl) (by kernel_rfl) (by kernel_rfl) (by kernel_rfl) (fun _ _ _ h => h) (by rfl) ?hq10 (by assumption) ?rq10
  case hq10 => (intro W hSw; (try dsimp only at hSw); go_simp <;> with_reducible rfl)
  (try simp only [Act.put, List.setIfInBounds_toArray, List.set_cons_zero, List.set_cons_succ])
  rw [hw3]
  clear hSd hw3
  refine ordM_ready [6] (by kernel_rfl) (by simp) ?_
  refine AllReadyM.cons rfl (fun K hK => ?_) AllReadyM.nil
  go_simp
  have hal : Below w3.heap.size w3 (w3.alloc (.cells #[.string s] 9)) := (Below.refl _ _).alloc (Nat.le_refl _) _
  have hm4 : MapN (w3.alloc (.cells #[.string s] 9)) b n x.f := hmap.same (hal.block b hbw)
  have hS4 : (w3.alloc (.cells #[.string s] 9)).cell? ⟨gn, 2, none⟩ = some (.map (some b)) ∧ (w3.alloc (.cells #[.string s] 9)).cell? ⟨g0, 0, none⟩ = some (.int .i64 a) ∧ (w3.alloc (.cells #[.string s] 9)).cell? ⟨g0, 1, none⟩ = some (.int .i64 p) := ⟨by rw [cell_same (hal.block gn hgw)]; exact hS.1, by rw [cell_same (hal.block g0 hg0w)]; exact hS.2.1, by rw [cell_same (hal.block g0 hg0w)]; exact hS.2.2⟩
  have hu4 : (w3.alloc (.cells #[.string s] 9)).heap[w3.heap.size]? = some (.cells #[.string s] 9 (0, 0)) := heap_alloc_new w3 _
  have hsz4 : (w3.alloc (.cells #[.string s] 9)).heap.size = w3.heap.size + 1 := by simp
  have hown4 := hown.alloc (.cells #[.string s] 9)
  refine hK.out _ _ (fun _ => hS4) ?_
  clear hK K
  (try simp only [Act.put, List.setIfInBounds_toArray, List.set_cons_zero, List.set_cons_succ])
  have hbl4 := hal.block
  have henv4 := sameE_below hal
  generalize (w3.alloc (.cells #[.string s] 9)) = w4 at hm4 hS4 hu4 hsz4 hown4 hbl4 henv4 ⊢
  obtain ⟨gu, hgu⟩ : ∃ gu, w3.heap.size = gu := ⟨_, rfl⟩
  rw [hgu] at hu4 ⊢
  clear hal
  obtain ⟨st, w5, hrun, hg5, hs5, hst⟩ := MapN.entry (w := w4) (n := n) hm4 hsl hn hk
  rw [hfV] at hrun
  refine ordM_ready [7] (by kernel_rfl) (by simp) ?_
  refine AllReadyM.cons rfl (fun K hK => ?_) AllReadyM.nil
  go_simp
  have hS6 : w5.cell? ⟨gn, 2, none⟩ = some (.map (some b)) ∧ w5.cell? ⟨g0, 0, none⟩ = some (.int .i64 a) ∧ w5.cell? ⟨g0, 1, none⟩ = some (.int .i64 p) := ⟨by rw [cell_same (hg5.block gn (by omega) (fun e => hbg (by cases e; rfl)))]; exact hS4.1, by rw [cell_same (hg5.block g0 (by omega) (fun e => hbg0 (by cases e; rfl)))]; exact hS4.2.1, by rw [cell_same (hg5.block g0 (by omega) (fun e => hbg0 (by cases e; rfl)))]; exact hS4.2.2⟩
  refine hK.out _ _ (fun _ => hS6) ?_
  clear hK K
  (try simp only [Act.put, List.setIfInBounds_toArray, List.set_cons_zero, List.set_cons_succ])
  refine ordM_take 8 ?vq1 rfl (by kernel_rfl) (by kernel_rfl) (by kernel_rfl) (by kernel_rfl) (fun _ _ _ h => h) (by rfl) ?hq1 (by assumption) ?rq1
  case hq1 => (intro W hSw; (try dsimp only at hSw); go_simp <;> with_reducible rfl)
  (try simp only [Act.put, List.setIfInBounds_toArray, List.set_cons_zero, List.set_cons_succ])
  refine ordM_take 10 ?vq2 rfl (by kernel_rfl) (by kernel_rfl) (by kernel_rfl) (by kernel_rfl) (fun _ _ _ h => h) (by rfl) ?hq2 (by assumption) ?rq2
  case hq2 => (intro W hSw; (try dsimp only at hSw); go_simp <;> with_reducible rfl)
  (try simp only [Act.put, List.setIfInBounds_toArray, List.set_cons_zero, List.set_cons_succ])
  have hu6 : w5.cell? ⟨gu, 0, none⟩ = some (.string s) := by
    rw [cell_same (hg5.block gu (by omega) (fun e => by have e2 := Option.some.inj e; omega))]
    have := cell_of_row w4 gu 0 _ _ (0, 0) hu4
    simpa using this
  have hown6 : OwnE w5 base 9 1 v l.length (neV l) := hown4.keep hg5.size (fun k cs h1 h2 => hg5.block k (lt_of_block h2) (fun e => (hrg0 k h1).2.2.1 (by cases e; rfl)))
  have hmb6 : w5.heap[b]? = w5.heap[b]? := rfl
  have hbl6 : ∀ k, k < w3.heap.size → k ≠ b → w5.heap[k]? = w3.heap[k]? := fun k h1 h2 => by rw [hg5.block k (by omega) (fun e => h2 (by cases e; rfl)), hbl4 k h1]
  refine ordM_ready [9] (by kernel_rfl) (by simp) ?_
  refine AllReadyM.cons rfl (fun K hK => ?_) AllReadyM.nil
  refine neStep rfl (.tmp 20) (.tmp 22) rfl base v l.length l rfl hown6 gu s rfl hu6 (by omega) (by omega) (fun ad c w7 hO7 hg7 hv7 => ?_)
  have hS7 : w7.cell? ⟨gn, 2, none⟩ = some (.map (some b)) ∧ w7.cell? ⟨g0, 0, none⟩ = some (.int .i64 a) ∧ w7.cell? ⟨g0, 1, none⟩ = some (.int .i64 p) := by
    have e1 := hg7.block gn (by omega) (fun e => (hrg0 gn e.symm).2.1 rfl)
    have e2 := hg7.block g0 (by omega) (fun e => (hrg0 g0 e.symm).1 rfl)
    exact ⟨by rw [cell_same e1]; exact hS6.1, by rw [cell_same e2]; exact hS6.2.1, by rw [cell_same e2]; exact hS6.2.2⟩
  refine hK.out _ _ (fun _ => hS7) ?_
  clear hK K
  (try simp only [Act.put, List.setIfInBounds_toArray, List.set_cons_zero, List.set_cons_succ])
  obtain ⟨w8, hrun8, hm8, hg8⟩ := hst w7 (.slice ad (l.length + 1) c) (by rw [hg7.block b (by omega) (fun e => (hrg0 b e.symm).2.2.1 rfl)]) (ownE_isSl hO7)
  refine ordM_ready [11] (by kernel_rfl) (by simp) ?_
  refine AllReadyM.cons rfl (fun K hK => ?_) AllReadyM.nil
  go_simp
  refine hK.out _ _ (fun h => absurd h (by decide)) ?_
  clear hK K
  (try simp only [Act.put, List.setIfInBounds_toArray, List.set_cons_zero, List.set_cons_succ])
  refine ordM_done (by kernel_rfl) ?_ _
  refine NoPanic.normal ?_
  have hlt7 : ∀ k, (Value.slice ad (l.length + 1) c).ownBlock = some k → k ≠ b := fun k e1 e2 => by
    rcases hv7 with h | ⟨k', h, hk'⟩
    · rw [h] at e1
      exact (hrg0 k e1).2.2.1 e2
    · rw [h] at e1
      cases e1
      omega
  have hfin := HFIN.out w8 ad c (by have := hg7.size; have := hg8.size; omega) (fun k h1 h2 h3 => by
    rw [hg8.block k (by have := hg7.size; omega) (fun e => h2 (by cases e; rfl)), hg7.block k (by omega) (fun e => h3 e.symm)]
    exact hbl6 k h1 h2) hm8 (hO7.keep hg8.size (fun k cs h1 h2 => hg8.block k (lt_of_block h2) (fun e => hlt7 k h1 (by cases e; rfl)))) (hv7.imp id (fun ⟨k, h1, h2⟩ => ⟨k, h1, by omega⟩)) (((henv4.trans (sameE_grown hg5)).trans (sameE_grown hg7)).trans (sameE_grown hg8))
  go_wp2_with fail
  go_end0
  exact ⟨rfl, hfin⟩
set_option maxRecDepth 100000 in
set_option maxHeartbeats 3200000 in
theorem neAdd0 {w : World} {base gn n : Nat} {x : NE} (h : NIn w base gn n x) (hmp : x.mp = none) {a p : Int} (hk : wf2 a p) (s : ByteArray) (hs : s.size ≤ 1500) (hl : (x.G a p).length < 1024) (hpl : (a = 0 ∨ a = 1) ∧ 1 ≤ p ∧ p ≤ 15) (hn : n < maxLen) :
    Calls Try.prog 38 #[.pointer (some ⟨gn, 0, none⟩), .agg #[.int .i64 a, .int .i64 p], .string s] w fun e w' => e = .returned (.tuple #[]) ∧ ∃ v' mp', NIn w' base gn (n + 1) ({ x with mp := mp' }.set a p v' (x.G a p ++ [s])) ∧ NKeep gn x w w' ({ x with mp := mp' }.set a p v' (x.G a p ++ [s])) := by
  obtain ⟨m, bt, mp, V, G, c⟩ := x
  simp only at hmp hl ⊢
  subst hmp
  have hX := atQ_new 73 w w.heap.size #[.int .i64 a, .int .i64 p] rfl
  have hb : Below w.heap.size w (w.alloc (.cells #[.int .i64 a, .int .i64 p] 73)) := (Below.refl _ _).alloc (Nat.le_refl _) _
  have h2 := h.later hb
  have hK2 : NKeep gn ⟨m, bt, none, V, G, c⟩ w (w.alloc (.cells #[.int .i64 a, .int .i64 p] 73)) ⟨m, bt, none, V, G, c⟩ := nKeep_below hb
  have hmm := @run_makeMap Try.prog
  go_enter Try.func38, Try.ntmps38
  go_upto_region 1 with fail
  generalize (w.alloc (.cells #[.int .i64 a, .int .i64 p] 73)) = w1 at hX hb h2 hK2 ⊢
  generalize hg0 : w.heap.size = g0 at hX hb ⊢
  have HG := Lib.hid hg0
  clear hg0 h
  have hgn1 : gn < w1.heap.size := h2.at9.lt
  obtain ⟨h9, hK9⟩ := h2.made rfl
  have ho := (Only.refl gn (w1.alloc (.map #[] 0))).setCell 2 (.map (some w1.heap.size))
  have hal : Below w1.heap.size w1 (w1.alloc (.map #[] 0)) := (Below.refl _ _).alloc (Nat.le_refl _) _
  have hXg : g0 ≠ gn := blkQ_ne hX h2.at9 (by decide)
  have hX9 := AtQ.only (AtQ.later hX hal) hXg ho
  obtain ⟨_, _, hc2, _, _, _, _, _, _⟩ := h2.cells
  obtain ⟨_, _, hd2, _, _, _, _, _, _⟩ := (h2.later hal).cells
  have hfz : (w1.alloc (.map #[] 0)).frozen? ⟨gn, 2, none⟩ = false := AtQ.free (h2.later hal).at9 2
  have heq := neEqN w1
  have hKA := hK2.trans hK9
  go_upto_region 3 with fail
  rw [World.setCell_alloc_past (.map #[] 0) gn 2 (.map (some w1.heap.size)) hgn1] at h9 hX9 hKA
  clear hmm hc2 hd2 hfz heq hK2 hK9 hX h2 hal ho
  generalize hbb : w1.heap.size = b at h9 hX9 hKA ⊢
  generalize ((w1.setCell ⟨gn, 2, none⟩ (.map (some b))).alloc (.map #[] 0)) = w2 at h9 hX9 hKA ⊢
  have h2 : NIn w2 base gn n ⟨m, bt, some b, V, G, c⟩ := h9
  have hX := hX9
  have hK2 : NKeep gn ⟨m, bt, none, V, G, c⟩ w w2 ⟨m, bt, some b, V, G, c⟩ := hKA
  have hmp : (⟨m, bt, some b, V, G, c⟩ : NE).mp = some b := rfl
  have hc2 := h2.cells.2.2.1
  clear h9 hX9 hKA hgn1 hbb hXg
  have h3 := h2.drew
  have hX3 := hX.drew
  have hK3 : NKeep gn ⟨m, bt, none, V, G, c⟩ w w2.drew ⟨m, bt, some b, V, G, c⟩ := ⟨hK2.size, hK2.block, hK2.foot, hK2.env.trans (sameE_below (Below.refl 0 w2).drew)⟩
  obtain ⟨w3, hw3⟩ : ∃ w3, w2.drew = w3 := ⟨_, rfl⟩
  rw [hw3] at h3 hX3 hK3
  clear h2 hX hb hK2 hc2
  have HI := Lib.hid h3
  have HK := Lib.hid hK3
  have hgw : gn < w3.heap.size := h3.at9.lt
  have hg0w : g0 < w3.heap.size := hX3.lt
  have hbw : b < w3.heap.size := (h3.foot_lt (.inr (.inl hmp))).2
  have hbg : b ≠ gn := h3.map_ne hmp
  have hbg0 : b ≠ g0 := by
    rcases h3.mem with ⟨e, _⟩ | ⟨b', e, _, hm⟩
    · rw [hmp] at e; cases e
    · rw [hmp] at e
      cases e
      obtain ⟨es, cl, hh⟩ := hm.isMap
      exact fun e => blkQ_map hX3 hh e.symm
  have hrg0 : ∀ k, (V a p).ownBlock = some k → k ≠ g0 ∧ k ≠ gn ∧ k ≠ b ∧ k < w3.heap.size := fun k hk2 => by
    obtain ⟨cs, hcs⟩ := (h3.own a p).2 k hk2
    exact ⟨blkQ_ne hcs hX3 (by decide), fun e => h3.row_ne a p (by rw [hk2, e]), fun e => h3.row_map a p hmp (by rw [hk2, e]), lt_of_block hcs⟩
  have hmap : MapN w3 b n (NE.f ⟨m, bt, some b, V, G, c⟩) := by
    rcases h3.mem with ⟨e, _⟩ | ⟨b', e, _, hm⟩
    · rw [hmp] at e; cases e
    · rw [hmp] at e
      cases e
      exact hm
  have hbase : base ≤ w3.heap.size := Nat.le_trans h3.bs (Nat.le_of_lt hgw)
  have hS := And.intro (by have := h3.cells.2.2.1; rw [hmp] at this; exact this) (And.intro hX3.cells2.1 hX3.cells2.2)
  have hsl := h3.slF
  have hfV : ((NE.f ⟨m, bt, some b, V, G, c⟩) a p).getD (.slice none 0 0) = V a p := h3.fV a p
  have hown : OwnE w3 base 9 1 (V a p) (G a p).length (neV (G a p)) := h3.own a p
  generalize hV : V a p = v at *
  generalize hl0 : G a p = l at *
  have HFIN := Lib.hid (fun (w6 : World) (ad : Option Addr) (cc : Nat) (hsz : w3.heap.size ≤ w6.heap.size) (hbl : ∀ k, k < w3.heap.size → k ≠ b → v.ownBlock ≠ some k → w6.heap[k]? = w3.heap[k]?) (hm : MapN w6 b (n + 1) (putF (NE.f ⟨m, bt, some b, V, G, c⟩) a p (some (.slice ad (l.length + 1) cc)))) (hO : OwnE w6 base 9 1 (.slice ad (l.length + 1) cc) (l.length + 1) (neV (l ++ [s]))) (hv : (Value.slice ad (l.length + 1) cc).ownBlock = v.ownBlock ∨ ∃ k, (Value.slice ad (l.length + 1) cc).ownBlock = some k ∧ w3.heap.size ≤ k) (henv : SameE w3 w6) => by
    have hne : l ++ [s] ≠ [] := by simp
    have := HI.out.done (a := a) (p := p) (v' := .slice ad (l.length + 1) cc) (l' := l ++ [s]) hmp hsz (by dsimp only; rw [hV]; exact hbl) (hm.ext (fun a' p' _ => by rw [NE.set_f, if_neg hne])) (by simpa using hO) (by dsimp only; rw [hV]; exact hv.imp id .inr) (fun e => absurd e hne) (fun _ => hpl) (fun t ht => by
      rcases List.mem_append.1 ht with e | e
      · exact HI.out.tx a p t (by dsimp only; rw [hl0]; exact e)
      · have : t = s := by simpa using e
        rw [this]; exact hs) (by simp; omega) henv
    exact (show ∃ v' mp', NIn w6 base gn (n + 1) (NE.set ⟨m, bt, mp', V, G, c⟩ a p v' (l ++ [s])) ∧ NKeep gn ⟨m, bt, none, V, G, c⟩ w w6 (NE.set ⟨m, bt, mp', V, G, c⟩ a p v' (l ++ [s])) from ⟨_, some b, this.1, HK.out.trans this.2⟩))
  clear h3 hK3
  have hSd : w2.drew.cell? ⟨gn, 2, none⟩ = some (.map (some b)) ∧ w2.drew.cell? ⟨g0, 0, none⟩ = some (.int .i64 a) ∧ w2.drew.cell? ⟨g0, 1, none⟩ = some (.int .i64 p) := by rw [hw3]; exact hS
  refine wp_region_noPanic ?_
  refine ordM_begin (fun W : World => W.cell? ⟨gn, 2, none⟩ = some (.map (some b)) ∧ W.cell? ⟨g0, 0, none⟩ = some (.int .i64 a) ∧ W.cell? ⟨g0, 1, none⟩ = some (.int .i64 p)) (fun i => i == 11) (by kernel_rfl) hSd ?_
  refine ordM_take 0 ?vq85 rfl (by kernel_rfl) (by kernel_rfl) (by kernel_rfl) (by kernel_rfl) (fun _ _ _ h => h) (by rfl) ?hq85 (by assumption) ?rq85
  case hq85 => (intro W hSw; (try dsimp only at hSw); go_simp <;> with_reducible rfl)
  (try simp only [Act.put, List.setIfInBounds_toArray, List.set_cons_zero, List.set_cons_succ])
  refine ordM_take 1 ?vq86 rfl (by kernel_rfl) (by kernel_rfl) (by kernel_rfl) (by kernel_rfl) (fun _ _ _ h => h) (by rfl) ?hq86 (by assumption) ?rq86
  case hq86 => (intro W hSw; (try dsimp only at hSw); go_simp <;> with_reducible rfl)
  (try simp only [Act.put, List.setIfInBounds_toArray, List.set_cons_zero, List.set_cons_succ])
  refine ordM_take 2 ?vq87 rfl (by kernel_rfl) (by kernel_rfl) (by kernel_rfl) (by kernel_rfl) (fun _ _ _ h => h) (by rfl) ?hq87 (by assumption) ?rq87
  case hq87 => (intro W hSw; (try dsimp only at hSw); go_simp <;> with_reducible rfl)
  (try simp only [Act.put, List.setIfInBounds_toArray, List.set_cons_zero, List.set_cons_succ])
  refine ordM_take 3 ?vq88 rfl (by kernel_rfl) (by kernel_rfl) (by kernel_rfl) (by kernel_rfl) (fun _ _ _ h => h) (by rfl) ?hq88 (by assumption) ?rq88
  case hq88 => (intro W hSw; (try dsimp only at hSw); go_simp <;> with_reducible rfl)
  (try simp only [Act.put, List.setIfInBounds_toArray, List.set_cons_zero, List.set_cons_succ])
  refine ordM_take 4 ?vq89 rfl (by kernel_rfl) (by kernel_rfl) (by kernel_rfl) (by kernel_rfl) (fun _ _ _ h => h) (by rfl) ?hq89 (by assumption) ?rq89
  case hq89 => (intro W hSw; (try dsimp only at hSw); go_simp <;> with_reducible rfl)
  (try simp only [Act.put, List.setIfInBounds_toArray, List.set_cons_zero, List.set_cons_succ])
  refine ordM_take 5 ?vq810 rfl (by kernel_rfl) (by kernel_rfl) (by kernel_rfl) (by kernel_rfl) (fun _ _ _ h => h) (by rfl) ?hq810 (by assumption) ?rq810
  case hq810 => (intro W hSw; (try dsimp only at hSw); go_simp <;> with_reducible rfl)
  (try simp only [Act.put, List.setIfInBounds_toArray, List.set_cons_zero, List.set_cons_succ])
  rw [hw3]
  clear hSd hw3
  refine ordM_ready [6] (by kernel_rfl) (by simp) ?_
  refine AllReadyM.cons rfl (fun K hK => ?_) AllReadyM.nil
  go_simp
  have hal : Below w3.heap.size w3 (w3.alloc (.cells #[.string s] 9)) := (Below.refl _ _).alloc (Nat.le_refl _) _
  have hm4 : MapN (w3.alloc (.cells #[.string s] 9)) b n (NE.f ⟨m, bt, some b, V, G, c⟩) := hmap.same (hal.block b hbw)
  have hS4 : (w3.alloc (.cells #[.string s] 9)).cell? ⟨gn, 2, none⟩ = some (.map (some b)) ∧ (w3.alloc (.cells #[.string s] 9)).cell? ⟨g0, 0, none⟩ = some (.int .i64 a) ∧ (w3.alloc (.cells #[.string s] 9)).cell? ⟨g0, 1, none⟩ = some (.int .i64 p) := ⟨by rw [cell_same (hal.block gn hgw)]; exact hS.1, by rw [cell_same (hal.block g0 hg0w)]; exact hS.2.1, by rw [cell_same (hal.block g0 hg0w)]; exact hS.2.2⟩
  have hu4 : (w3.alloc (.cells #[.string s] 9)).heap[w3.heap.size]? = some (.cells #[.string s] 9 (0, 0)) := heap_alloc_new w3 _
  have hsz4 : (w3.alloc (.cells #[.string s] 9)).heap.size = w3.heap.size + 1 := by simp
  have hown4 := hown.alloc (.cells #[.string s] 9)
  refine hK.out _ _ (fun _ => hS4) ?_
  clear hK K
  (try simp only [Act.put, List.setIfInBounds_toArray, List.set_cons_zero, List.set_cons_succ])
  have hbl4 := hal.block
  have henv4 := sameE_below hal
  generalize (w3.alloc (.cells #[.string s] 9)) = w4 at hm4 hS4 hu4 hsz4 hown4 hbl4 henv4 ⊢
  obtain ⟨gu, hgu⟩ : ∃ gu, w3.heap.size = gu := ⟨_, rfl⟩
  rw [hgu] at hu4 ⊢
  clear hal
  obtain ⟨st, w5, hrun, hg5, hs5, hst⟩ := MapN.entry (w := w4) (n := n) hm4 hsl hn hk
  rw [hfV] at hrun
  refine ordM_ready [7] (by kernel_rfl) (by simp) ?_
  refine AllReadyM.cons rfl (fun K hK => ?_) AllReadyM.nil
  go_simp
  have hS6 : w5.cell? ⟨gn, 2, none⟩ = some (.map (some b)) ∧ w5.cell? ⟨g0, 0, none⟩ = some (.int .i64 a) ∧ w5.cell? ⟨g0, 1, none⟩ = some (.int .i64 p) := ⟨by rw [cell_same (hg5.block gn (by omega) (fun e => hbg (by cases e; rfl)))]; exact hS4.1, by rw [cell_same (hg5.block g0 (by omega) (fun e => hbg0 (by cases e; rfl)))]; exact hS4.2.1, by rw [cell_same (hg5.block g0 (by omega) (fun e => hbg0 (by cases e; rfl)))]; exact hS4.2.2⟩
  refine hK.out _ _ (fun _ => hS6) ?_
  clear hK K
  (try simp only [Act.put, List.setIfInBounds_toArray, List.set_cons_zero, List.set_cons_succ])
  refine ordM_take 8 ?vq81 rfl (by kernel_rfl) (by kernel_rfl) (by kernel_rfl) (by kernel_rfl) (fun _ _ _ h => h) (by rfl) ?hq81 (by assumption) ?rq81
  case hq81 => (intro W hSw; (try dsimp only at hSw); go_simp <;> with_reducible rfl)
  (try simp only [Act.put, List.setIfInBounds_toArray, List.set_cons_zero, List.set_cons_succ])
  refine ordM_take 10 ?vq82 rfl (by kernel_rfl) (by kernel_rfl) (by kernel_rfl) (by kernel_rfl) (fun _ _ _ h => h) (by rfl) ?hq82 (by assumption) ?rq82
  case hq82 => (intro W hSw; (try dsimp only at hSw); go_simp <;> with_reducible rfl)
  (try simp only [Act.put, List.setIfInBounds_toArray, List.set_cons_zero, List.set_cons_succ])
  have hu6 : w5.cell? ⟨gu, 0, none⟩ = some (.string s) := by
    rw [cell_same (hg5.block gu (by omega) (fun e => by have e2 := Option.some.inj e; omega))]
    have := cell_of_row w4 gu 0 _ _ (0, 0) hu4
    simpa using this
  have hown6 : OwnE w5 base 9 1 v l.length (neV l) := hown4.keep hg5.size (fun k cs h1 h2 => hg5.block k (lt_of_block h2) (fun e => (hrg0 k h1).2.2.1 (by cases e; rfl)))
  have hmb6 : w5.heap[b]? = w5.heap[b]? := rfl
  have hbl6 : ∀ k, k < w3.heap.size → k ≠ b → w5.heap[k]? = w3.heap[k]? := fun k h1 h2 => by rw [hg5.block k (by omega) (fun e => h2 (by cases e; rfl)), hbl4 k h1]
  refine ordM_ready [9] (by kernel_rfl) (by simp) ?_
  refine AllReadyM.cons rfl (fun K hK => ?_) AllReadyM.nil
  refine neStep rfl (.tmp 20) (.tmp 22) rfl base v l.length l rfl hown6 gu s rfl hu6 (by omega) (by omega) (fun ad cc w7 hO7 hg7 hv7 => ?_)
  have hS7 : w7.cell? ⟨gn, 2, none⟩ = some (.map (some b)) ∧ w7.cell? ⟨g0, 0, none⟩ = some (.int .i64 a) ∧ w7.cell? ⟨g0, 1, none⟩ = some (.int .i64 p) := by
    have e1 := hg7.block gn (by omega) (fun e => (hrg0 gn e.symm).2.1 rfl)
    have e2 := hg7.block g0 (by omega) (fun e => (hrg0 g0 e.symm).1 rfl)
    exact ⟨by rw [cell_same e1]; exact hS6.1, by rw [cell_same e2]; exact hS6.2.1, by rw [cell_same e2]; exact hS6.2.2⟩
  refine hK.out _ _ (fun _ => hS7) ?_
  clear hK K
  (try simp only [Act.put, List.setIfInBounds_toArray, List.set_cons_zero, List.set_cons_succ])
  obtain ⟨w8, hrun8, hm8, hg8⟩ := hst w7 (.slice ad (l.length + 1) cc) (by rw [hg7.block b (by omega) (fun e => (hrg0 b e.symm).2.2.1 rfl)]) (ownE_isSl hO7)
  refine ordM_ready [11] (by kernel_rfl) (by simp) ?_
  refine AllReadyM.cons rfl (fun K hK => ?_) AllReadyM.nil
  go_simp
  refine hK.out _ _ (fun h => absurd h (by decide)) ?_
  clear hK K
  (try simp only [Act.put, List.setIfInBounds_toArray, List.set_cons_zero, List.set_cons_succ])
  refine ordM_done (by kernel_rfl) ?_ _
  refine NoPanic.normal ?_
  have hlt7 : ∀ k, (Value.slice ad (l.length + 1) cc).ownBlock = some k → k ≠ b := fun k e1 e2 => by
    rcases hv7 with h | ⟨k', h, hk'⟩
    · rw [h] at e1
      exact (hrg0 k e1).2.2.1 e2
    · rw [h] at e1
      cases e1
      omega
  have hfin := HFIN.out w8 ad cc (by have := hg7.size; have := hg8.size; omega) (fun k h1 h2 h3 => by
    rw [hg8.block k (by have := hg7.size; omega) (fun e => h2 (by cases e; rfl)), hg7.block k (by omega) (fun e => h3 e.symm)]
    exact hbl6 k h1 h2) hm8 (hO7.keep hg8.size (fun k cs h1 h2 => hg8.block k (lt_of_block h2) (fun e => hlt7 k h1 (by cases e; rfl)))) (hv7.imp id (fun ⟨k, h1, h2⟩ => ⟨k, h1, by omega⟩)) (((henv4.trans (sameE_grown hg5)).trans (sameE_grown hg7)).trans (sameE_grown hg8))
  go_wp2_with fail
  go_end0
  exact ⟨rfl, hfin⟩
theorem neAdd_any {w : World} {base gn n : Nat} {x : NE} (h : NIn w base gn n x) {a p : Int} (hk : wf2 a p) (s : ByteArray) (hs : s.size ≤ 1500) (hl : (x.G a p).length < 1024) (hpl : (a = 0 ∨ a = 1) ∧ 1 ≤ p ∧ p ≤ 15) (hn : n < maxLen) :
    Calls Try.prog 38 #[.pointer (some ⟨gn, 0, none⟩), .agg #[.int .i64 a, .int .i64 p], .string s] w fun e w' => e = .returned (.tuple #[]) ∧ ∃ v' mp', NIn w' base gn (n + 1) ({ x with mp := mp' }.set a p v' (x.G a p ++ [s])) ∧ NKeep gn x w w' ({ x with mp := mp' }.set a p v' (x.G a p ++ [s])) := by
  cases hm : x.mp with
  | none => exact neAdd0 h hm hk s hs hl hpl hn
  | some b => exact neAdd2 h hm hk s hs hl hpl hn
end Go.Proofs.Ytbmbomojnljccaa
