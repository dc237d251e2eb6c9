/- net: the document's cut. -/
import Derived.Test.YtbmbomojnljccaaNeT
import Derived.Test.YtbmbomojnljccaaOrdM
namespace Go.Proofs.Ytbmbomojnljccaa
open Go.RowKit Go.Maps
set_option linter.unusedVariables false
set_option linter.unusedSimpArgs false
/-- 'append' of datagrams in a drawn region. -/
theorem odStep {w : World} {ops : Array Oper} {o : Oper} {ac : Act} {K : Act → World → Prop} {Q : Exit → Act → World → Prop} {E : Prop}
    (hg : o.guard = none) (s x : Operand) (hop : o.op = Op.call { callee := Callee.builtin Builtin.append, args := #[s, x], argTypes := #[30, 30] })
    (base : Nat) (v : Value) (n : Nat) (xs : List Value) (hs : ac.eval s = v) (hown : OwnE w base 84 3 v n xs) (xa : Option Addr) (m c : Nat) (news : List Value) (hx : ac.eval x = .slice xa m c)
    (hn : news.length = m * 3) (hnone : xa = none → m = 0 ∧ c = 0) (hc : ∀ ad, xa = some ad → ∀ j u, news[j]? = some u → w.cell? (ad.add j) = some u) (h1c : ∀ u ∈ news, u.oneCell' = true)
    (b1 : n + m ≤ 131072) (hbase : base ≤ w.heap.size)
    (hK : ∀ ad cc w', OwnE w' base 84 3 (.slice ad (n + m) cc) (n + m) (xs ++ news) → w.grownBy w' v.ownBlock → K (ac.put o.dst (.slice ad (n + m) cc)) w') :
    if Region.wanted o (yielded ops ac.tmps) = true then Oper.wp Try.prog o ac w K Q else E := by
  obtain ⟨i0, hi, hz0, hz1, hz2⟩ := info_parts info_one
  refine neStepOf hg s x 30 hop (append_anyG w hg s x 30 hop 84 i0 (.agg #[.int .i64 0, .int .i64 0, .string ByteArray.empty]) 3 32 Try.underlying30 hi hz0 hz1 hz2 rfl (by decide) base v n xs hs hown xa m c news hx hn hnone hc h1c (by unfold maxLen; omega) (by omega) hbase ?_)
  intro v' w' r1 r2 _
  obtain ⟨ad, cc, rfl⟩ := r1.formG
  exact ⟨rfl, hK ad cc w' r1 r2⟩
/-- How cut ends. -/
inductive NeCut (l : List OD) (a p i : Int) : Option ByteArray → List OD → Prop
  | none (h : OdNone l a p i) : NeCut l a p i none l
  | some (k : Nat) (r : OD) (h : OdAt l a p i k r) : NeCut l a p i (some r.s) (l.take k ++ l.drop (k + 1))
theorem odV_app (l l' : List OD) : odV (l ++ l') = odV l ++ odV l' := by simp [odV, rowsV]
theorem odV_get (l : List OD) (i : Nat) : ∀ (j : Nat) (u : Value), (odV (l.take i))[j]? = some u → (odV l)[j]? = some u := fun j u h => by
  have e : odV l = odV (l.take i) ++ odV (l.drop i) := by rw [← odV_app, List.take_append_drop]
  rw [e, List.getElem?_append_left (List.getElem?_eq_some_iff.1 h).1]
  exact h
theorem odV_get_drop (l : List OD) (i : Nat) (hi : i ≤ l.length) : ∀ (j : Nat) (u : Value), (odV (l.drop i))[j]? = some u → (odV l)[i * 3 + j]? = some u := fun j u h => by
  have e : odV l = odV (l.take i) ++ odV (l.drop i) := by rw [← odV_app, List.take_append_drop]
  have hl : (odV (l.take i)).length = i * 3 := by rw [odV_len, List.length_take, Nat.min_eq_left hi]
  rw [e, List.getElem?_append_right (by omega), hl]
  rw [show i * 3 + j - i * 3 = j from by omega]
  exact h
set_option maxRecDepth 100000 in
set_option maxHeartbeats 6400000 in
theorem refNeCut_any {w : World} {vl : Value} {l : List OD} {n : Nat} (m b c0 c1 c2 c3 c4 c5 a p i : Int) (hL : OwnE w 0 84 3 vl n (odV l)) (hn : n ≤ 65535) :
    Calls Try.prog 40 #[neRv m b vl c0 c1 c2 c3 c4 c5, .int .i64 a, .int .i64 p, .int .i64 i] w fun e w' => ∃ (r : Option ByteArray) (l' : List OD) (v' : Value), e = .returned (.tuple #[neRv m b v' c0 c1 c2 c3 c4 c5, .string (r.getD ⟨#[]⟩), .bool r.isSome]) ∧ NeCut l a p i r l' ∧ OwnE w' 0 84 3 v' l'.length (odV l') ∧ Below w.heap.size w w' := by
  unfold neRv
  obtain ⟨ax, cap, rfl, hnc, hcm, hln, _⟩ := hL.rdo
  unfold maxLen at hcm
  have hX1 := atQ_new 34 (w.alloc (.cells #[.int .i64 m, .int .i64 b, .slice ax n cap, .int .i64 c0, .int .i64 c1, .int .i64 c2, .int .i64 c3, .int .i64 c4, .int .i64 c5] 34)) (w.heap.size + 1) #[.int .i64 0, .int .i64 0, .slice none 0 0, .int .i64 0, .int .i64 0, .int .i64 0, .int .i64 0, .int .i64 0, .int .i64 0] (by simp)
  have hX0 := (atQ_new 34 w w.heap.size #[.int .i64 m, .int .i64 b, .slice ax n cap, .int .i64 c0, .int .i64 c1, .int .i64 c2, .int .i64 c3, .int .i64 c4, .int .i64 c5] rfl).later (W' := ((w.alloc (.cells #[.int .i64 m, .int .i64 b, .slice ax n cap, .int .i64 c0, .int .i64 c1, .int .i64 c2, .int .i64 c3, .int .i64 c4, .int .i64 c5] 34)).alloc (.cells #[.int .i64 0, .int .i64 0, .slice none 0 0, .int .i64 0, .int .i64 0, .int .i64 0, .int .i64 0, .int .i64 0, .int .i64 0] 34))) ((Below.refl _ _).alloc (Nat.le_refl _) _)
  have hb : Below w.heap.size w ((w.alloc (.cells #[.int .i64 m, .int .i64 b, .slice ax n cap, .int .i64 c0, .int .i64 c1, .int .i64 c2, .int .i64 c3, .int .i64 c4, .int .i64 c5] 34)).alloc (.cells #[.int .i64 0, .int .i64 0, .slice none 0 0, .int .i64 0, .int .i64 0, .int .i64 0, .int .i64 0, .int .i64 0, .int .i64 0] 34)) := ((Below.refl _ _).alloc (Nat.le_refl _) _).alloc (by simp) _
  go_enter Try.func40, Try.ntmps40
  go_upto_region 1 with fail
  generalize ((w.alloc (.cells #[.int .i64 m, .int .i64 b, .slice ax n cap, .int .i64 c0, .int .i64 c1, .int .i64 c2, .int .i64 c3, .int .i64 c4, .int .i64 c5] 34)).alloc (.cells #[.int .i64 0, .int .i64 0, .slice none 0 0, .int .i64 0, .int .i64 0, .int .i64 0, .int .i64 0, .int .i64 0, .int .i64 0] 34)) = w2 at hX0 hX1 hb ⊢
  have hL2 := hL.later hb
  generalize hg1 : w.heap.size + 1 = g1 at *
  generalize hg0 : w.heap.size = g0 at *
  have HG := Lib.hid hg0
  have hle1 : g0 ≤ g1 := by omega
  have hne01 : g0 ≠ g1 := by omega
  have hne10 : g1 ≠ g0 := by omega
  have hsz2 : g0 ≤ w2.heap.size := Nat.le_of_lt hX0.lt
  clear hg0 hg1 hL
  obtain ⟨z0, z1, z2, z3, z4, z5, z6, z7, z8⟩ := hX0.cells9
  have HA := Lib.hid (refNePlace_any m b c0 c1 c2 c3 c4 c5 a p i hL2 hn)
  unfold neRv at HA
  go_wp2_with fail
  refine HA.out.mono ?_
  rintro e w3 ⟨at_, rfl, hpl, hb3⟩
  have hX0' := hX0.later hb3
  have hX1' := hX1.later hb3
  have hL3 := hL2.later hb3
  have hb3' := hb.trans (hb3.mono hsz2)
  have hsz3 : g0 ≤ w3.heap.size := Nat.le_trans hsz2 hb3.size
  clear hX0 hX1 hL2 HA hb hb3 z0 z1 z2 z3 z4 z5 z6 z7 z8
  rcases hpl with ⟨rfl, hno⟩ | ⟨k, o, rfl, hat⟩
  · obtain ⟨_, _, _, _, _, _, _, _, _⟩ := hX0'.cells9
    obtain ⟨_, _, _, _, _, _, _, _, _⟩ := hX1'.frees9
    obtain ⟨_, _, _, _, _, _, _, _, _⟩ := hX1'.cells9
    have hZ := atQ9_put hX1' (.int .i64 m) (.int .i64 b) (.slice ax n cap) (.int .i64 c0) (.int .i64 c1) (.int .i64 c2) (.int .i64 c3) (.int .i64 c4) (.int .i64 c5)
    have hbz := hb3'.trans ((put9_only w3 g1 (.int .i64 m) (.int .i64 b) (.slice ax n cap) (.int .i64 c0) (.int .i64 c1) (.int .i64 c2) (.int .i64 c3) (.int .i64 c4) (.int .i64 c5)).below hle1)
    have hLz := hL3.keep (W' := (((((((((w3.setCell ⟨g1, 0, none⟩ (.int .i64 m)).setCell ⟨g1, 1, none⟩ (.int .i64 b)).setCell ⟨g1, 2, none⟩ (.slice ax n cap)).setCell ⟨g1, 3, none⟩ (.int .i64 c0)).setCell ⟨g1, 4, none⟩ (.int .i64 c1)).setCell ⟨g1, 5, none⟩ (.int .i64 c2)).setCell ⟨g1, 6, none⟩ (.int .i64 c3)).setCell ⟨g1, 7, none⟩ (.int .i64 c4)).setCell ⟨g1, 8, none⟩ (.int .i64 c5))) (by rw [(put9_only w3 g1 (.int .i64 m) (.int .i64 b) (.slice ax n cap) (.int .i64 c0) (.int .i64 c1) (.int .i64 c2) (.int .i64 c3) (.int .i64 c4) (.int .i64 c5)).size]; exact Nat.le_refl _) (fun k cs hk hc => (put9_only w3 g1 (.int .i64 m) (.int .i64 b) (.slice ax n cap) (.int .i64 c0) (.int .i64 c1) (.int .i64 c2) (.int .i64 c3) (.int .i64 c4) (.int .i64 c5)).block k (fun e' => by
      subst e'
      exact blkQ_ne (T := 84) (T' := 34) hc hX1' (by decide) rfl))
    obtain ⟨d0, d1, d2, d3, d4, d5, d6, d7, d8⟩ := hZ.cells9
    have HBZ := Lib.hid hbz
    have HLZ := Lib.hid hLz
    clear hX0' hX1' hL3 hb3' hZ hbz hLz
    go_upto_region 3 with fail
    repeat (first | go_skip | go_guarded | go_step | go_upon | go_back)
    subst hln
    refine bodyPost_ret (v := .tuple #[.agg #[.int .i64 m, .int .i64 b, .slice ax l.length cap, .int .i64 c0, .int .i64 c1, .int .i64 c2, .int .i64 c3, .int .i64 c4, .int .i64 c5], .string ⟨#[]⟩, .bool false]) (by simp [results, Try.results40, go_sem, d0, d1, d2, d3, d4, d5, d6, d7, d8]) rfl ⟨none, l, .slice ax l.length cap, rfl, .none hno, HLZ.out, by rw [HG.out]; exact HBZ.out⟩
  · have hkl := hat.lt
    have hd0 : decide ((k : Int) < 0) = false := decide_eq_false (by omega)
    obtain ⟨ax', cap', ev, _, _, _, hrd⟩ := hL3.rdo
    cases ev
    obtain ⟨g, off, rfl, _, _, e2⟩ := hrd k o hat.hk
    have hcm2 : cap ≤ 9223372036854775807 := hcm
    have hkc : k ≤ cap := by omega
    have hkn1 : k + 1 ≤ n := by omega
    have hkc1 : k + 1 ≤ cap := by omega
    have hq0 : (0 : Int) ≤ (k : Int) + 1 := by omega
    have hq1 : (k : Int) + 1 ≤ (n : Int) := by omega
    have hwr : IntKind.i64.wrap ((k : Int) + 1) = (k : Int) + 1 := IntWalk.i64_in _ ⟨by omega, by omega⟩
    obtain ⟨z0, z1, z2, z3, z4, z5, z6, z7, z8⟩ := hX0'.cells9
    go_upto_region 5 with fail
    clear z0 z1 z2 z3 z4 z5 z6 z7 z8 e2 hrd
    have hX0d := hX0'.drew
    have hX1d := hX1'.drew
    have hLd := hL3.later (Below.refl _ _).drew
    have hb3d := hb3'.drew
    have hszd : g0 ≤ w3.drew.heap.size := hsz3
    have hSd := hX0d.cells9.2.2.1
    refine wp_region_noPanic ?_
    refine ordM_begin (fun W : World => W.cell? ⟨g0, 2, none⟩ = some (.slice (some ⟨g, off, none⟩) n cap)) (fun i => i == 13) (by kernel_rfl) hSd ?_
    generalize w3.drew = w4 at hX0d hX1d hLd hb3d hszd hSd ⊢
    refine ordM_take 1 ?vq2 rfl (by kernel_rfl) (by kernel_rfl) (by kernel_rfl) (by kernel_rfl) (fun _ _ _ h => h) (by rfl) ?hq2 (by assumption) ?rq2
    case hq2 => (intro W hSw; (try dsimp only at hSw); go_simp <;> with_reducible rfl)
    (try simp only [Act.put, List.setIfInBounds_toArray, List.set_cons_zero, List.set_cons_succ])
    refine ordM_take 2 ?vq3 rfl (by kernel_rfl) (by kernel_rfl) (by kernel_rfl) (by kernel_rfl) (fun _ _ _ h => h) (by rfl) ?hq3 (by assumption) ?rq3
    case hq3 => (intro W hSw; (try dsimp only at hSw); go_simp <;> with_reducible rfl)
    (try simp only [Act.put, List.setIfInBounds_toArray, List.set_cons_zero, List.set_cons_succ])
    refine ordM_take 3 ?vq4 rfl (by kernel_rfl) (by kernel_rfl) (by kernel_rfl) (by kernel_rfl) (fun _ _ _ h => h) (by rfl) ?hq4 (by assumption) ?rq4
    case hq4 => (intro W hSw; (try dsimp only at hSw); go_simp <;> with_reducible rfl)
    (try simp only [Act.put, List.setIfInBounds_toArray, List.set_cons_zero, List.set_cons_succ])
    refine ordM_take 4 ?vq5 rfl (by kernel_rfl) (by kernel_rfl) (by kernel_rfl) (by kernel_rfl) (fun _ _ _ h => h) (by rfl) ?hq5 (by assumption) ?rq5
    case hq5 => (intro W hSw; (try dsimp only at hSw); go_simp <;> with_reducible rfl)
    (try simp only [Act.put, List.setIfInBounds_toArray, List.set_cons_zero, List.set_cons_succ])
    refine ordM_take 6 ?vq6 rfl (by kernel_rfl) (by kernel_rfl) (by kernel_rfl) (by kernel_rfl) (fun _ _ _ h => h) (by rfl) ?hq6 (by assumption) ?rq6
    case hq6 => (intro W hSw; (try dsimp only at hSw); go_simp <;> with_reducible rfl)
    (try simp only [Act.put, List.setIfInBounds_toArray, List.set_cons_zero, List.set_cons_succ])
    refine ordM_take 7 ?vq7 rfl (by kernel_rfl) (by kernel_rfl) (by kernel_rfl) (by kernel_rfl) (fun _ _ _ h => h) (by rfl) ?hq7 (by assumption) ?rq7
    case hq7 => (intro W hSw; (try dsimp only at hSw); go_simp <;> with_reducible rfl)
    (try simp only [Act.put, List.setIfInBounds_toArray, List.set_cons_zero, List.set_cons_succ])
    refine ordM_take 8 ?vq8 rfl (by kernel_rfl) (by kernel_rfl) (by kernel_rfl) (by kernel_rfl) (fun _ _ _ h => h) (by rfl) ?hq8 (by assumption) ?rq8
    case hq8 => (intro W hSw; (try dsimp only at hSw); go_simp <;> with_reducible rfl)
    (try simp only [Act.put, List.setIfInBounds_toArray, List.set_cons_zero, List.set_cons_succ])
    refine ordM_take 9 ?vq9 rfl (by kernel_rfl) (by kernel_rfl) (by kernel_rfl) (by kernel_rfl) (fun _ _ _ h => h) (by rfl) ?hq9 (by assumption) ?rq9
    case hq9 => (intro W hSw; (try dsimp only at hSw); go_simp <;> with_reducible rfl)
    (try simp only [Act.put, List.setIfInBounds_toArray, List.set_cons_zero, List.set_cons_succ])
    refine ordM_take 10 ?vq10 rfl (by kernel_rfl) (by kernel_rfl) (by kernel_rfl) (by kernel_rfl) (fun _ _ _ h => h) (by rfl) ?hq10 (by assumption) ?rq10
    case hq10 => (intro W hSw; (try dsimp only at hSw); go_simp <;> with_reducible rfl)
    (try simp only [Act.put, List.setIfInBounds_toArray, List.set_cons_zero, List.set_cons_succ])
    generalize hxb : (if cap = k + 1 then some (⟨g, off, none⟩ : Addr) else some ⟨g, off + (k + 1) * 3, none⟩) = xb
    refine ordM_ready [0] (by kernel_rfl) (by simp) ?_
    refine AllReadyM.cons rfl (fun K hK => ?_) AllReadyM.nil
    go_simp
    have hal : Below w4.heap.size w4 (w4.alloc (.cells #[] 84)) := (Below.refl _ _).alloc (Nat.le_refl _) _
    have hlt0 : g0 < w4.heap.size := hX0d.lt
    have hS5 : (w4.alloc (.cells #[] 84)).cell? ⟨g0, 2, none⟩ = some (.slice (some ⟨g, off, none⟩) n cap) := by rw [cell_same (hal.block g0 hlt0)]; exact hSd
    have hE : OwnE (w4.alloc (.cells #[] 84)) w4.heap.size 84 3 (.slice (some ⟨w4.heap.size, 0, none⟩) 0 0) 0 [] := ownE_of (World.ownsRow_lit w4 #[] 0 (Nat.le_refl _) (Nat.zero_le _) rfl)
    obtain ⟨xa, xc, ex, _, hcl5, _⟩ := (hLd.later hal).srcG
    cases ex
    refine hK.out _ _ (fun _ => hS5) ?_
    clear hK K
    (try simp only [Act.put, List.setIfInBounds_toArray, List.set_cons_zero, List.set_cons_succ])
    refine ordM_ready [5] (by kernel_rfl) (by simp) ?_
    refine AllReadyM.cons rfl (fun K hK => ?_) AllReadyM.nil
    refine odStep rfl (.tmp 27) (.tmp 31) rfl w4.heap.size (.slice (some ⟨w4.heap.size, 0, none⟩) 0 0) 0 [] rfl hE (some ⟨g, off, none⟩) k cap (odV (l.take k)) rfl (by rw [odV_len, List.length_take]; omega) (fun e => by cases e) (fun ad had j u hu => hcl5 ad had j u (odV_get l k j u hu)) (odV_one _) (by omega) hal.size (fun a5 k5 w5 hO5 hg5 => ?_)
    rw [Nat.zero_add] at hO5 ⊢
    rw [List.nil_append] at hO5
    have hb5 : Below w4.heap.size w4 w5 := hal.grown hg5 hal.size (fun k hk => by cases hk; exact Nat.le_refl _)
    have hS6 : w5.cell? ⟨g0, 2, none⟩ = some (.slice (some ⟨g, off, none⟩) n cap) := by rw [cell_same (hb5.block g0 hlt0)]; exact hSd
    clear hg5 hcl5 hE hal
    obtain ⟨xa, xc, ex, _, hcl6, _⟩ := (hLd.later hb5).srcG
    cases ex
    refine hK.out _ _ (fun _ => hS6) ?_
    clear hK K
    (try simp only [Act.put, List.setIfInBounds_toArray, List.set_cons_zero, List.set_cons_succ])
    refine ordM_ready [11] (by kernel_rfl) (by simp) ?_
    refine AllReadyM.cons rfl (fun K hK => ?_) AllReadyM.nil
    refine odStep rfl (.tmp 32) (.tmp 37) rfl w4.heap.size (.slice a5 k k5) k (odV (l.take k)) rfl hO5 xb (n - (k + 1)) (cap - (k + 1)) (odV (l.drop (k + 1))) rfl (by rw [odV_len, List.length_drop, hln]) (fun e => by rw [← hxb] at e; split at e <;> cases e) ?x1 (odV_one _) (by omega) hb5.size (fun a6 k6 w6 hO6 hg6 => ?_)
    case x1 =>
      intro ad had j u hu
      have hjl := (List.getElem?_eq_some_iff.1 hu).1
      rw [odV_len, List.length_drop] at hjl
      rw [← hxb, if_neg (by omega)] at had
      cases had
      have := hcl6 _ rfl ((k + 1) * 3 + j) u (odV_get_drop l (k + 1) (by omega) j u hu)
      rw [Addr.add_lit] at this ⊢
      rw [Nat.add_assoc]
      exact this
    have hb6 : Below w4.heap.size w4 w6 := hb5.grown hg6 hb5.size (fun q hq => by
      rcases hO5.1.2 with ⟨e, _⟩ | ⟨g', off', cap', e, hge, _⟩
      · rw [e] at hq; cases hq
      · rw [e] at hq; cases hq; exact hge)
    have hnn : k + (n - (k + 1)) = n - 1 := by omega
    rw [hnn] at hO6 ⊢
    rw [← odV_app] at hO6
    have hX0e := hX0d.later hb6
    have hX1e := hX1d.later hb6
    have hb6' := hb3d.trans (hb6.mono hszd)
    clear hg6 hcl6 hO5 hb5 hS6 hS5 hLd
    obtain ⟨z0, z1, z2, z3, z4, z5, z6, z7, z8⟩ := hX0e.cells9
    obtain ⟨y0, y1, y2, y3, y4, y5, y6, y7, y8⟩ := hX0e.frees9
    refine hK.out _ _ (fun _ => z2) ?_
    clear hK K
    (try simp only [Act.put, List.setIfInBounds_toArray, List.set_cons_zero, List.set_cons_succ])
    refine ordM_take 12 ?vq1 rfl (by kernel_rfl) (by kernel_rfl) (by kernel_rfl) (by kernel_rfl) (fun _ _ _ h => h) (by rfl) ?hq1 (by assumption) ?rq1
    case hq1 => (intro W hSw; (try dsimp only at hSw); go_simp <;> with_reducible rfl)
    (try simp only [Act.put, List.setIfInBounds_toArray, List.set_cons_zero, List.set_cons_succ])
    refine ordM_ready [13] (by kernel_rfl) (by simp) ?_
    refine AllReadyM.cons rfl (fun K hK => ?_) AllReadyM.nil
    go_simp
    refine hK.out _ _ (fun h => absurd h (by decide)) ?_
    clear hK K
    (try simp only [Act.put, List.setIfInBounds_toArray, List.set_cons_zero, List.set_cons_succ])
    refine ordM_done (by kernel_rfl) ?_ _
    refine NoPanic.normal ?_
    clear z0 z1 z2 z3 z4 z5 z6 z7 z8 y0 y1 y2 y3 y4 y5 y6 y7 y8 hX0d hX1d hb3d hSd hb6
    have ho := (Only.refl g0 w6).setCell 2 (.slice a6 (n - 1) k6)
    have hXc := atQ9_set2 hX0e (.slice a6 (n - 1) k6)
    have hXd := hX1e.only hne10 ho
    have hbc := hb6'.trans (ho.below (Nat.le_refl _))
    have hOc := hO6.keep (W' := w6.setCell ⟨g0, 2, none⟩ (.slice a6 (n - 1) k6)) (by rw [ho.size]; exact Nat.le_refl _) (fun k cs hk hc => ho.block k (fun e' => by
      subst e'
      exact blkQ_ne (T := 84) (T' := 34) hc hX0e (by decide) rfl))
    generalize (w6.setCell ⟨g0, 2, none⟩ (.slice a6 (n - 1) k6)) = w7 at hXc hXd hbc hOc ⊢
    clear ho hX0e hX1e hb6' hO6
    obtain ⟨_, _, _, _, _, _, _, _, _⟩ := hXc.cells9
    obtain ⟨_, _, _, _, _, _, _, _, _⟩ := hXd.frees9
    obtain ⟨_, _, _, _, _, _, _, _, _⟩ := hXd.cells9
    have hZ := atQ9_put hXd (.int .i64 m) (.int .i64 b) (.slice a6 (n - 1) k6) (.int .i64 c0) (.int .i64 c1) (.int .i64 c2) (.int .i64 c3) (.int .i64 c4) (.int .i64 c5)
    have hbz := hbc.trans ((put9_only w7 g1 (.int .i64 m) (.int .i64 b) (.slice a6 (n - 1) k6) (.int .i64 c0) (.int .i64 c1) (.int .i64 c2) (.int .i64 c3) (.int .i64 c4) (.int .i64 c5)).below hle1)
    have hLz := hOc.keep (W' := (((((((((w7.setCell ⟨g1, 0, none⟩ (.int .i64 m)).setCell ⟨g1, 1, none⟩ (.int .i64 b)).setCell ⟨g1, 2, none⟩ (.slice a6 (n - 1) k6)).setCell ⟨g1, 3, none⟩ (.int .i64 c0)).setCell ⟨g1, 4, none⟩ (.int .i64 c1)).setCell ⟨g1, 5, none⟩ (.int .i64 c2)).setCell ⟨g1, 6, none⟩ (.int .i64 c3)).setCell ⟨g1, 7, none⟩ (.int .i64 c4)).setCell ⟨g1, 8, none⟩ (.int .i64 c5))) (by rw [(put9_only w7 g1 (.int .i64 m) (.int .i64 b) (.slice a6 (n - 1) k6) (.int .i64 c0) (.int .i64 c1) (.int .i64 c2) (.int .i64 c3) (.int .i64 c4) (.int .i64 c5)).size]; exact Nat.le_refl _) (fun k cs hk hc => (put9_only w7 g1 (.int .i64 m) (.int .i64 b) (.slice a6 (n - 1) k6) (.int .i64 c0) (.int .i64 c1) (.int .i64 c2) (.int .i64 c3) (.int .i64 c4) (.int .i64 c5)).block k (fun e' => by
      subst e'
      exact blkQ_ne (T := 84) (T' := 34) hc hXd (by decide) rfl))
    obtain ⟨d0, d1, d2, d3, d4, d5, d6, d7, d8⟩ := hZ.cells9
    have HBZ := Lib.hid hbz
    have HLZ := Lib.hid hLz
    clear hXc hXd hbc hOc hZ hbz hLz hX0' hX1' hb3' hL3
    repeat (first | go_skip | go_guarded | go_step | go_upon | go_back)
    have hll : (l.take k ++ l.drop (k + 1)).length = n - 1 := by simp; omega
    refine bodyPost_ret (v := .tuple #[.agg #[.int .i64 m, .int .i64 b, .slice a6 (n - 1) k6, .int .i64 c0, .int .i64 c1, .int .i64 c2, .int .i64 c3, .int .i64 c4, .int .i64 c5], .string o.s, .bool true]) (by simp [results, Try.results40, go_sem, d0, d1, d2, d3, d4, d5, d6, d7, d8]) rfl ⟨some o.s, _, .slice a6 (n - 1) k6, rfl, .some k o hat, by rw [hll]; exact (HLZ.out).base (Nat.zero_le _), by rw [HG.out]; exact HBZ.out⟩
end Go.Proofs.Ytbmbomojnljccaa
