/- gaps: leap. -/
import Derived.Test.YtdbmhgfdcdcgfaaGpG
namespace Go.Proofs.Ytdbmhgfdcdcgfaa
open Go.RowKit
set_option linter.unusedVariables false
set_option linter.unusedSimpArgs false
/-- A law of append over a list of operations serves in a drawn region. -/
theorem step_of_list {P : Program} {ops : Array Oper} {o : Oper} {a : Act} {w : World} {K : Act → World → Prop} {Q : Exit → Act → World → Prop} {E : Prop}
    (hg : o.guard = none) (s x : Operand) (t : TypeId) (hop : o.op = Op.call { callee := Callee.builtin Builtin.append, args := #[s, x], argTypes := #[t, t] })
    (h : wpList P ops (fun e a w => e = .normal ∧ K a w) [o] a w) : if Region.wanted o (yielded ops a.tmps) = true then Oper.wp P o a w K Q else E := by
  have hw : Region.wanted o (yielded ops a.tmps) = true := by simp [Region.wanted, hg]
  rw [if_pos hw]
  unfold wpList at h
  rw [if_pos hw] at h
  rcases h with h | ⟨_, h⟩
  · unfold Oper.wp execOp at h ⊢
    simp only [hop, resolve, invoke, builtin, Sem.run_bind, Sem.run_pure, Result.andThen_ok, List.map_toArray, List.map_cons, List.map_nil] at h ⊢
    generalize (Sem.run P (Builtin.append_ #[t, t] o.type #[a.eval s, a.eval x]) w) = r at h ⊢
    cases r with
    | ok v w' => simpa [wpList, Oper.upon] using h
    | halt e w' =>
      exfalso
      cases e <;> simp [Result.andThen, Oper.upon] at h
  · exact absurd h (by simp [LetsOut])
/-- 'append' of one record in a drawn region, behind the making of what is appended. -/
theorem step_recG {P : Program} {w W : World} {ops : Array Oper} {o : Oper} {a : Act} {K : Act → World → Prop} {Q : Exit → Act → World → Prop} {E : Prop}
    (hg : o.guard = none) (s x : Operand) (t : TypeId) (hop : o.op = Op.call { callee := Callee.builtin Builtin.append, args := #[s, x], argTypes := #[t, t] })
    (e : TypeId) (i : TypeInfo) (z : Value) (size bytes : Nat) (h1 : P.underlying t = some (.slice e)) (h2 : P.info? e = some i) (h3 : i.zero = some z) (h4 : i.size = size) (h5 : i.bytes = bytes) (h6 : z.cells.size = size) (h7 : 0 < size)
    (base : Nat) (v : Value) (n : Nat) (xs : List Value) (hs : a.eval s = v) (hown : OwnE w base e size v n xs)
    (cs : Array Value) (hcs : cs.size = size) (hx : a.eval x = .slice (some ⟨w.heap.size, 0, none⟩) 1 1) (h1c : ∀ u ∈ cs.toList, u.oneCell' = true)
    (b1 : n + 1 ≤ maxLen) (b2 : (n + 1) * bytes ≤ 140737488355328) (hbase : base ≤ w.heap.size) (B : Nat) (hB : B ≤ base) (hbel : Below B W w)
    (hK : ∀ ad c w', Hid (OwnE w' base e size (.slice ad (n + 1) c) (n + 1) (xs ++ cs.toList) ∧ Below B W w' ∧ (w.alloc (.cells cs e)).grownBy w' v.ownBlock) → K (a.put o.dst (.slice ad (n + 1) c)) w') :
    if Region.wanted o (yielded ops a.tmps) = true then Oper.wp P o a (w.alloc (.cells cs e)) K Q else E :=
  step_of_list hg s x t hop (append_recG hg s x t hop e i z size bytes h1 h2 h3 h4 h5 h6 h7 base v n xs hs hown cs hcs hx h1c b1 b2 hbase B hB hbel fun v' w' r1 r2 r3 _ => by
    obtain ⟨ad, c, rfl⟩ := r1.formG
    exact ⟨rfl, hK ad c w' (Lib.hid ⟨r1, r2, r3⟩)⟩)
/-- A row of packets isn't the struct. -/
theorem own_apart8 {W : World} {b g n : Nat} {v c0 c1 c2 c3 c4 c5 c6 c7 : Value} {xs : List Value} (h : OwnE W b 69 4 v n xs) (h8 : At8 57 W g c0 c1 c2 c3 c4 c5 c6 c7) : v.ownBlock ≠ some g := fun e => by
  obtain ⟨cs, hcs⟩ := h.2 g e
  unfold At8 at h8
  rw [h8] at hcs
  simp only [Option.some.injEq, Obj.cells.injEq] at hcs
  exact absurd hcs.2.1 (by decide)
/-- New ones that are wanting. -/
def gpNew (S T : Int) (k : Nat) : List GW := (List.range k).map (fun (i : Nat) => ⟨S + (i : Int), T, 0⟩)
theorem gpNew_len (S T : Int) (k : Nat) : (gpNew S T k).length = k := by simp [gpNew]
theorem gpNew_succ (S T : Int) (k : Nat) : gpNew S T (k + 1) = gpNew S T k ++ [⟨S + k, T, 0⟩] := by simp [gpNew, List.range_succ]
theorem gpNew_at (S T : Int) (k : Nat) (x : GW) (h : x ∈ gpNew S T k) : ∃ i : Nat, i < k ∧ x = ⟨S + i, T, 0⟩ := by
  simp only [gpNew, List.mem_map, List.mem_range] at h
  obtain ⟨i, hi, rfl⟩ := h
  exact ⟨i, hi, rfl⟩
theorem gpNew_up (S T : Int) (k : Nat) : GpUp (gpNew S T k) := by
  induction k with
  | zero => exact List.Pairwise.nil
  | succ k ih =>
    rw [gpNew_succ]
    refine List.pairwise_append.2 ⟨ih, List.pairwise_singleton _ _, fun a ha b hb => ?_⟩
    obtain ⟨i, hi, rfl⟩ := gpNew_at _ _ _ _ ha
    simp only [List.mem_singleton] at hb
    subst hb
    show S + (i : Int) < S + (k : Int)
    omega
/-- How many are given up, and where the new ones begin. -/
def gpGive (m gr n : Int) (l : List GW) : Int := max ((l.length : Int) + n - gr - 1 - m) 0
def gpFrom (m gr n : Int) : Int := max (gr + 1) (n - m)
/-- What is wanting behind a leap. -/
def gpLeap (c : GC) (gr n now : Int) (l : List GW) : List GW := (l.take 0 ++ l.drop (min (gpGive c.m gr n l) l.length).toNat) ++ gpNew (gpFrom c.m gr n) (now + c.f) (n - gpFrom c.m gr n).toNat
theorem gpLeap_in {W : World} {base gg : Nat} {c : GC} {cm : Bool} {gr : Int} {v v' : Value} {l : List GW} {gv gv' : Int} {w : World} (h : GIn w base gg c cm gr v l gv) (n now : Int) (hn : gr < n) (hn2 : n ≤ 1099511627776) (hnow : 0 ≤ now ∧ now ≤ 1099511627776)
    (h8 : At8 57 W gg (.int .i64 c.m) (.int .i64 c.t) (.int .i64 c.f) (.int .i64 c.a) (.bool cm) (.int .i64 n) v' (.int .i64 gv'))
    (N : Nat) (hO : OwnE W base 69 4 v' N (gpV c.a (gpLeap c gr n now l))) :
    GIn W base gg c cm n v' (gpLeap c gr n now l) gv' := by
  have hlen := h.len
  have hok := h.ok
  obtain ⟨⟨hm0, hm1⟩, _, ⟨hf0, hf1⟩, _⟩ := hok
  have hgb := h.gb
  have hd1 : (min (gpGive c.m gr n l) l.length).toNat ≤ l.length := by unfold gpGive; omega
  have hll : (gpLeap c gr n now l).length = 0 + (l.length - (min (gpGive c.m gr n l) l.length).toNat) + (n - gpFrom c.m gr n).toNat := by
    unfold gpLeap
    rw [List.length_append, List.length_append, List.length_take, List.length_drop, gpNew_len, Nat.zero_min]
  have hfr : gr + 1 ≤ gpFrom c.m gr n ∧ gpFrom c.m gr n ≤ n := by unfold gpFrom; omega
  have hmem : ∀ x ∈ gpLeap c gr n now l, x ∈ l ∨ ∃ i : Nat, i < (n - gpFrom c.m gr n).toNat ∧ x = ⟨gpFrom c.m gr n + i, now + c.f, 0⟩ := by
    intro x hx
    rcases List.mem_append.1 hx with hx | hx
    · exact .inl (gpMem_del _ _ hx)
    · exact .inr (gpNew_at _ _ _ _ hx)
  have hN : N = (gpLeap c gr n now l).length := by have := hO.1.1; rw [gpV_len] at this; omega
  subst hN
  refine ⟨h.bs, h8, hO, h.ok, ?_, ?_, by omega, fun x hx => ?_, fun x hx => ?_⟩
  · rw [hll]
    unfold gpGive gpFrom
    omega
  · refine List.pairwise_append.2 ⟨gpUp_del h.up _ _ (Nat.zero_le _), gpNew_up _ _ _, fun a ha b hb => ?_⟩
    have h1 := (h.nb a (gpMem_del _ _ ha)).2
    obtain ⟨i, hi, rfl⟩ := gpNew_at _ _ _ _ hb
    show a.n < gpFrom c.m gr n + (i : Int)
    omega
  · rcases hmem x hx with h1 | ⟨i, hi, rfl⟩
    · have := h.nb x h1
      omega
    · show -1099511627776 ≤ gpFrom c.m gr n + (i : Int) ∧ gpFrom c.m gr n + (i : Int) < n
      omega
  · rcases hmem x hx with h1 | ⟨i, hi, rfl⟩
    · exact h.ab x h1
    · show 0 ≤ now + c.f ∧ now + c.f ≤ 1099512676352 ∧ 0 ≤ 100
      omega
set_option maxRecDepth 100000 in
set_option maxHeartbeats 3200000 in
theorem gpLeap_any {w : World} {base gg : Nat} {c : GC} {cm : Bool} {gr : Int} {v : Value} {l : List GW} {gv : Int} (h : GIn w base gg c cm gr v l gv) (n now : Int) (hn : gr < n) (hn2 : n ≤ 1099511627776) (hnow : 0 ≤ now ∧ now ≤ 1099511627776) (hgv : 0 ≤ gv ∧ gv ≤ 1152921504606846976) :
    Calls Try.prog 30 #[.pointer (some ⟨gg, 0, none⟩), .int .i64 n, .int .i64 now] w fun e w' => e = .returned (.int .i64 (gpGive c.m gr n l)) ∧ (∃ v', GIn w' base gg c cm n v' (gpLeap c gr n now l) (gv + gpGive c.m gr n l)) ∧ Below base w w' ∧ KeptG w w' := by
  obtain ⟨i0, hi, hz0, hz1, hz2⟩ := info_parts info_pkt
  have HI := Lib.hid h
  have hsm := h.small
  have hlen := h.len
  obtain ⟨⟨hm0, hm1⟩, _, ⟨hf0, hf1⟩, ha0, ha1⟩ := h.ok
  have hgb := h.gb
  obtain ⟨d, hd, hdl⟩ : ∃ d : Nat, d = (min (gpGive c.m gr n l) l.length).toNat ∧ ((d : Int) = min (max ((l.length : Int) + n - gr - 1 - c.m) 0) (l.length : Int)) := ⟨_, rfl, by unfold gpGive; omega⟩
  have hdle : d ≤ l.length := by omega
  have HD := Lib.hid (fun q => gpDelete_any (h.later (below_drewN (Below.refl w.heap.size w) q)).own (by omega) 0 d (Nat.zero_le _) hdle)
  have HDD := Lib.hid hd
  obtain ⟨a, cap, e, _, _, _, _⟩ := h.own.rdg
  cases e
  obtain ⟨_, _, _, _, _, _, _, _⟩ := h.at8.cells
  have h8 := h.at8
  clear h hd
  go_enter Try.func30, Try.ntmps30
  go_upto_region 1 with fail
  go_quiet (fail)
  have HGI := Lib.hid (show max ((l.length : Int) + n - gr - 1 - c.m) 0 = gpGive c.m gr n l from rfl)
  have HUB : 0 ≤ gpGive c.m gr n l ∧ gpGive c.m gr n l ≤ 4398046511104 := by unfold gpGive; omega
  rw [HGI.out] at hdl
  rw [HGI.out]
  generalize hU : gpGive c.m gr n l = U at *
  have HU := Lib.hid hU
  clear hU
  have hdl2 : min U (l.length : Int) = (d : Int) := hdl.symm
  clear hdl
  generalize hq0 : l.length = ln at *
  have HLN := Lib.hid hq0
  clear hq0
  have HBQ := Lib.hid (fun (q : Nat) (W : World) (hk : Below base (w.drewN q) W) => (below_drewN (Below.refl base w) q).trans hk)
  have HDS := Lib.hid (fun (q : Nat) (W : World) (a4 : Option Addr) (c4 : Nat) (hO : OwnE W base 69 4 (.slice a4 (0 + (ln - d)) c4) (0 + (ln - d)) (gpV c.a (l.take 0 ++ l.drop d))) (hv : Value.ownBlock (.slice a4 (0 + (ln - d)) c4) = Value.ownBlock (.slice a ln cap)) (hR : RowK (Value.ownBlock (.slice a ln cap)) (w.drewN q) W) (hk : Below base (w.drewN q) W) =>
    (by
      have h1 := (HI.out.later (below_drewN (Below.refl w.heap.size w) q))
      have h2 := h1.delSet 0 d (Nat.zero_le _) (by rw [HLN.out]; exact hdle) (by rw [HLN.out]; exact hO) hv hR hk
      rw [Nat.zero_add] at h2
      exact ⟨h2.1, (HBQ.out q _ h2.2.1), (keptG_below (below_drewN (Below.refl w.heap.size w) q)).trans h2.2.2⟩ : GIn (W.setCell ⟨gg, 6, none⟩ (.slice a4 (ln - d) c4)) base gg c cm gr (.slice a4 (ln - d) c4) (l.take 0 ++ l.drop d) gv ∧ Below base w (W.setCell ⟨gg, 6, none⟩ (.slice a4 (ln - d) c4)) ∧ KeptG w (W.setCell ⟨gg, 6, none⟩ (.slice a4 (ln - d) c4))))
  go_upto_region 2 with fail
  go_cut [43] (fun y wz => ∃ v', GIn wz base gg c cm gr v' (l.take 0 ++ l.drop d) gv ∧ Below base w wz ∧ KeptG w wz)
  case first =>
    go_region_law (first | (go_simp; go_at_call 34; refine (HD.out _).mono ?_; rintro e w4 ⟨v4, rfl, hO4, hv4, hR4, hk4⟩; obtain ⟨a4, c4, rfl⟩ := hO4.formG; have HZ := HDS.out _ _ _ _ hO4 hv4 hR4 hk4; obtain ⟨_, _, _, _, _, _, _, _⟩ := (hR4.at8 (show At8 57 (w.drewN _) gg (.int .i64 c.m) (.int .i64 c.t) (.int .i64 c.f) (.int .i64 c.a) (.bool cm) (.int .i64 gr) _ (.int .i64 gv) from h8) HI.out.apart).cells; obtain ⟨_, _, _, _, _, _, _, _⟩ := (hR4.at8 (show At8 57 (w.drewN _) gg (.int .i64 c.m) (.int .i64 c.t) (.int .i64 c.f) (.int .i64 c.a) (.bool cm) (.int .i64 gr) _ (.int .i64 gv) from h8) HI.out.apart).frees))
    all_goals
      go_wp2_with fail
      go_meet
      exact ⟨_, HZ.1, HZ.2.1, HZ.2.2⟩
  case rest =>
  obtain ⟨v5, hG5, hb5, hK5⟩ := hcut
  rename World => w5
  clear HDS HBQ HD
  obtain ⟨a5, c5, rfl⟩ := hG5.own.formG
  obtain ⟨_, _, _, _, _, _, _, _⟩ := hG5.at8.cells
  go_upto_region 3 with fail
  go_quiet (fail)
  have HSS := Lib.hid (show max (gr + 1) (n - c.m) = gpFrom c.m gr n from rfl)
  have HSB : gr + 1 ≤ gpFrom c.m gr n ∧ gpFrom c.m gr n ≤ n ∧ n - gpFrom c.m gr n ≤ c.m := by unfold gpFrom; omega
  have hsm5 := hG5.small
  have hG6 := hG5.later (below_drewN (Below.refl w5.heap.size w5) nq)
  have hb6 := hb5.trans ((below_drewN (Below.refl base w5) nq))
  have hK6 := hK5.trans (keptG_below (below_drewN (Below.refl w5.heap.size w5) nq))
  rw [HSS.out]
  generalize hS : gpFrom c.m gr n = S at *
  have HS := Lib.hid hS
  clear hS
  generalize w5.drewN nq = w6 at hG6 hb6 hK6 ⊢
  clear hG5 hb5 hK5
  have hX6 := hG6.at8
  have hO6 := hG6.own
  have HL0 : Hid (l.take 0 ++ l.drop d = l.take 0 ++ l.drop d) := Lib.hid rfl
  have HLL0 : Hid ((l.take 0 ++ l.drop d).length = 0 + (ln - d)) := Lib.hid (by rw [List.length_append, List.length_take, List.length_drop, Nat.zero_min, HLN.out])
  generalize hL0 : l.take 0 ++ l.drop d = L0 at hO6 hX6 hsm5 HLL0
  have HL1 := Lib.hid hL0
  clear hL0
  clear hG6
  have hbs := HI.out.bs
  go_wp2_with fail
  go_loopw [8] (fun i wr => ∃ (j : Nat) (v' : Value), j ≤ (n - S).toNat ∧ i = .int .i64 (S + (j : Int)) ∧ At8 57 wr gg (.int .i64 c.m) (.int .i64 c.t) (.int .i64 c.f) (.int .i64 c.a) (.bool cm) (.int .i64 gr) v' (.int .i64 gv) ∧ OwnE wr base 69 4 v' (L0.length + j) (gpV c.a (L0 ++ gpNew S (now + c.f) j)) ∧ Below base w wr ∧ KeptG w wr) (fun i _ => (n - intOf i).toNat)
  case atStart => exact ⟨0, _, Nat.zero_le _, by simp, hX6, by simpa [gpNew] using hO6, hb6, hK6⟩
  case round =>
    obtain ⟨j, v', hj, rfl, hX, hO, hb, hK⟩ := hrel
    clear hX6 hO6 hb6 hK6
    obtain ⟨a', c', rfl⟩ := hO.formG
    obtain ⟨_, _, _, _, _, _, _, _⟩ := hX.cells
    by_cases hlt : j < (n - S).toNat
    · have hlt2 : S + (j : Int) < n := by omega
      have hcnt : (n - S).toNat ≤ 4398046511104 := by omega
      have hll5 : L0.length ≤ 1024 := hsm5
      have HN1 := Lib.hid (gpNew_succ S (now + c.f) j)
      have HB2 : Hid (base ≤ wr.drew.heap.size) := Lib.hid (by have h1 := hX.lt; have h2 := hbs; show base ≤ wr.heap.size; omega)
      have HM1 : Hid (L0.length + j + 1 ≤ maxLen) := Lib.hid (by unfold maxLen; omega)
      have HM2 : Hid ((L0.length + j + 1) * 32 ≤ 140737488355328) := Lib.hid (by omega)
      have HONE : Hid (∀ u ∈ (#[Value.int .i64 (S + (j : Int)), .int .i64 (now + c.f), .int .i64 c.a, .int .i64 0] : Array Value).toList, u.oneCell' = true) := Lib.hid (by simp [Value.oneCell'])
      have HAL := Lib.hid (hX.drew.later ((Below.refl _ _).alloc (Nat.le_refl _) (.cells #[.int .i64 (S + (j : Int)), .int .i64 (now + c.f), .int .i64 c.a, .int .i64 0] 69)))
      have HAP := Lib.hid (own_apart8 hO hX)
      have HOT := Lib.hid (hO.alloc (.cells #[.int .i64 (S + (j : Int)), .int .i64 (now + c.f), .int .i64 c.a, .int .i64 0] 69)).2
      have hwr : IntKind.i64.wrap (now + c.f) = now + c.f := by rw [IntKind.wrap_i64]; omega
      obtain ⟨_, _, _, _, _, _, _, _⟩ := (hX.later ((Below.refl _ _).alloc (Nat.le_refl _) (.cells #[.int .i64 (S + (j : Int)), .int .i64 (now + c.f), .int .i64 c.a, .int .i64 0] 69))).cells
      go_upto_region 6 with fail
      go_region_law (refine step_recG (w := wr.drew) (W := w) rfl (.tmp 66) (.tmp 81) 55 rfl 69 i0 (.agg #[.int .i64 0, .int .i64 0, .int .i64 0, .int .i64 0]) 4 32 Try.underlying55 hi hz0 hz1 hz2 rfl (by decide) base (.slice a' (L0.length + j) c') (L0.length + j) (gpV c.a (L0 ++ gpNew S (now + c.f) j)) (by simp [Act.eval, Act.put]) hO.drew #[.int .i64 (S + (j : Int)), .int .i64 (now + c.f), .int .i64 c.a, .int .i64 0] rfl (by simp [Act.eval, Act.put]) HONE.out HM1.out HM2.out HB2.out base (Nat.le_refl _) hb.drew ?_; intro ad cq w7 H7; have HX7 := Lib.hid (HAL.out.grown H7.out.2.2 HAP.out); obtain ⟨_, _, _, _, _, _, _, _⟩ := HX7.out.cells; obtain ⟨_, _, _, _, _, _, _, _⟩ := HX7.out.frees)
      all_goals
        have ho8 := (Only.refl gg w7).setCell 6 (.slice ad (L0.length + j + 1) cq)
        have hX8 := at8_set6 HX7.out (.slice ad (L0.length + j + 1) cq)
        have hO8 : OwnE (w7.setCell ⟨gg, 6, none⟩ (.slice ad (L0.length + j + 1) cq)) base 69 4 (.slice ad (L0.length + j + 1) cq) (L0.length + j + 1) (gpV c.a (L0 ++ gpNew S (now + c.f) (j + 1))) := by
          rw [HN1.out, ← List.append_assoc, gpV_snoc]
          refine H7.out.1.keep (by rw [ho8.size]; exact Nat.le_refl _) (fun k cs hk _ => ho8.block k (fun e => ?_))
          exact own_apart8 H7.out.1 HX7.out (by rw [hk, e])
        have HF := Lib.hid (show At8 57 _ gg _ _ _ _ _ _ _ _ ∧ OwnE _ _ _ _ _ _ _ ∧ Below base w _ ∧ KeptG w _ from ⟨hX8, hO8, H7.out.2.1.trans (ho8.below hbs), ((hK.drew.trans (keptG_below ((Below.refl _ _).alloc (Nat.le_refl _) _))).trans (keptG_row HOT.out H7.out.2.2)).trans (keptG_only HX7.out ho8)⟩)
        clear hO8 hX8 ho8
        go_wp2_with fail
        go_roundw
        case rel => exact ⟨j + 1, _, by omega, by go_num, HF.out.1, HF.out.2.1, HF.out.2.2.1, HF.out.2.2.2⟩
        case measure => simp [intOf]; omega
    · obtain rfl : j = (n - S).toNat := by omega
      have hje : S + ((n - S).toNat : Int) = n := by omega
      have hX1 := at8_set7 (at8_set5 hX (.int .i64 n)) (.int .i64 (gv + U))
      have ho := ((Only.refl gg wr).setCell 5 (.int .i64 n)).setCell 7 (.int .i64 (gv + U))
      have hO1 := hO.keep (W' := (wr.setCell ⟨gg, 5, none⟩ (.int .i64 n)).setCell ⟨gg, 7, none⟩ (.int .i64 (gv + U))) (by rw [ho.size]; exact Nat.le_refl _) (fun k cs hk _ => ho.block k (fun e => own_apart8 hO hX (by rw [hk, e])))
      have HF := Lib.hid (show At8 57 _ gg _ _ _ _ _ _ _ _ ∧ OwnE _ _ _ _ _ _ _ ∧ Below base w _ ∧ KeptG w _ from ⟨hX1, hO1, hb.trans (ho.below hbs), hK.trans (keptG_only hX ho)⟩)
      obtain ⟨_, _, _, _, _, _, _, _⟩ := hX.frees
      clear hX1 ho hO1 hO hX hb hK
      rw [hje]
      go_wp2_with fail
      go_ret
      have e1 := HU.out
      have e2 := HS.out
      have e3 := HL1.out
      have e4 := HLN.out
      subst e1 e2 e3 e4
      have e5 := HDD.out
      subst e5
      exact ⟨rfl, ⟨_, gpLeap_in HI.out n now hn hn2 hnow HF.out.1 _ HF.out.2.1⟩, HF.out.2.2.1, HF.out.2.2.2⟩

end Go.Proofs.Ytdbmhgfdcdcgfaa
