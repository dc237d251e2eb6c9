/- ShareScales: the walk. -/
import Derived.Test.YtaiekbhpgbmalaaShFairW
import Derived.Maps.AppendAt
namespace Go.Proofs.Ytaiekbhpgbmalaa
open Go.RowKit
set_option linter.unusedVariables false
set_option linter.unusedSimpArgs false
/-- 'append' of one record, and where the row lies then. -/
theorem append_recL {P : Program} {w W : World} {ops : Array Oper} {rest : List Oper} {o : Oper} {a : Act} {Q : Exit → Act → World → Prop} (hgd : o.guard = none) (s x : Operand) (t : TypeId)
    (ho : o.op = .call { callee := .builtin .append, args := #[s, x], argTypes := #[t, t] })
    (base : Nat) (e : TypeId) (i : TypeInfo) (z : Value) (size bytes : Nat) (ht : P.underlying t = some (.slice e)) (hi : P.info? e = some i) (hz : i.zero = some z)
    (hsize : i.size = size) (hby : i.bytes = bytes) (hzs : z.cells.size = size) (h0 : 0 < size)
    (v : Value) (n : Nat) (xs : List Value) (hs : a.eval s = v) (hown : w.ownsRow base e size v n xs)
    (cs : Array Value) (hcs : cs.size = size) (hx : a.eval x = .slice (some ⟨w.heap.size, 0, none⟩) 1 1) (h1 : ∀ u ∈ cs.toList, u.oneCell' = true)
    (h63 : n + 1 ≤ maxLen) (hbytes : (n + 1) * bytes ≤ 140737488355328) (B : Nat) (hB : B ≤ base) (hbase : base ≤ w.heap.size) (hbel : Below B W w)
    (h : ∀ v' w', w'.ownsRow base e size v' (n + 1) (xs ++ cs.toList) → Below B W w' → (w.alloc (.cells cs e)).grownBy w' v.ownBlock → (v'.ownBlock = v.ownBlock ∨ v'.ownBlock = some (w.heap.size + 1)) → wpList P ops Q rest (a.put o.dst v') w') :
    wpList P ops Q (o :: rest) a (w.alloc (.cells cs e)) := by
  refine wpList_append_own_at _ hgd s x t ho base e i z size bytes ht hi hz hsize hby hzs h0 v n xs hs (hown.alloc _) ⟨w.heap.size, 0, none⟩ 1 1 cs.toList hx (by simp [hcs]) ?_ h1 h63 hbytes ?_ ?_
  · intro j u hj
    rw [addr_addS, cell_of_row _ w.heap.size j cs e (0, 0) (heap_alloc_new w _), ← Array.getElem?_toList]
    exact hj
  · simp; omega
  · intro v' w' hown' hgrow _ hloc
    refine h v' w' hown' ?_ hgrow (by simpa using hloc)
    refine (hbel.alloc (by omega) _).grown hgrow (by simp; omega) ?_
    intro k hk
    exact Nat.le_trans hB (hown.lt k hk).1
/-- Two rows that share no block. -/
def RowNe (v u : Value) : Prop := ∀ q, v.ownBlock = some q → u.ownBlock ≠ some q
theorem RowNe.symm {v u : Value} (h : RowNe v u) : RowNe u v := fun q h1 h2 => h q h2 h1
theorem rowNe_nil (u : Value) : RowNe (.slice none 0 0) u := fun q h => by cases h
theorem row_keptN {W W' : World} {B e m n : Nat} {v u : Value} {xs : List Value} (h : W.ownsRow B e m v n xs) (hg : W.grownBy W' u.ownBlock) (hne : RowNe u v) : W'.ownsRow B e m v n xs := by
  refine h.kept hg ?_
  cases hv : v.ownBlock with
  | none => exact .inl rfl
  | some q => exact .inr (fun e => hne q e.symm hv)
/-- Behind an append to u: v's row stays, and stays apart. -/
theorem rowNe_next {W : World} {B e m n : Nat} {v u u' : Value} {xs : List Value} (h : W.ownsRow B e m v n xs) (hne : RowNe u v) (hl : u'.ownBlock = u.ownBlock ∨ u'.ownBlock = some (W.heap.size + 1)) : RowNe u' v := fun q h1 h2 => by
  rcases hl with e | e
  · exact hne q (e ▸ h1) h2
  · rw [e] at h1
    cases h1
    have := (h.lt _ h2).2
    omega
theorem row_keptB {W W' : World} {B B2 e e2 m m2 n n2 : Nat} {v u : Value} {xs xs2 : List Value} (h : W.ownsRow B e m v n xs) (hk : ∀ k, k < W.heap.size → u.ownBlock ≠ some k → W'.heap[k]? = W.heap[k]?) (hne : RowNe u v) : W'.ownsRow B e m v n xs := by
  refine ⟨h.1, ?_⟩
  rcases h.2 with h0 | ⟨g, cap, cur, e1, q1, q2, q3⟩
  · exact .inl h0
  · refine .inr ⟨g, cap, cur, e1, q1, ?_, q3⟩
    rw [hk g (lt_of_block q2) (fun e => hne g e (by rw [e1]; rfl))]
    exact q2
theorem at1_kb {W W' : World} {B g g2 : Nat} {T : TypeId} {v : Value} (h : At1 T W g v) (hk : KB W.heap.size g2 W W') (hne : g ≠ g2) : At1 T W' g v := by
  unfold At1 at h ⊢
  rw [hk g (lt_of_block h) hne]
  exact h
theorem at1_but {W W' : World} {B2 e2 m2 n2 g : Nat} {T : TypeId} {v v2 : Value} {xs2 : List Value} (h : At1 T W g v) (h2 : W.ownsRow B2 e2 m2 v2 n2 xs2) (hk : ∀ k, k < W.heap.size → v2.ownBlock ≠ some k → W'.heap[k]? = W.heap[k]?) (hne : T ≠ e2) : At1 T W' g v := by
  unfold At1 at h ⊢
  rw [hk g (lt_of_block h) (fun e => row_neL h2 h hne e.symm)]
  exact h
/-- Weights so many times as great. -/
def wsT (T m : Int) (z : List Int) (n : Nat) : List (Int × Int) := (wsF m z n).map (fun x => (x.1, x.2 * T))
theorem wsT_succ (T m : Int) (z : List Int) (n : Nat) : wsT T m z (n + 1) = wsT T m z n ++ [(1 + (n : Int), wqF m z n * T)] := by simp [wsT, wsF]
theorem wsT_len (T m : Int) (z : List Int) (n : Nat) : (wsT T m z n).length = n := by rw [wsT, List.length_map, wsF_len]
theorem wsT_up (T m : Int) (z : List Int) (n : Nat) : WhUp (wsT T m z n) := by
  unfold WhUp wsT
  rw [List.pairwise_map]
  exact wsF_up m z n
theorem wsF_bdA (m : Int) (z : List Int) (h : 0 < m) : ∀ n, ∀ x ∈ wsF m z n, 1 ≤ x.2 ∧ x.2 ≤ m := by
  intro n
  induction n with
  | zero => simp [wsF]
  | succ n ih =>
    intro x hx
    rcases List.mem_append.1 hx with h1 | h1
    · exact ih x h1
    · simp at h1; subst h1; exact wqF_bd m z n h
theorem mulT {q T : Int} (h1 : 1 ≤ q) (h2 : q ≤ 2048) (t1 : 1 ≤ T) (t2 : T ≤ 16) : 1 ≤ q * T ∧ q * T ≤ 32768 := by
  have a := Int.mul_le_mul h1 t1 (by omega) (by omega)
  have b := Int.mul_le_mul h2 t2 (by omega) (by omega)
  omega
theorem ldW_times (T : Int) (z : List Int) (n : Nat) (t1 : 1 ≤ T) (t2 : T ≤ 16) : ldW (wsT T 2048 z n) = (ldW (wsF 2048 z n)).map (timesS T) := by
  unfold ldW
  rw [wsF_clip 2048 z (by decide) (by decide), List.map_map]
  unfold wsT clipW
  rw [List.map_map, List.map_map]
  refine List.map_congr_left (fun x hx => ?_)
  obtain ⟨h1, h2⟩ := wsF_bdA 2048 z (by decide) n x hx
  obtain ⟨h3, h4⟩ := mulT h1 h2 t1 t2
  simp only [Function.comp, timesS, clipK]
  congr 1
  omega
theorem shOk_times {T : Int} {ls : List SL} (h : ShOk ls) (t1 : 1 ≤ T) (t2 : T ≤ 16) (hw : ∀ x ∈ ls, x.w ≤ 2048) : ShOk (ls.map (timesS T)) := by
  refine ⟨?_, fun y hy => ?_, fun y hy => ?_⟩
  · rw [List.pairwise_map]
    exact h.up
  · obtain ⟨x, hx, rfl⟩ := List.mem_map.1 hy
    have a := (h.w0 x hx).1
    have b := hw x hx
    obtain ⟨h3, h4⟩ := mulT (by omega) b t1 t2
    show 1 ≤ x.w * T ∧ x.w * T ≤ 65535
    omega
  · obtain ⟨x, hx, rfl⟩ := List.mem_map.1 hy
    exact h.c0 x hx
theorem FairInv.wle {es : List Int} {n k : Nat} {most : Int} {ls : List SL} (h : FairInv 2048 es n k most ls) : ∀ x ∈ ls, x.w ≤ 2048 := fun x hx => by
  have h1 : (x.p, x.w) ∈ wsF 2048 es n := by
    rw [← h.ws]
    exact List.mem_map_of_mem (f := fun x : SL => (x.p, x.w)) hx
  exact (wsF_bdA 2048 es (by decide) n _ h1).2
theorem pickS_times {T : Int} {x : SL} {l : List SL} {may : List Int} (t1 : 1 ≤ T) (h : ∀ y ∈ x :: l, y.p ∈ may) : pickS ((x :: l).map (timesS T)) may = ((minS x l).p, true) := by
  unfold pickS
  rw [ableS_all (fun y hy => by
    obtain ⟨y', hy', rfl⟩ := List.mem_map.1 hy
    exact h y' hy')]
  show ((minS (timesS T x) (l.map (timesS T))).p, true) = _
  rw [minS_times T (by omega)]
  rfl
namespace shareScales
set_option maxRecDepth 100000 in
set_option maxHeartbeats 12800000 in
theorem walk (p0 : Option Addr) (len0 cap0 : Nat) (z0 : List Int) (p1 : Option Addr) (len1 cap1 : Nat) (z1 : List Int) (a2 : Int) (hwf2 : (Lit.int .i64 a2).wf = true) (w : World) (hrow0 : IsRow .i64 w p0 len0 cap0 z0) (hrow1 : IsRow .i64 w p1 len1 cap1 z1) :
    Calls Try.prog 3 #[.slice p0 len0 cap0, .slice p1 len1 cap1, .int .i64 a2] w fun e w' => e = .returned (.bool true) ∧ Below w.heap.size w w' := by
  obtain ⟨es, rfl, l1, l2, hr0, hwf0⟩ := hrow0.reads
  obtain ⟨fs, rfl, m1, m2, hr1, hwf1⟩ := hrow1.reads
  clear hrow0 hrow1 hwf0 hwf1 hwf2
  have HR0 := Lib.hid (fun (W : World) (h : Below w.heap.size w W) => hr0.later h)
  have HR1 := Lib.hid (fun (W : World) (h : Below w.heap.size w W) => hr1.later h)
  have HA := Lib.hid (fun W => shAwake_any W)
  have HN := Lib.hid (fun W => shNew_any W)
  have hm15 : bits .and .i64 a2 15 = a2 % 16 := i64_mask a2 4 (by omega)
  have hm : ∀ z : Int, bits .and .i64 z 2047 = z % 2048 := fun z => i64_mask z 11 (by omega)
  have hwT : IntKind.i64.wrap (1 + a2 % 16) = 1 + a2 % 16 := IntWalk.i64_in _ ⟨by omega, by omega⟩
  obtain ⟨i0, hi, hz0, hz1, hz2⟩ := info_parts info_weight
  obtain ⟨j0, hj, hy0, hy1, hy2⟩ := info_parts info_intS
  clear hr0 hr1
  go_enter Try.func3, Try.ntmps3
  go_wp2_with fail
  refine (HA.out _).mono ?_
  rintro e w1 ⟨rfl, hk1⟩
  go_wp2_with (rw [hm15])
  try rw [hwT]
  obtain ⟨T, hT⟩ : ∃ T, 1 + a2 % 16 = T := ⟨_, rfl⟩
  have t1 : 1 ≤ T := by omega
  have t2 : T ≤ 16 := by omega
  try rw [hT]
  try rw [hT] at hwT
  refine (HN.out _).mono ?_
  rintro e w2 ⟨rfl, hS2, hk2⟩
  go_wp2_with fail
  refine (HN.out _).mono ?_
  rintro e w3 ⟨rfl, hT3, hk3⟩
  have hS3 := hS2.later hk3
  have hb2 := hk1.trans (hk2.mono hk1.size)
  have hb3 := hb2.trans (hk3.mono hb2.size)
  have hgs := hS2.lt
  have hgt := hT3.lt
  have hBw := hk1.size
  have hst : w1.heap.size ≠ w2.heap.size := by omega
  have hBt : w.heap.size ≤ w2.heap.size := hb2.size
  obtain ⟨B, hB⟩ : ∃ B, w3.heap.size = B := ⟨_, rfl⟩
  have hszB : B ≤ w3.heap.size := by omega
  have hgsB : w1.heap.size < B := by have := hk3.size; omega
  have hgtB : w2.heap.size < B := by omega
  generalize w1.heap.size = gs at hS3 hBw hst hgsB ⊢
  generalize w2.heap.size = gt at hT3 hst hgtB hBt ⊢
  clear hk1 hk2 hk3 HA HN hS2 hb2 hgs hgt hB hm15 hT hwT
  go_upto_block 0 with fail
  go_cut [9, 10, 11] (fun l r may wx => ∃ n : Nat, n ≤ 5 ∧ wx.ownsRow B 28 2 l n (whV (wsF 2048 es n)) ∧ wx.ownsRow B 28 2 r n (whV (wsT T 2048 es n)) ∧ RowNe l r ∧ wx.ownsRow B 3 1 may n ((mayF n).map (Value.int .i64)) ∧ At1 38 wx gs (.slice none 0 0) ∧ At1 38 wx gt (.slice none 0 0) ∧ Below w.heap.size w wx ∧ B ≤ wx.heap.size)
  case first =>
    go_wp2_with fail
    go_loopw [9, 10, 11, 12] (fun l r may i wr => ∃ k : Nat, k ≤ es.length ∧ k ≤ 5 ∧ i = .int .i64 k ∧ wr.ownsRow B 28 2 l k (whV (wsF 2048 es k)) ∧ wr.ownsRow B 28 2 r k (whV (wsT T 2048 es k)) ∧ RowNe l r ∧ wr.ownsRow B 3 1 may k ((mayF k).map (Value.int .i64)) ∧ At1 38 wr gs (.slice none 0 0) ∧ At1 38 wr gt (.slice none 0 0) ∧ Below w.heap.size w wr ∧ B ≤ wr.heap.size) (fun _ _ _ i _ => es.length - (intOf i).toNat)
    case atStart => exact ⟨0, Nat.zero_le _, by decide, rfl, World.ownsRow_nil _ _ _ _, World.ownsRow_nil _ _ _ _, rowNe_nil _, World.ownsRow_nil _ _ _ _, hS3, hT3, hb3, hszB⟩
    case round =>
      obtain ⟨k, hk, hk5, rfl, hL, hR, hne, hM, hS, hTt, hb, hsz⟩ := hrel
      clear hS3 hT3 hb3 hszB
      obtain ⟨al, cl, rfl⟩ := row_form hL
      obtain ⟨ar, cr, rfl⟩ := row_form hR
      obtain ⟨am, cm, rfl⟩ := row_form hM
      by_cases hlt : k < es.length ∧ k < 5
      · obtain ⟨h1, h2⟩ := hlt
        obtain ⟨b0, o0, rfl, hc0⟩ := readsI_at (HR0.out wr hb) h1
        have hq := wqF_bd 2048 es k (by decide)
        have hqT := mulT hq.1 hq.2 t1 t2
        have hwq : wqF 2048 es k = 1 + es[k]?.getD 0 % 2048 := rfl
        have HW : Hid (wsF 2048 es (k + 1) = wsF 2048 es k ++ [(1 + (k : Int), wqF 2048 es k)]) := Lib.hid rfl
        have HWT := Lib.hid (wsT_succ T 2048 es k)
        have HM : Hid (mayF (k + 1) = mayF k ++ [1 + (k : Int)]) := Lib.hid rfl
        generalize wqF 2048 es k = q at hq hqT hwq HW HWT
        have hw1 : IntKind.i64.wrap (1 + (k : Int)) = 1 + (k : Int) := IntWalk.i64_in _ ⟨by omega, by omega⟩
        have hw2 : IntKind.i64.wrap (1 + es[k]?.getD 0 % 2048) = q := by rw [← hwq]; exact IntWalk.i64_in _ ⟨by omega, by omega⟩
        have hw3 : IntKind.i64.wrap (q * T) = q * T := IntWalk.i64_in _ ⟨by omega, by omega⟩
        generalize es[k]?.getD 0 = zk at hc0 hwq hw2
        subst hwq
        have g1 : (0 : Int) ≤ (k : Int) := by omega
        have g2 : (k : Int) < (es.length : Int) := by omega
        have g3 : (k : Int) < 5 := by omega
        go_upto_region 13 with fail
        try simp only [hm, hw2]
        generalize 1 + zk % 2048 = q at *
        go_wp2_with (at_builtin; refine append_recL (w := wr) rfl (.tmp 48) (.tmp 53) 26 rfl B 28 i0 (.agg #[.int .i64 0, .int .i64 0]) 2 16 Try.underlying26 hi hz0 hz1 hz2 rfl (by decide) (.slice al k cl) k (whV (wsF 2048 es k)) rfl hL #[.int .i64 (1 + (k : Int)), .int .i64 q] rfl rfl ?d1 ?d2 ?d3 w.heap.size (by omega) hsz hb ?_)
        case d1 => simp [Value.oneCell']
        case d2 => unfold maxLen; omega
        case d3 => omega
        intro v3 w4 hL3 hb4 hg4 hl4
        have hal : Below wr.heap.size wr (wr.alloc (.cells #[.int .i64 (1 + (k : Int)), .int .i64 q] 28)) := (Below.refl _ _).alloc (Nat.le_refl _) _
        have hR4 := row_keptN (own_laterS hR hal) hg4 hne
        have hne4 := rowNe_next hR hne hl4
        have hM4 := row_other (own_laterS hM hal) (own_laterS hL hal) hg4 (by decide)
        have hS4 := at1_other (hS.later hal) (own_laterS hL hal) hg4 (by decide)
        have hT4 := at1_other (hTt.later hal) (own_laterS hL hal) hg4 (by decide)
        have hsz4 : B ≤ w4.heap.size := Nat.le_trans hsz (Nat.le_trans hal.size hg4.size)
        have hL4 : w4.ownsRow B 28 2 v3 (k + 1) (whV (wsF 2048 es (k + 1))) := by rw [HW.out, whV_snoc]; exact hL3
        obtain ⟨a3, c3, rfl⟩ := row_form hL4
        clear hL3 hL hR hM hS hTt hb hsz hg4 hal hc0 hne hl4
        go_wp2_with (at_builtin; refine append_recL (w := w4) rfl (.tmp 55) (.tmp 62) 26 rfl B 28 i0 (.agg #[.int .i64 0, .int .i64 0]) 2 16 Try.underlying26 hi hz0 hz1 hz2 rfl (by decide) (.slice ar k cr) k (whV (wsT T 2048 es k)) rfl hR4 #[.int .i64 (1 + (k : Int)), .int .i64 (q * T)] rfl rfl ?d1 ?d2 ?d3 w.heap.size (by omega) hsz4 hb4 ?_)
        case d1 => simp [Value.oneCell']
        case d2 => unfold maxLen; omega
        case d3 => omega
        intro v5 w5 hR5 hb5 hg5 hl5
        have hal : Below w4.heap.size w4 (w4.alloc (.cells #[.int .i64 (1 + (k : Int)), .int .i64 (q * T)] 28)) := (Below.refl _ _).alloc (Nat.le_refl _) _
        have hL5 := row_keptN (own_laterS hL4 hal) hg5 hne4.symm
        have hne5 := (rowNe_next hL4 hne4.symm hl5).symm
        have hM5 := row_other (own_laterS hM4 hal) (own_laterS hR4 hal) hg5 (by decide)
        have hS5 := at1_other (hS4.later hal) (own_laterS hR4 hal) hg5 (by decide)
        have hT5 := at1_other (hT4.later hal) (own_laterS hR4 hal) hg5 (by decide)
        have hsz5 : B ≤ w5.heap.size := Nat.le_trans hsz4 (Nat.le_trans hal.size hg5.size)
        have hR6 : w5.ownsRow B 28 2 v5 (k + 1) (whV (wsT T 2048 es (k + 1))) := by rw [HWT.out, whV_snoc]; exact hR5
        obtain ⟨a5, c5, rfl⟩ := row_form hR6
        clear hR5 hL4 hR4 hM4 hS4 hT4 hb4 hsz4 hg5 hal hne4 hl5
        go_wp2_with (at_builtin; refine append_recS (w := w5) rfl (.tmp 64) (.tmp 67) 22 rfl B 3 j0 (.int .i64 0) 1 8 Try.underlying22 hj hy0 hy1 hy2 rfl (by decide) (.slice am k cm) k ((mayF k).map (Value.int .i64)) rfl hM5 #[.int .i64 (1 + (k : Int))] rfl rfl ?d1 ?d2 ?d3 w.heap.size (by omega) hsz5 hb5 ?_)
        case d1 => simp [Value.oneCell']
        case d2 => unfold maxLen; omega
        case d3 => omega
        intro v6 w6 hM6 hb6 hg6
        have hal : Below w5.heap.size w5 (w5.alloc (.cells #[.int .i64 (1 + (k : Int))] 3)) := (Below.refl _ _).alloc (Nat.le_refl _) _
        have hL7 := row_other (own_laterS hL5 hal) (own_laterS hM5 hal) hg6 (by decide)
        have hR7 := row_other (own_laterS hR6 hal) (own_laterS hM5 hal) hg6 (by decide)
        have hS7 := at1_other (hS5.later hal) (own_laterS hM5 hal) hg6 (by decide)
        have hT7 := at1_other (hT5.later hal) (own_laterS hM5 hal) hg6 (by decide)
        have hsz7 : B ≤ w6.heap.size := Nat.le_trans hsz5 (Nat.le_trans hal.size hg6.size)
        have hM7 : w6.ownsRow B 3 1 v6 (k + 1) ((mayF (k + 1)).map (Value.int .i64)) := by rw [HM.out, List.map_append]; exact hM6
        clear hM6 hal hg6 hb5 hS5 hT5 hsz5 hM5 hL5 hR6
        go_wp2_with fail
        go_roundw
        case rel => exact ⟨k + 1, by omega, by omega, by go_num, hL7, hR7, hne5, hM7, hS7, hT7, hb6, hsz7⟩
        case measure => simp [intOf]; omega
      · have g1 : (0 : Int) ≤ (k : Int) := by omega
        by_cases h1 : k < es.length
        · have g2 : (k : Int) < (es.length : Int) := by omega
          have g3 : ¬ ((k : Int) < 5) := by omega
          go_wp2_with fail
          go_meet
          exact ⟨k, hk5, hL, hR, hne, hM, hS, hTt, hb, hsz⟩
        · have g2 : ¬ ((k : Int) < (es.length : Int)) := by omega
          go_wp2_with fail
          go_meet
          exact ⟨k, hk5, hL, hR, hne, hM, hS, hTt, hb, hsz⟩
  case rest =>
  obtain ⟨n, hn5, hL, hR, hne, hM, hS, hTt, hb, hsz⟩ := hcut
  clear hS3 hT3 hb3 hszB hi hz0 hz1 hz2 hj hy0 hy1 hy2
  rename World => wx
  obtain ⟨al, cl, rfl, hrl⟩ := own_whRd hL (wsF_len _ _ n).symm
  obtain ⟨ar, cr, rfl, hrr⟩ := own_whRd hR (wsT_len _ _ _ n).symm
  obtain ⟨am, cm, rfl⟩ := row_form hM
  have HS := Lib.hid (shSet_any (wsF 2048 es n) al n cl gs wx (wsF_len _ _ n).symm hrl (by omega) (wsF_up _ _ n) hS)
  have HI := Lib.hid (FairInv.start 2048 es n (by decide) (by decide))
  clear hrl hrr
  go_wp2_with fail
  refine HS.out.mono ?_
  rintro e w3 ⟨rfl, ⟨v3, hS3, hR3⟩, hb3, hkb⟩
  have hszD : wx.heap.size ≤ w3.heap.size := hb3.size
  have hRr3 := row_kb hR hkb hS (by decide)
  have hM3 := row_kb hM hkb hS (by decide)
  have hT3 := at1_kb (B := 0) hTt hkb hst.symm
  have hb4 := hb.trans (hb3.mono hBw)
  rw [wsF_len] at hR3
  have hgD : gs < wx.heap.size := hS.lt
  have hgtD : gt < wx.heap.size := hTt.lt
  generalize wx.heap.size = D at hR3 hszD hgD hgtD
  clear hL hR hM hS hTt hb hb3 hkb HS hsz hne
  obtain ⟨ar', cr', er, hrr⟩ := own_whRd hRr3 (wsT_len _ _ _ n).symm
  cases er
  generalize decide (0 < n) = bn
  have HS := Lib.hid (shSet_any (wsT T 2048 es n) ar n cr gt w3 (wsT_len _ _ _ n).symm hrr (by omega) (wsT_up _ _ _ n) hT3)
  clear hrr
  go_wp2_with fail
  refine HS.out.mono ?_
  rintro e w4 ⟨rfl, ⟨v4, hT4, hQ4⟩, hb5, hkb⟩
  have hszE : w3.heap.size ≤ w4.heap.size := hb5.size
  have hR4 := row_kb hR3 hkb hT3 (by decide)
  have hM4 := row_kb hM3 hkb hT3 (by decide)
  have hS4 := at1_kb (B := 0) hS3 hkb hst
  have hb6 := hb4.trans (hb5.mono hBt)
  rw [wsT_len, ldW_times T es n t1 t2] at hQ4
  have hNE : RowNe v3 v4 := fun q h1 h2 => by
    have a := (hR3.lt q h1).2
    have b := (hQ4.lt q h2).1
    omega
  have hgE : gt < w3.heap.size := hT3.lt
  have hDE : D ≤ w3.heap.size := hszD
  generalize w3.heap.size = E at hQ4 hszE hgE hDE
  clear hR3 hM3 hS3 hT3 hb4 hb5 hkb HS hszD hRr3
  have hszD : D ≤ w4.heap.size := by omega
  generalize decide (0 < n) = bn2
  go_wp2_with fail
  go_loopw [14] (fun i wr => ∃ (k : Nat) (ls : List SL) (most : Int), k ≤ fs.length ∧ k ≤ 80 ∧ i = .int .i64 k ∧ FairInv 2048 es n k most ls ∧ At1 38 wr gs v3 ∧ At1 38 wr gt v4 ∧ wr.ownsRow D 42 3 v3 n (shV ls) ∧ wr.ownsRow E 42 3 v4 n (shV (ls.map (timesS T))) ∧ wr.ownsRow B 3 1 (.slice am n cm) n ((mayF n).map (Value.int .i64)) ∧ Below w.heap.size w wr ∧ E ≤ wr.heap.size) (fun i _ => fs.length - (intOf i).toNat)
  case atStart => exact ⟨0, _, 0, Nat.zero_le _, by decide, rfl, HI.out, hS4, hT4, hR4, hQ4, hM4, hb6, hszE⟩
  case round =>
    obtain ⟨k, ls, most, hk, hk80, rfl, hI, hS, hTt, hR, hQ, hM, hb, hsz⟩ := hrel
    clear hS4 hT4 hR4 hQ4 hM4 hb6 hszE hszD HI
    have hlen := hI.len
    have hlenT : (ls.map (timesS T)).length = n := by rw [List.length_map, hlen]
    have hokT := shOk_times hI.ok t1 t2 hI.wle
    by_cases hlt : k < fs.length ∧ k < 80
    · obtain ⟨h1, h2⟩ := hlt
      obtain ⟨b1, o1, rfl, hc1⟩ := readsI_at (HR1.out wr hb) h1
      have HC := Lib.hid (fun W h => readsI_at (HR1.out W h) h1)
      generalize fs[k]?.getD 0 = zk at hc1 HC
      have g1 : (0 : Int) ≤ (k : Int) := by omega
      have g2 : (k : Int) < (fs.length : Int) := by omega
      have g3 : (k : Int) < 80 := by omega
      have hz0 : 0 ≤ zk % 2048 := Int.emod_nonneg _ (by decide)
      have hz1 : zk % 2048 ≤ 2047 := by have := Int.emod_lt_of_pos zk (show (0 : Int) < 2048 by decide); omega
      have hm0 := hI.m0
      have hm1 := hI.m1
      have hrm : Reads .i64 wr am (mayF n) := sh_readsI (g := B) (c := cm) (by rw [mayF_len]; exact hM)
      clear hc1
      cases ls with
      | nil =>
        have hn0 : n = 0 := by rw [← hlen]; rfl
        subst hn0
        have HP := Lib.hid (shPick_row [] (mayF 0) gs D cm v3 am wr (by decide) hI.ok hS hR hrm (by decide) 0 false rfl)
        have HQ := Lib.hid (fun (W : World) (h : Below wr.heap.size wr W) => shPick_row [] (mayF 0) gt E cm v4 am W (by decide) hI.ok (hTt.later h) (own_laterS hQ h) (hrm.later h) (by decide) 0 false rfl)
        have HCs := Lib.hid (fun (W : World) (h1 : E ≤ W.heap.size) (h2 : At1 38 W gs v3) (h3 : W.ownsRow D 42 3 v3 0 (shV [])) => shCarry_any [] 0 (zk % 2048) gs D v3 W (by decide) hI.ok hz0 (by omega) hgD (by omega) h2 h3)
        have HCt := Lib.hid (fun (W : World) (h1 : E ≤ W.heap.size) (h2 : At1 38 W gt v4) (h3 : W.ownsRow E 42 3 v4 0 (shV [])) => shCarry_any [] 0 (zk % 2048) gt E v4 W (by decide) hI.ok hz0 (by omega) hgE h1 h2 h3)
        have HI6 : Hid (FairInv 2048 es 0 (k + 1) most []) := Lib.hid (FairInv.none 2048 es (k + 1) most hm0 hm1)
        have hc0 : carryS [] 0 (zk % 2048) = [] := rfl
        clear hrm
        go_wp2_with fail
        refine HP.out.mono ?_
        rintro e w5 ⟨rfl, hk5⟩
        go_wp2_with fail
        refine (HQ.out w5 hk5).mono ?_
        rintro e w6 ⟨rfl, hk6⟩
        have hkk := hk5.trans (hk6.mono hk5.size)
        have hS6 := hS.later hkk
        have hT6 := hTt.later hkk
        have hR6 := own_laterS hR hkk
        have hQ6 := own_laterS hQ hkk
        have hM6 := own_laterS hM hkk
        have hb6 := hb.trans (hkk.mono hb.size)
        have hsz6 := Nat.le_trans hsz hkk.size
        clear hS hTt hR hQ hM hb hsz hk5 hk6 hkk HP HQ hI hlenT hokT
        obtain ⟨b6, o6, e6, hc6⟩ := HC.out w6 hb6
        cases e6
        have HCX := Lib.hid (HCs.out w6 hsz6 hS6 hR6)
        go_wp2_with (rw [hm])
        refine HCX.out.mono ?_
        rintro e w7 ⟨rfl, hS7, hR7, hb7, hk7, hs7⟩
        have hT7 := at1_but hT6 hR6 hk7 (by decide)
        have hQ7 := row_keptB (B2 := 0) (e2 := 0) (m2 := 0) (n2 := 0) (xs2 := []) hQ6 hk7 hNE
        have hM7 := row_but hM6 hR6 hk7 (by decide)
        have hb8 := hb6.trans (hb7.mono (by omega))
        have hsz7 := Nat.le_trans hsz6 hs7
        clear hS6 hT6 hR6 hQ6 hM6 hb6 hb7 hk7 hs7 hsz6 HCX hc6
        obtain ⟨b7, o7, e7, hc7⟩ := HC.out w7 hb8
        cases e7
        have HCX := Lib.hid (HCt.out w7 hsz7 hT7 hQ7)
        go_wp2_with (rw [hm])
        refine HCX.out.mono ?_
        rintro e w8 ⟨rfl, hT8, hQ8, hb9, hk8, hs8⟩
        have hS8 := at1_but hS7 hQ7 hk8 (by decide)
        have hR8 := row_keptB (B2 := 0) (e2 := 0) (m2 := 0) (n2 := 0) (xs2 := []) hR7 hk8 hNE.symm
        have hM8 := row_but hM7 hQ7 hk8 (by decide)
        have hb10 := hb8.trans (hb9.mono (by omega))
        have hsz8 := Nat.le_trans hsz7 hs8
        clear hS7 hT7 hR7 hQ7 hM7 hb8 hb9 hk8 hs8 hsz7 HCX hc7
        go_wp2_with fail
        go_roundw
        case rel => exact ⟨k + 1, [], _, by omega, by omega, by go_num, HI6.out, hS8, hT8, hR8, hQ8, hM8, hb10, hsz8⟩
        case measure => simp [intOf]; omega
      | cons x l =>
        have hmayx : ∀ y ∈ x :: l, y.p ∈ mayF n := fun y hy => by rw [← hI.may]; exact List.mem_map_of_mem (f := (·.p)) hy
        have HP := Lib.hid (shPick_row (x :: l) (mayF n) gs D cm v3 am wr (by rw [hlen]; omega) hI.ok hS (by rw [hlen]; exact hR) hrm (by rw [mayF_len]; omega) _ true hI.pick)
        have HQ := Lib.hid (fun (W : World) (h : Below wr.heap.size wr W) => shPick_row ((x :: l).map (timesS T)) (mayF n) gt E cm v4 am W (by rw [hlenT]; omega) hokT (hTt.later h) (by rw [hlenT]; exact own_laterS hQ h) (hrm.later h) (by rw [mayF_len]; omega) _ true (pickS_times t1 hmayx))
        rw [mayF_len] at HP HQ
        have HCs := Lib.hid (fun (W : World) (h1 : E ≤ W.heap.size) (h2 : At1 38 W gs v3) (h3 : W.ownsRow D 42 3 v3 n (shV (x :: l))) => shCarry_any (x :: l) (minS x l).p (zk % 2048) gs D v3 W (by rw [hlen]; omega) hI.ok hz0 (by omega) hgD (by omega) h2 (by rw [hlen]; exact h3))
        have HCt := Lib.hid (fun (W : World) (h1 : E ≤ W.heap.size) (h2 : At1 38 W gt v4) (h3 : W.ownsRow E 42 3 v4 n (shV ((x :: l).map (timesS T)))) => shCarry_any ((x :: l).map (timesS T)) (minS x l).p (zk % 2048) gt E v4 W (by rw [hlenT]; omega) hokT hz0 (by omega) hgE h1 h2 (by rw [hlenT]; exact h3))
        rw [carryS_times, hlenT] at HCt
        rw [hlen] at HCs
        have hn1 : 1 ≤ n := by rw [← hlen]; simp
        have n1 : (0 : Int) < (n : Int) := by omega
        have hdn : decide ((0 : Int) < (n : Int)) = true := decide_eq_true n1
        have hdn2 : decide (0 < n) = true := decide_eq_true hn1
        have HI6 := Lib.hid (hI.carry (by omega) (zk % 2048) hz0 hz1)
        generalize carryS (x :: l) (minS x l).p (zk % 2048) = ls6 at HCs HCt HI6
        generalize decide ((minS x l).p ∈ (x :: l).map (·.p)) = r1 at HCs
        generalize decide ((minS x l).p ∈ ((x :: l).map (timesS T)).map (·.p)) = r2 at HCt
        generalize (minS x l).p = pp at HP HQ HCs HCt
        clear hrm hmayx
        go_wp2_with fail
        refine HP.out.mono ?_
        rintro e w5 ⟨rfl, hk5⟩
        go_wp2_with fail
        refine (HQ.out w5 hk5).mono ?_
        rintro e w6 ⟨rfl, hk6⟩
        have hkk := hk5.trans (hk6.mono hk5.size)
        have hS6 := hS.later hkk
        have hT6 := hTt.later hkk
        have hR6 := own_laterS hR hkk
        have hQ6 := own_laterS hQ hkk
        have hM6 := own_laterS hM hkk
        have hb6 := hb.trans (hkk.mono hb.size)
        have hsz6 := Nat.le_trans hsz hkk.size
        clear hS hTt hR hQ hM hb hsz hk5 hk6 hkk HP HQ hI hlenT hokT
        obtain ⟨b6, o6, e6, hc6⟩ := HC.out w6 hb6
        cases e6
        have HCX := Lib.hid (HCs.out w6 hsz6 hS6 hR6)
        go_wp2_with (rw [hm])
        refine HCX.out.mono ?_
        rintro e w7 ⟨rfl, hS7, hR7, hb7, hk7, hs7⟩
        have hT7 := at1_but hT6 hR6 hk7 (by decide)
        have hQ7 := row_keptB (B2 := 0) (e2 := 0) (m2 := 0) (n2 := 0) (xs2 := []) hQ6 hk7 hNE
        have hM7 := row_but hM6 hR6 hk7 (by decide)
        have hb8 := hb6.trans (hb7.mono (by omega))
        have hsz7 := Nat.le_trans hsz6 hs7
        clear hS6 hT6 hR6 hQ6 hM6 hb6 hb7 hk7 hs7 hsz6 HCX hc6
        obtain ⟨b7, o7, e7, hc7⟩ := HC.out w7 hb8
        cases e7
        have HCX := Lib.hid (HCt.out w7 hsz7 hT7 hQ7)
        go_wp2_with (rw [hm])
        refine HCX.out.mono ?_
        rintro e w8 ⟨rfl, hT8, hQ8, hb9, hk8, hs8⟩
        have hS8 := at1_but hS7 hQ7 hk8 (by decide)
        have hR8 := row_keptB (B2 := 0) (e2 := 0) (m2 := 0) (n2 := 0) (xs2 := []) hR7 hk8 hNE.symm
        have hM8 := row_but hM7 hQ7 hk8 (by decide)
        have hb10 := hb8.trans (hb9.mono (by omega))
        have hsz8 := Nat.le_trans hsz7 hs8
        clear hS7 hT7 hR7 hQ7 hM7 hb8 hb9 hk8 hs8 hsz7 HCX hc7
        go_wp2_with fail
        go_roundw
        case rel => exact ⟨k + 1, ls6, _, by omega, by omega, by go_num, HI6.out, hS8, hT8, hR8, hQ8, hM8, hb10, hsz8⟩
        case measure => simp [intOf]; omega
    · have HT1 := Lib.hid (shTotal_row ls gs D v3 wr (by rw [hlen]; omega) hI.ok hS (by rw [hlen]; exact hR))
      have HT2 := Lib.hid (fun (W : World) (h : Below wr.heap.size wr W) => shTotal_row (ls.map (timesS T)) gt E v4 W (by rw [hlenT]; omega) hokT (hTt.later h) (by rw [hlenT]; exact own_laterS hQ h))
      have hsum := sumCS_times T ls
      rw [hsum] at HT2
      generalize sumCS ls = Z at HT1 HT2
      clear hsum hS hTt hR hQ hM
      by_cases h1 : k < fs.length
      · have g2 : decide ((k : Int) < (fs.length : Int)) = true := decide_eq_true (by omega)
        have g3 : decide ((k : Int) < 80) = false := decide_eq_false (by omega)
        go_wp2_with fail
        refine HT1.out.mono ?_
        rintro e w5 ⟨rfl, hk5⟩
        go_wp2_with fail
        refine (HT2.out w5 hk5).mono ?_
        rintro e w6 ⟨rfl, hk6⟩
        have hbe := (hb.trans (hk5.mono hb.size)).trans (hk6.mono (Nat.le_trans hb.size hk5.size))
        go_wp2_with fail
        go_ret
        exact ⟨by simp, hbe⟩
      · have g2 : decide ((k : Int) < (fs.length : Int)) = false := decide_eq_false (by omega)
        go_wp2_with fail
        refine HT1.out.mono ?_
        rintro e w5 ⟨rfl, hk5⟩
        go_wp2_with fail
        refine (HT2.out w5 hk5).mono ?_
        rintro e w6 ⟨rfl, hk6⟩
        have hbe := (hb.trans (hk5.mono hb.size)).trans (hk6.mono (Nat.le_trans hb.size hk5.size))
        go_wp2_with fail
        go_ret
        exact ⟨by simp, hbe⟩
end shareScales
end Go.Proofs.Ytaiekbhpgbmalaa
