/- share: Pick. -/
import Derived.Test.YtaiekbhpgbmalaaShJ
namespace Go.Proofs.Ytaiekbhpgbmalaa
open Go.RowKit
set_option linter.unusedVariables false
theorem addr_addS (g j : Nat) : (⟨g, 0, none⟩ : Addr).add j = ⟨g, j, none⟩ := by unfold Addr.add; split <;> simp_all
/-- 'append' of one struct to a row of the call's own. -/
theorem append_recS {P : Program} {w W : World} {ops : Array Oper} {rest : List Oper} {o : Oper} {a : Act} {Q : Exit → Act → World → Prop} (hgd : o.guard = none) (s x : Operand) (t : TypeId)
    (ho : o.op = .call { callee := .builtin .append, args := #[s, x], argTypes := #[t, t] })
    (base : Nat) (e : TypeId) (i : TypeInfo) (z : Value) (size bytes : Nat) (ht : P.underlying t = some (.slice e)) (hi : P.info? e = some i) (hz : i.zero = some z)
    (hsize : i.size = size) (hby : i.bytes = bytes) (hzs : z.cells.size = size) (h0 : 0 < size)
    (v : Value) (n : Nat) (xs : List Value) (hs : a.eval s = v) (hown : w.ownsRow base e size v n xs)
    (cs : Array Value) (hcs : cs.size = size) (hx : a.eval x = .slice (some ⟨w.heap.size, 0, none⟩) 1 1) (h1 : ∀ u ∈ cs.toList, u.oneCell' = true)
    (h63 : n + 1 ≤ maxLen) (hbytes : (n + 1) * bytes ≤ 140737488355328) (B : Nat) (hB : B ≤ base) (hbase : base ≤ w.heap.size) (hbel : Below B W w)
    (h : ∀ v' w', w'.ownsRow base e size v' (n + 1) (xs ++ cs.toList) → Below B W w' → (w.alloc (.cells cs e)).grownBy w' v.ownBlock → wpList P ops Q rest (a.put o.dst v') w') :
    wpList P ops Q (o :: rest) a (w.alloc (.cells cs e)) := by
  refine wpList_append_own _ hgd s x t ho base e i z size bytes ht hi hz hsize hby hzs h0 v n xs hs (hown.alloc _) ⟨w.heap.size, 0, none⟩ 1 1 cs.toList hx (by simp [hcs]) ?_ h1 h63 hbytes ?_ ?_
  · intro j u hj
    rw [addr_addS, cell_of_row _ w.heap.size j cs e (0, 0) (heap_alloc_new w _), ← Array.getElem?_toList]
    exact hj
  · simp; omega
  · intro v' w' hown' hgrow _
    refine h v' w' hown' ?_ hgrow
    refine (hbel.alloc (by omega) _).grown hgrow (by simp; omega) ?_
    intro k hk
    exact Nat.le_trans hB (hown.lt k hk).1
theorem own_cellsS {W : World} {B e size n : Nat} {v : Value} {xs : List Value} (h : W.ownsRow B e size v n xs) (hn : 0 < n) : ∃ g cap, v = .slice (some ⟨g, 0, none⟩) n cap ∧ n ≤ cap ∧ g < W.heap.size ∧ ∀ i u, xs[i]? = some u → W.cell? ⟨g, i, none⟩ = some u := by
  rcases h.2 with ⟨rfl, h0⟩ | ⟨g, cap, cur, rfl, _, hg, h1, h2, h3, h4⟩
  · omega
  · refine ⟨g, cap, rfl, h1, lt_of_block hg, fun i u hu => ?_⟩
    rw [cell_of_row W g i _ _ (0, 0) hg, ← Array.getElem?_toList]
    rw [← h4] at hu
    rw [List.getElem?_take] at hu
    split at hu
    · exact hu
    · cases hu
theorem own_laterS {w w' : World} {B : Nat} {e : TypeId} {m : Nat} {v : Value} {n : Nat} {xs : List Value} (h : w.ownsRow B e m v n xs) (hb : Below w.heap.size w w') : w'.ownsRow B e m v n xs :=
  h.kept (row := none) ⟨hb.os, hb.tape, hb.output, hb.size, fun k hk _ => hb.block k hk⟩ (by cases hv : v.ownBlock <;> simp)
theorem info_load : (Try.prog.info? 42).map (fun i => (i.zero, i.size, i.bytes)) = some (some (.agg #[.int .i64 0, .int .i64 0, .int .i64 0]), 3, 24) := by kernel_rfl
def shV (l : List SL) : List Value := l.flatMap fun x => [.int .i64 x.p, .int .i64 x.w, .int .i64 x.c]
theorem shV_snoc (l : List SL) (x : SL) : shV (l ++ [x]) = shV l ++ [.int .i64 x.p, .int .i64 x.w, .int .i64 x.c] := by simp [shV]
theorem shV_at (l : List SL) : ∀ (i : Nat) (x : SL), l[i]? = some x → (shV l)[i * 3]? = some (.int .i64 x.p) ∧ (shV l)[i * 3 + 1]? = some (.int .i64 x.w) ∧ (shV l)[i * 3 + 2]? = some (.int .i64 x.c) := by
  induction l with
  | nil => intro i x h; exact absurd h (by simp)
  | cons y l ih =>
    intro i x h
    have e : shV (y :: l) = [Value.int .i64 y.p, .int .i64 y.w, .int .i64 y.c] ++ shV l := rfl
    cases i with
    | zero =>
      simp at h
      subst h
      rw [e]
      exact ⟨rfl, rfl, rfl⟩
    | succ i =>
      have h1 := ih i x (by simpa using h)
      rw [e]
      have n0 : (i + 1) * 3 = 3 + i * 3 := by omega
      rw [n0, Nat.add_assoc, Nat.add_assoc]
      refine ⟨?_, ?_, ?_⟩
      · rw [List.getElem?_append_right (by simp)]
        simpa using h1.1
      · rw [List.getElem?_append_right (by simp)]
        simpa using h1.2.1
      · rw [List.getElem?_append_right (by simp)]
        simpa using h1.2.2
theorem own_shIn {W : World} {B : Nat} {v : Value} {l : List SL} (h : W.ownsRow B 42 3 v l.length (shV l)) (h0 : 0 < l.length) : ∃ g c, v = .slice (some ⟨g, 0, none⟩) l.length c ∧ ShIn W g l := by
  obtain ⟨g, c, e, _, _, hc⟩ := own_cellsS h h0
  exact ⟨g, c, e, fun i x hx => ⟨hc _ _ (shV_at l i x hx).1, hc _ _ (shV_at l i x hx).2.1, hc _ _ (shV_at l i x hx).2.2⟩⟩
/-- Those that may carry. -/
def ableS (ls : List SL) (may : List Int) : List SL := ls.filter (fun x => decide (x.p ∈ may))
theorem ableS_take (ls : List SL) (may : List Int) (k : Nat) (x : SL) (hx : ls[k]? = some x) : ableS (ls.take (k + 1)) may = ableS (ls.take k) may ++ if x.p ∈ may then [x] else [] := by
  unfold ableS
  rw [List.take_add_one, hx, List.filter_append]
  by_cases h : x.p ∈ may
  · simp [h]
  · simp [h]
theorem ableS_len (ls : List SL) (may : List Int) (k : Nat) : (ableS (ls.take k) may).length ≤ k := by
  unfold ableS
  have h1 := List.length_filter_le (fun x : SL => decide (x.p ∈ may)) (ls.take k)
  rw [List.length_take] at h1
  omega
theorem ableS_ok {ls : List SL} (h : ShOk ls) (may : List Int) : ShOk (ableS ls may) :=
  ⟨h.up.filter _, fun x hx => h.w0 x (List.mem_filter.1 hx).1, fun x hx => h.c0 x (List.mem_filter.1 hx).1⟩
/-- Who is to carry the next. -/
def pickS (ls : List SL) (may : List Int) : Int × Bool := match ableS ls may with | [] => (0, false) | x :: l => ((minS x l).p, true)
set_option maxRecDepth 100000 in
set_option maxHeartbeats 3200000 in
theorem shPick_any (ls : List SL) (may : List Int) (gs n c c2 : Nat) (a a2 : Option Addr) (w : World) (hs : w.cell? ⟨gs, 0, none⟩ = some (.slice a n c)) (hn : n = ls.length) (hl : n ≤ 1000) (hr : ShRd w a ls) (ho : ShOk ls) (hm : Reads .i64 w a2 may) (hml : may.length ≤ 1000000) :
    Calls Try.prog 7 #[.pointer (some ⟨gs, 0, none⟩), .slice a2 may.length c2] w fun e w' => e = .returned (.tuple #[.int .i64 (pickS ls may).1, .bool (pickS ls may).2]) ∧ Below w.heap.size w w' := by
  subst hn
  have HR : Hid (∀ W : World, Below w.heap.size w W → ShRd W a ls) := Lib.hid (fun W hW => hr.later hW)
  have HM : Hid (∀ (W : World) (q : Int) (b : Bool), Below w.heap.size w W → (b = true ↔ q ∈ may) → Calls Try.prog 13 #[.slice a2 may.length c2, .int .i64 q] W fun e w' => e = .returned (.bool b) ∧ Below W.heap.size W w') := Lib.hid (fun W q b hW hb => containsI_any may q a2 c2 W (hm.later hW) hml b hb)
  have HO := Lib.hid ho
  clear hr ho hm
  obtain ⟨i0, hi, hz0, hz1, hz2⟩ := info_parts info_load
  go_enter Try.func7, Try.ntmps7
  go_wp2_with fail
  go_loopw [6, 14] (fun v i wr => ∃ k : Nat, k ≤ ls.length ∧ i = .int .i64 k ∧ wr.ownsRow w.heap.size 42 3 v (ableS (ls.take k) may).length (shV (ableS (ls.take k) may)) ∧ Below w.heap.size w wr) (fun _ i _ => ls.length - (intOf i).toNat)
  case atStart => exact ⟨0, Nat.zero_le _, rfl, World.ownsRow_nil _ _ _ _, Below.refl _ _⟩
  case round =>
    obtain ⟨k, hk, rfl, hown, hbw⟩ := hrel
    by_cases hc : k < ls.length
    · obtain ⟨x, hx⟩ : ∃ x, ls[k]? = some x := ⟨_, List.getElem?_eq_getElem hc⟩
      obtain ⟨g, rfl, _, _, _⟩ := (HR.out _ hbw).at k x hx
      have HK := Lib.hid (ableS_take ls may k x hx)
      have HL := ableS_len ls may k
      clear hx
      generalize ableS (ls.take k) may = ab at hown HK HL
      have hX := at3_new 42 wr wr.heap.size (.int .i64 x.p) (.int .i64 x.w) (.int .i64 x.c) rfl
      have hbX : Below w.heap.size w (wr.alloc (.cells #[.int .i64 x.p, .int .i64 x.w, .int .i64 x.c] 42)) := hbw.alloc hbw.size _
      have hownX := hown.alloc (.cells #[.int .i64 x.p, .int .i64 x.w, .int .i64 x.c] 42)
      go_upto_region 5 with fail
      generalize (wr.alloc (.cells #[.int .i64 x.p, .int .i64 x.w, .int .i64 x.c] 42)) = w2 at hownX hbX hX ⊢
      generalize wr.heap.size = g2 at hX ⊢
      clear hown hbw
      obtain ⟨_, _, _⟩ := hX.cells
      by_cases hin : x.p ∈ may
      · have HC := Lib.hid (HM.out w2 x.p true hbX (by simp [hin]))
        have HK2 : Hid (ableS (ls.take (k + 1)) may = ab ++ [x]) := Lib.hid (by rw [HK.out, if_pos hin])
        clear HK
        go_wp2_with fail
        refine HC.out.mono ?_
        rintro e w3 ⟨rfl, hk3⟩
        have hb3 := hbX.trans (hk3.mono hbX.size)
        have hX3 := hX.later hk3
        have hown3 := own_laterS hownX hk3
        obtain ⟨_, _, _⟩ := hX3.cells
        clear hownX hbX hX
        go_wp2_with (at_builtin; refine append_recS rfl (.tmp 23) (.tmp 25) 36 rfl w.heap.size 42 i0 (.agg #[.int .i64 0, .int .i64 0, .int .i64 0]) 3 24 Try.underlying36 hi hz0 hz1 hz2 rfl (by decide) _ ab.length (shV ab) rfl hown3 #[.int .i64 x.p, .int .i64 x.w, .int .i64 x.c] rfl rfl ?d1 ?d2 ?d3 w.heap.size (Nat.le_refl _) hb3.size hb3 ?_)
        case d1 => simp [Value.oneCell']
        case d2 => unfold maxLen; omega
        case d3 => omega
        intro v' w4 hown4 hb4 _
        have hown5 : w4.ownsRow w.heap.size 42 3 v' (ableS (ls.take (k + 1)) may).length (shV (ableS (ls.take (k + 1)) may)) := by
          rw [HK2.out, shV_snoc, List.length_append]
          exact hown4
        clear hown3 hown4 hb3 hX3
        go_wp2
        go_roundw
        case rel => exact ⟨k + 1, by omega, by go_num, hown5, hb4⟩
        case measure => simp [intOf]; omega
      · have HC := Lib.hid (HM.out w2 x.p false hbX (by simp [hin]))
        have HK2 : Hid (ableS (ls.take (k + 1)) may = ab) := Lib.hid (by rw [HK.out, if_neg hin, List.append_nil])
        clear HK
        go_wp2_with fail
        refine HC.out.mono ?_
        rintro e w3 ⟨rfl, hk3⟩
        have hb3 := hbX.trans (hk3.mono hbX.size)
        have hown3 := own_laterS hownX hk3
        clear hownX hbX
        go_wp2
        go_roundw
        case rel => exact ⟨k + 1, by omega, by go_num, by rw [HK2.out]; exact hown3, hb3⟩
        case measure => simp [intOf]; omega
    · obtain rfl : k = ls.length := by omega
      have HL := ableS_len ls may ls.length
      rw [List.take_length] at hown HL
      have hok := ableS_ok HO.out may
      have HP : Hid (pickS ls may = match ableS ls may with | [] => (0, false) | x :: l => ((minS x l).p, true)) := Lib.hid rfl
      generalize ableS ls may = ab at hown HL hok HP
      cases ab with
      | nil =>
        have HP2 : Hid (pickS ls may = (0, false)) := Lib.hid HP.out
        clear HP
        rcases hown.2 with ⟨rfl, _⟩ | ⟨g, cap, cur, rfl, _⟩
        · go_wp2_with fail
          go_ret2
          exact ⟨by rw [HP2.out]; rfl, hbw⟩
        · go_wp2_with fail
          go_ret2
          exact ⟨by rw [HP2.out]; rfl, hbw⟩
      | cons x l =>
        have HP2 : Hid (pickS ls may = ((minS x l).p, true)) := Lib.hid HP.out
        obtain ⟨g, c', rfl, hin⟩ := own_shIn hown (by simp)
        have HF := Lib.hid (minFunc_any x l g (x :: l).length c' wr rfl (by omega) hin hok)
        clear hown hin hok HP
        generalize minS x l = m at HF HP2
        obtain ⟨mp, mw, mc⟩ := m
        simp only [SL.val] at HF HP2
        generalize hln : (x :: l).length = L at HF HL ⊢
        have hL1 : 1 ≤ L := by rw [← hln]; simp
        have hL2 : L ≤ 1000 := by omega
        clear hln HL hc HR HM HO hi hz0 hz1 hz2 hs hk
        go_wp2_with fail
        refine HF.out.mono ?_
        rintro e w5 ⟨rfl, hk5⟩
        have hb5 := hbw.trans (hk5.mono hbw.size)
        have hf1 : ∀ W : World, (Instr.field 42 (.agg #[.int .i64 mp, .int .i64 mw, .int .i64 mc]) 0).run Try.prog W = .ok (.agg #[.int .i64 mp, .int .i64 mw]) W := fun _ => by kernel_rfl
        have hf2 : ∀ W : World, (Instr.field 28 (.agg #[.int .i64 mp, .int .i64 mw]) 0).run Try.prog W = .ok (.int .i64 mp) W := fun _ => by kernel_rfl
        go_wp2_with fail
        go_ret2
        exact ⟨by rw [HP2.out]; rfl, hb5⟩
end Go.Proofs.Ytaiekbhpgbmalaa
