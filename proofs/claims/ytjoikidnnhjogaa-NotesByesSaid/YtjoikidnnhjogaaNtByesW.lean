/- NotesByes: the walk. -/
import Derived.Test.YtjoikidnnhjogaaNtK
import Derived.Test.YtjoikidnnhjogaaNtL
import Derived.Test.YtjoikidnnhjogaaNtJ
import Derived.Test.YtjoikidnnhjogaaOrdL
import Derived.Test.YtjoikidnnhjogaaPcC
import Derived.Test.YtjoikidnnhjogaaCut
import Derived.Laws.AppendOwnNone
namespace Go.Proofs.Ytjoikidnnhjogaa
open Go.RowKit
set_option linter.unusedVariables false
/-- 'append([]uint32{}, s[:m]...)', the append, in a region that draws its order. -/
theorem step_cutU {T : TypeId} {ops : Array Oper} {o : Oper} {a : Act} {w : World} {K : Act → World → Prop} {Q : Exit → Act → World → Prop} {E : Prop} (hgd : o.guard = none) (s x : Operand)
    (ho : o.op = .call { callee := .builtin .append, args := #[s, x], argTypes := #[50, 50] })
    (B g : Nat) (cs : Array Value) (v : Value) (aa : Option Addr) (m c : Nat) (zs : List Int) (hT : T ≠ 26) (hX : AtC T w g cs) (hv : w.ownsRow B 26 1 v 0 []) (hs : a.eval s = v) (hx : a.eval x = .slice aa m c)
    (hzl : zs.length = m) (hac : (aa = none ∧ m = 0 ∧ c = 0) ∨ ∃ y, aa = some y) (hr : Reads .u32 w aa zs) (hm : m ≤ 1000) (hB : B ≤ w.heap.size)
    (h : ∀ ad c' w', Hid (w'.ownsRow B 26 1 (.slice ad m c') m (zs.map (Value.int .u32)) ∧ AtC T w' g cs ∧ (∀ B0 w0, B0 ≤ B → Below B0 w0 w → Below B0 w0 w')) → K (a.put o.dst (.slice ad m c')) w') :
    if Region.wanted o (yielded ops a.tmps) = true then Oper.wp Try.prog o a w K Q else E := by
  obtain ⟨i0, hi, hz0, hz1, hz2⟩ := info_parts info32
  rcases hac with ⟨rfl, rfl, rfl⟩ | ⟨y, rfl⟩
  · obtain rfl : zs = [] := List.length_eq_zero_iff.1 hzl
    rw [if_pos (by simp [Region.wanted, hgd])]
    have hrun := run_append_owned_none (P := Try.prog) (w := w) B 50 o.type 26 i0 1 Try.underlying50 hi v 0 [] hv
    obtain ⟨ad, c', rfl⟩ := own_slice hv
    obtain ⟨rfl, rfl⟩ | ⟨g', cap', rfl, rfl⟩ : (ad = none ∧ c' = 0) ∨ ∃ g' cap', ad = some ⟨g', 0, none⟩ ∧ c' = cap' := by
      rcases hv.2 with ⟨e, _⟩ | ⟨g', cap', cur, e, _⟩
      · cases e; exact .inl ⟨rfl, rfl⟩
      · cases e; exact .inr ⟨g', _, rfl, rfl⟩
    · unfold Oper.wp
      simp [execOp, ho, resolve, invoke, builtin, hs, hx, hrun, Result.andThen]
      exact h _ _ _ (Lib.hid ⟨hv, hX, fun _ _ _ hb => hb⟩)
    · unfold Oper.wp
      simp [execOp, ho, resolve, invoke, builtin, hs, hx, hrun, Result.andThen]
      exact h _ _ _ (Lib.hid ⟨hv, hX, fun _ _ _ hb => hb⟩)
  · refine step_append_own hgd s x _ ho B 26 i0 (.int .u32 0) 1 4 Try.underlying50 hi hz0 hz1 hz2 rfl (by decide) v 0 [] hs hv y m c (zs.map (Value.int .u32)) hx (by simp [hzl]) ?_ ?_ (by unfold maxLen; omega) (by omega) hB ?_
    · intro j u hj
      rcases hr with h0 | ⟨b, off, hbo, hcx⟩
      · rw [h0] at hj; simp at hj
      · cases hbo
        have hjl : j < zs.length := by have := (List.getElem?_eq_some_iff.1 hj).1; simpa using this
        rw [Go.WideShapes.add_plain, hcx j hjl]
        simp [hjl] at hj ⊢
        exact hj
    · intro u hu; simp at hu; obtain ⟨z, _, rfl⟩ := hu; rfl
    · intro v' w' hown hgrow _
      rw [Nat.zero_add] at hown
      obtain ⟨ad, c', rfl⟩ := own_slice hown
      refine h ad c' w' (Lib.hid ⟨hown, ?_, fun B0 w0 h0 hb => hb.grown hgrow (by omega) (fun k hk => Nat.le_trans h0 (hv.lt k hk).1)⟩)
      unfold AtC
      rw [hgrow.block g hX.lt (row_neP hv hX (by intro cur q e; simp at e; exact hT e.2.1))]
      exact hX
/-- 'x.Sources = append(x.Sources, n)', the append, in the document's. -/
theorem step_srcR {ops : Array Oper} {o : Oper} {a : Act} {w : World} {rest : List Oper} {Q : Exit → Act → World → Prop} (hgd : o.guard = none) (s x : Operand)
    (ho : o.op = .call { callee := .builtin .append, args := #[s, x], argTypes := #[53, 53] })
    (B : Nat) (v : Value) (k : Nat) (xs : List Int) (u : Int) (hk : xs.length = k)
    (hv : w.ownsRow B 3 1 v k (xs.map (Value.int .i64))) (hB : B ≤ w.heap.size) (hl : k ≤ 1000) (hs : a.eval s = v) (hx : a.eval x = .slice (some ⟨w.heap.size, 0, none⟩) 1 1)
    (h : ∀ ad c w', Hid (w'.ownsRow B 3 1 (.slice ad (k + 1) c) (k + 1) ((xs ++ [u]).map (Value.int .i64)) ∧ (∀ {k : Nat} {o : Obj}, w.heap[k]? = some o → (∀ cur q, o ≠ .cells cur 3 q) → w'.heap[k]? = some o) ∧ (∀ {B2 : Nat} {e2 : TypeId} {m2 : Nat} {v2 : Value} {n2 : Nat} {ys : List Value}, e2 ≠ 3 → w.ownsRow B2 e2 m2 v2 n2 ys → w'.ownsRow B2 e2 m2 v2 n2 ys) ∧ (∀ B0 w0, B0 ≤ B → Below B0 w0 w → Below B0 w0 w') ∧ w.heap.size ≤ w'.heap.size) → wpList Try.prog ops Q rest (a.put o.dst (.slice ad (k + 1) c)) w') :
    wpList Try.prog ops Q (o :: rest) a (w.alloc (.cells #[.int .i64 u] 3)) := by
  obtain ⟨i0, hi, hz0, hz1, hz2⟩ := info_parts info64r
  have hv1 := hv.alloc (.cells #[.int .i64 u] 3)
  refine wpList_append_own _ hgd s x _ ho B 3 i0 (.int .i64 0) 1 8 Try.underlying53 hi hz0 hz1 hz2 rfl (by decide) v k (xs.map (Value.int .i64)) hs hv1 ⟨w.heap.size, 0, none⟩ 1 1 [.int .i64 u] hx rfl ?_ ?_ (by unfold maxLen; omega) (by omega) (by simp; omega) ?_
  · intro j u' hj
    match j, hj with
    | 0, hj => simp at hj; subst hj; simp [Addr.add]
  · intro u' hu; simp at hu; subst hu; rfl
  · intro v' w' hown hgrow _
    obtain ⟨ad, c, rfl⟩ := own_slice hown
    refine h ad c w' (Lib.hid ⟨by rw [List.map_append]; exact hown, fun {k o} hk hn => ?_, fun hne h2 => (h2.alloc _).kept hgrow (own_apart hv1 (h2.alloc _) hne), fun B0 w0 h0 hb => ?_, by have := hgrow.size; simp at this; omega⟩)
    · rw [hgrow.block _ (by have := lt_of_block hk; simp; omega) (row_neP hv hk hn)]
      exact heap_at_old _ _ _ _ hk
    · exact (hb.alloc (by omega) _).grown hgrow (by simp; omega) (fun k hk => Nat.le_trans h0 (hv1.lt k hk).1)
theorem byP_small (y : BY) : (byP y).body.size ≤ 4000 ∧ (byP y = zeroPC ↔ ¬ byMay y) ∧ (byMay y → pcMay (byP y)) := by
  by_cases hm : byMay y
  · have e : byP y = ⟨(y.srcs.length : Nat), 203, ofL (byL y)⟩ := by unfold byP; rw [if_pos hm]
    obtain ⟨m1, m2⟩ := id hm
    have hl : (byL y).length % 4 = 0 ∧ (byL y).length ≤ 2000 := by
      unfold byL rsL
      by_cases h0 : y.reason.size = 0
      · rw [if_pos h0, List.append_nil, bes_len]; omega
      · rw [if_neg h0]
        simp only [List.length_append, bes_len, be_len, by_len, List.length_replicate]
        unfold upW
        omega
    refine ⟨?_, ?_, ?_⟩
    · rw [e]; simp only [ofL_size]; omega
    · rw [e]
      refine ⟨fun h => ?_, fun h => absurd hm h⟩
      have : (203 : Int) = 0 := congrArg PC.kind h
      cases this
    · intro _
      rw [e]
      unfold pcMay
      simp only [ofL_size]
      omega
  · have e : byP y = zeroPC := by unfold byP; rw [if_neg hm]
    refine ⟨?_, ?_, fun h => absurd h hm⟩
    · rw [e]; decide
    · rw [e]; exact ⟨fun _ => hm, fun _ => rfl⟩
theorem by_S {T U V : TypeId} {W w : World} {B g b d : Nat} {c0 c1 c2 e0 e1 i0 i1 : Value} (h : AtC T W g #[c0, c1, c2]) (k : AtC U W b #[e0, e1]) (l : AtC V W d #[i0, i1]) (hb : Below B w W) : W.cell? ⟨g, 0, none⟩ = some c0 ∧ W.cell? ⟨g, 1, none⟩ = some c1 ∧ W.cell? ⟨g, 2, none⟩ = some c2 ∧ W.cell? ⟨b, 0, none⟩ = some e0 ∧ W.cell? ⟨b, 1, none⟩ = some e1 ∧ W.cell? ⟨d, 0, none⟩ = some i0 ∧ W.cell? ⟨d, 1, none⟩ = some i1 ∧ Below B w W := by
  obtain ⟨a0, a1, a2⟩ := h.cells3
  obtain ⟨f0, f1⟩ := k.cells2
  obtain ⟨j0, j1⟩ := l.cells2
  exact ⟨a0, a1, a2, f0, f1, j0, j1, hb⟩
theorem by_readsI {w : World} {g : Nat} {a : Option Addr} {c : Nat} {zs : List Int} (h : w.ownsRow g 3 1 (.slice a zs.length c) zs.length (zs.map (Value.int .i64))) : Reads .i64 w a zs := by
  obtain ⟨a', c', e, _, _, _, hr⟩ := own_reads h
  cases e
  exact hr
theorem by_reads {w : World} {g : Nat} {a : Option Addr} {c : Nat} {zs : List Int} (h : w.ownsRow g 26 1 (.slice a zs.length c) zs.length (zs.map (Value.int .u32))) : Reads .u32 w a zs := by
  obtain ⟨a', c', e, _, _, _, hr⟩ := own_reads h
  cases e
  exact hr
theorem ownB_store {w : World} {T : TypeId} {B g i : Nat} {e : TypeId} {m : Nat} {v u : Value} {n : Nat} {xs : List Value} {cs : Array Value} (h : w.ownsRow B e m v n xs) (hP : AtC T w g cs) (hne : T ≠ e) : (w.setCell ⟨g, i, none⟩ u).ownsRow B e m v n xs :=
  ownsRow_setCell_other h (fun x => row_neP h hP (by intro cur p q; simp at q; exact hne q.2.1) x.symm) _
theorem sf_by {W : World} {g : Nat} {a : Option Addr} {m c : Nat} {xs : List Value} {c0 c1 d0 d1 : Value} (hv : W.ownsRow g 26 1 (.slice a m c) m xs) (hX : AtC 52 W g #[c0, c1]) : ((W.setCell ⟨g, 0, none⟩ d0).setCell ⟨g, 1, none⟩ d1).ownsRow g 26 1 (.slice a m c) m xs := by
  have h0 : AtC 52 (W.setCell ⟨g, 0, none⟩ d0) g #[d0, c1] := block_setCell hX
  exact ownB_store (ownB_store hv hX (by decide)) h0 (by decide)
namespace notesByes
set_option maxRecDepth 100000 in
set_option maxHeartbeats 4000000 in
theorem walk (s0 : ByteArray) (pp : Option Addr) (ln cp : Nat) (z0 : List Int) (src : Int) (w00 : s0.size ≤ maxLen) (w1 : (Lit.int .u32 src).wf = true) (w : World) (w01 : IsRow .u32 w pp ln cp z0) :
    Calls Try.prog 4 #[.agg #[.string s0, .slice pp ln cp], .int .u32 src] w fun e w' => e = .returned (.bool true) ∧ Below w.heap.size w w' := by
  have hac : (pp = none ∧ ln = 0 ∧ cp = 0) ∨ ∃ y, pp = some y := by
    rcases w01 with ⟨a, b, c, _⟩ | ⟨x, e, _⟩
    · exact .inl ⟨a, b, c⟩
    · exact .inr ⟨x, e⟩
  obtain ⟨es, hel, hlc, hcm, hr0, hwf⟩ := w01.reads
  unfold maxLen at w00
  obtain ⟨m, hm⟩ : ∃ m : Nat, min (ln : Int) 33 = (m : Int) := ⟨(min (ln : Int) 33).toNat, by omega⟩
  have hm33 : m ≤ 33 := by omega
  have hmc : (m : Int) ≤ (cp : Int) := by omega
  have hm0 : (0 : Int) ≤ (m : Int) := by omega
  have hrt := hr0.take m
  have hzl : (es.take m).length = m := by rw [List.length_take]; omega
  have hus : ∀ x ∈ es.take m, 0 ≤ x ∧ x ≤ 4294967295 := fun x hx => u32_bd (hwf x (List.mem_of_mem_take hx))
  have hac2 : (pp = none ∧ m = 0 ∧ cp = 0) ∨ ∃ y, pp = some y := by
    rcases hac with ⟨a, b, c⟩ | h
    · exact .inl ⟨a, by omega, c⟩
    · exact .inr h
  generalize es.take m = zs at hrt hzl hus
  have HUS := Lib.hid hus
  have HC1 := Lib.hid (fun W => cut_any s0 260 W w00 (by decide))
  have z1 := (cut_size s0 260).1
  generalize cutB s0 260 = rs at HC1 z1
  have HR := Lib.hid (fun W (h : Below w.heap.size w W) => hrt.later h)
  clear hus hr0 hwf w01 hel hrt w1
  have hX1 := atC_new 52 w #[.string s0, .slice pp ln cp]
  have hb1 : Below w.heap.size w (w.alloc (.cells #[.string s0, .slice pp ln cp] 52)) := (Below.refl _ _).alloc (Nat.le_refl _) _
  go_enter Try.func4, Try.ntmps4
  go_upto_region 1 with fail
  generalize w.alloc (.cells #[.string s0, .slice pp ln cp] 52) = w3 at hX1 hb1 ⊢
  obtain ⟨g, hg⟩ : ∃ g, w.heap.size = g := ⟨_, rfl⟩
  have HG := Lib.hid hg
  rw [hg] at hX1 hb1 HR ⊢
  clear hg
  go_wp2_with fail
  refine (ntAwake_any _).mono ?_
  rintro e w4 ⟨rfl, hb4⟩
  have hX4 := hX1.later hb4
  have hbb4 := hb1.trans (hb4.mono (by have := hX1.lt; omega))
  clear hX1 hb1 hb4
  go_upto_region 3 with fail
  go_cut [2] (fun z1 wx => z1 = .pointer (some ⟨g, 0, none⟩) ∧ ∃ a' c', AtC 52 wx g #[.string rs, .slice a' m c'] ∧ wx.ownsRow g 26 1 (.slice a' m c') m (zs.map (Value.int .u32)) ∧ Below g w wx)
  case first =>
    obtain ⟨x0, x1⟩ := hX4.cells2
    have f0 := hX4.free 0
    have f1 := hX4.free 1
    have hrd := HR.out _ hbb4
    have hg4 := hX4.lt
    have hlc' : ((ln : Nat) : Int) ≤ (cp : Int) := by omega
    have hS4 : (fun W : World => W.cell? ⟨g, 0, none⟩ = some (.string s0) ∧ W.cell? ⟨g, 1, none⟩ = some (.slice pp ln cp)) w4.drew := ⟨x0, x1⟩
    have hX5 : AtC 52 (w4.alloc (.cells #[] 26)).drew g #[.string s0, .slice pp ln cp] := (hX4.alloc _).drew
    have hv5 : World.ownsRow (w4.alloc (.cells #[] 26)).drew g 26 1 (.slice (some ⟨w4.heap.size, 0, none⟩) 0 0) 0 [] := World.ownsRow.drew (own_made w4 g w4.heap.size (by omega) rfl)
    have hr5 : Reads .u32 (w4.alloc (.cells #[] 26)).drew pp zs := hrd.later (((Below.refl _ _).alloc (Nat.le_refl _) _).drew)
    have hb5 : Below g w (w4.alloc (.cells #[] 26)).drew := (hbb4.alloc (by omega) _).drew
    have hg5 : g ≤ (w4.alloc (.cells #[] 26)).drew.heap.size := by show g ≤ (w4.alloc _).heap.size; simp; omega
    obtain ⟨y0, y1⟩ := hX5.cells2
    have hS5 : (fun W : World => W.cell? ⟨g, 0, none⟩ = some (.string s0) ∧ W.cell? ⟨g, 1, none⟩ = some (.slice pp ln cp)) (w4.alloc (.cells #[] 26)).drew := ⟨y0, y1⟩
    refine wp_region_noPanic ?_
    refine ordL_begin (fun W : World => W.cell? ⟨g, 0, none⟩ = some (.string s0) ∧ W.cell? ⟨g, 1, none⟩ = some (.slice pp ln cp)) 13 (by kernel_rfl) hS4 ?_
    refine ordL_take 0 ?v1 rfl (by kernel_rfl) (by kernel_rfl) (by kernel_rfl) rfl (by kernel_rfl) (fun _ _ _ h => h) (by rfl) ?hy1 (by assumption) ?rest1
    case hy1 => (intro W hSw; (try dsimp only at hSw); go_simp <;> with_reducible rfl)
    (try simp only [Act.put, List.setIfInBounds_toArray, List.set_cons_zero, List.set_cons_succ])
    refine ordL_take 1 ?v2 rfl (by kernel_rfl) (by kernel_rfl) (by kernel_rfl) rfl (by kernel_rfl) (fun _ _ _ h => h) (by rfl) ?hy2 (by assumption) ?rest2
    case hy2 => (intro W hSw; (try dsimp only at hSw); go_simp <;> with_reducible rfl)
    (try simp only [Act.put, List.setIfInBounds_toArray, List.set_cons_zero, List.set_cons_succ])
    refine ordL_take 4 ?v3 rfl (by kernel_rfl) (by kernel_rfl) (by kernel_rfl) rfl (by kernel_rfl) (fun _ _ _ h => h) (by rfl) ?hy3 (by assumption) ?rest3
    case hy3 => (intro W hSw; (try dsimp only at hSw); go_simp <;> with_reducible rfl)
    (try simp only [Act.put, List.setIfInBounds_toArray, List.set_cons_zero, List.set_cons_succ])
    refine ordL_take 5 ?v4 rfl (by kernel_rfl) (by kernel_rfl) (by kernel_rfl) rfl (by kernel_rfl) (fun _ _ _ h => h) (by rfl) ?hy4 (by assumption) ?rest4
    case hy4 => (intro W hSw; (try dsimp only at hSw); go_simp <;> with_reducible rfl)
    (try simp only [Act.put, List.setIfInBounds_toArray, List.set_cons_zero, List.set_cons_succ])
    refine ordL_take 6 ?v5 rfl (by kernel_rfl) (by kernel_rfl) (by kernel_rfl) rfl (by kernel_rfl) (fun _ _ _ h => h) (by rfl) ?hy5 (by assumption) ?rest5
    case hy5 => (intro W hSw; (try dsimp only at hSw); go_simp <;> with_reducible rfl)
    (try simp only [Act.put, List.setIfInBounds_toArray, List.set_cons_zero, List.set_cons_succ])
    refine ordL_take 7 ?v6 rfl (by kernel_rfl) (by kernel_rfl) (by kernel_rfl) rfl (by kernel_rfl) (fun _ _ _ h => h) (by rfl) ?hy6 (by assumption) ?rest6
    case hy6 => (intro W hSw; (try dsimp only at hSw); go_simp <;> with_reducible rfl)
    (try simp only [Act.put, List.setIfInBounds_toArray, List.set_cons_zero, List.set_cons_succ])
    refine ordL_take 8 ?v7 rfl (by kernel_rfl) (by kernel_rfl) (by kernel_rfl) rfl (by kernel_rfl) (fun _ _ _ h => h) (by rfl) ?hy7 (by assumption) ?rest7
    case hy7 => (intro W hSw; (try dsimp only at hSw); go_simp <;> with_reducible rfl)
    (try simp only [Act.put, List.setIfInBounds_toArray, List.set_cons_zero, List.set_cons_succ])
    refine ordL_take 9 ?v8 rfl (by kernel_rfl) (by kernel_rfl) (by kernel_rfl) rfl (by kernel_rfl) (fun _ _ _ h => h) (by rfl) ?hy8 (by assumption) ?rest8
    case hy8 => (intro W hSw; (try dsimp only at hSw); go_simp <;> with_reducible rfl)
    (try simp only [Act.put, List.setIfInBounds_toArray, List.set_cons_zero, List.set_cons_succ])
    refine ordL_take 10 ?v9 rfl (by kernel_rfl) (by kernel_rfl) (by kernel_rfl) rfl (by kernel_rfl) (fun _ _ _ h => h) (by rfl) ?hy9 (by assumption) ?rest9
    case hy9 => (intro W hSw; (try dsimp only at hSw); go_simp <;> with_reducible rfl)
    (try simp only [Act.put, List.setIfInBounds_toArray, List.set_cons_zero, List.set_cons_succ])
    refine ordL_ready [2, 3] (by kernel_rfl) (by simp) ?_
    refine AllReadyL.cons rfl (fun K hK => ?_) ?_
    · go_simp
      go_at_call 13
      refine (HC1.out _).mono ?_
      rintro e w' ⟨rfl, rfl⟩
      (try go_wp2_with fail)
      refine hK.out _ _ (fun _ => by assumption) ?_
      clear hK K
      (try simp only [Act.put, List.setIfInBounds_toArray, List.set_cons_zero, List.set_cons_succ])
      refine ordL_ready [3] (by kernel_rfl) (by simp) ?_
      refine AllReadyL.cons rfl (fun K hK => ?_) ?_
      · go_simp
        refine hK.out _ _ (fun _ => hS5) ?_
        clear hK K
        (try simp only [Act.put, List.setIfInBounds_toArray, List.set_cons_zero, List.set_cons_succ])
        clear hS4
        refine ordL_ready [11] (by kernel_rfl) (by simp) ?_
        refine AllReadyL.cons rfl (fun K hK => ?_) ?_
        · refine step_cutU (T := 52) rfl (.tmp 17) (.tmp 24) rfl g g #[.string s0, .slice pp ln cp] (.slice (some ⟨w4.heap.size, 0, none⟩) 0 0) pp m cp zs (by decide) hX5 hv5 (by rfl) (by rfl) hzl hac2 hr5 (by omega) hg5 ?_
          intro ad3 cq w10 H10
          obtain ⟨hv10, hX10, hbl10⟩ := H10.out
          have hb10 : Below g w w10 := hbl10 _ _ (Nat.le_refl _) hb5
          obtain ⟨u0, u1⟩ := hX10.cells2
          have f10 := hX10.free 0
          have f11 := hX10.free 1
          have hS10 : (fun W : World => W.cell? ⟨g, 0, none⟩ = some (.string s0) ∧ W.cell? ⟨g, 1, none⟩ = some (.slice pp ln cp)) w10 := ⟨u0, u1⟩
          refine hK.out _ _ (fun _ => hS10) ?_
          clear hK K
          (try simp only [Act.put, List.setIfInBounds_toArray, List.set_cons_zero, List.set_cons_succ])
          refine ordL_take 12 ?v10 rfl (by kernel_rfl) (by kernel_rfl) (by kernel_rfl) rfl (by kernel_rfl) (fun _ _ _ h => h) (by rfl) ?hy10 (by assumption) ?rest10
          case hy10 => (intro W hSw; (try dsimp only at hSw); go_simp <;> with_reducible rfl)
          (try simp only [Act.put, List.setIfInBounds_toArray, List.set_cons_zero, List.set_cons_succ])
          refine ordL_ready [13] (by kernel_rfl) (by simp) ?_
          refine AllReadyL.cons rfl (fun K hK => ?_) ?_
          · go_simp
            refine hK.out _ _ (fun h => absurd rfl h) ?_
            clear hK K
            (try simp only [Act.put, List.setIfInBounds_toArray, List.set_cons_zero, List.set_cons_succ])
            refine ordL_done (by kernel_rfl) ?_ _
            refine NoPanic.normal ?_
            go_wp2_with fail
            go_meet
            have hZ : AtC 52 ((w10.setCell ⟨g, 0, none⟩ (.string rs)).setCell ⟨g, 1, none⟩ (.slice ad3 m cq)) g #[.string rs, .slice ad3 m cq] := by
              have h0 : AtC 52 (w10.setCell ⟨g, 0, none⟩ (.string rs)) g #[.string rs, .slice pp ln cp] := block_setCell hX10
              exact block_setCell h0
            exact ⟨rfl, ad3, cq, hZ, sf_by hv10 hX10, hb10.trans ((((Only.refl g w10).setCell 0 _).setCell 1 _).below (Nat.le_refl _))⟩
          exact AllReadyL.nil
        exact AllReadyL.nil
      exact AllReadyL.nil
    refine AllReadyL.cons rfl (fun K hK => ?_) ?_
    · go_simp
      refine hK.out _ _ (fun _ => hS5) ?_
      clear hK K
      (try simp only [Act.put, List.setIfInBounds_toArray, List.set_cons_zero, List.set_cons_succ])
      clear hS4
      refine ordL_ready [2] (by kernel_rfl) (by simp) ?_
      refine AllReadyL.cons rfl (fun K hK => ?_) ?_
      · go_simp
        go_at_call 13
        refine (HC1.out _).mono ?_
        rintro e w' ⟨rfl, rfl⟩
        (try go_wp2_with fail)
        refine hK.out _ _ (fun _ => by assumption) ?_
        clear hK K
        (try simp only [Act.put, List.setIfInBounds_toArray, List.set_cons_zero, List.set_cons_succ])
        refine ordL_ready [11] (by kernel_rfl) (by simp) ?_
        refine AllReadyL.cons rfl (fun K hK => ?_) ?_
        · refine step_cutU (T := 52) rfl (.tmp 17) (.tmp 24) rfl g g #[.string s0, .slice pp ln cp] (.slice (some ⟨w4.heap.size, 0, none⟩) 0 0) pp m cp zs (by decide) hX5 hv5 (by rfl) (by rfl) hzl hac2 hr5 (by omega) hg5 ?_
          intro ad3 cq w10 H10
          obtain ⟨hv10, hX10, hbl10⟩ := H10.out
          have hb10 : Below g w w10 := hbl10 _ _ (Nat.le_refl _) hb5
          obtain ⟨u0, u1⟩ := hX10.cells2
          have f10 := hX10.free 0
          have f11 := hX10.free 1
          have hS10 : (fun W : World => W.cell? ⟨g, 0, none⟩ = some (.string s0) ∧ W.cell? ⟨g, 1, none⟩ = some (.slice pp ln cp)) w10 := ⟨u0, u1⟩
          refine hK.out _ _ (fun _ => hS10) ?_
          clear hK K
          (try simp only [Act.put, List.setIfInBounds_toArray, List.set_cons_zero, List.set_cons_succ])
          refine ordL_take 12 ?v11 rfl (by kernel_rfl) (by kernel_rfl) (by kernel_rfl) rfl (by kernel_rfl) (fun _ _ _ h => h) (by rfl) ?hy11 (by assumption) ?rest11
          case hy11 => (intro W hSw; (try dsimp only at hSw); go_simp <;> with_reducible rfl)
          (try simp only [Act.put, List.setIfInBounds_toArray, List.set_cons_zero, List.set_cons_succ])
          refine ordL_ready [13] (by kernel_rfl) (by simp) ?_
          refine AllReadyL.cons rfl (fun K hK => ?_) ?_
          · go_simp
            refine hK.out _ _ (fun h => absurd rfl h) ?_
            clear hK K
            (try simp only [Act.put, List.setIfInBounds_toArray, List.set_cons_zero, List.set_cons_succ])
            refine ordL_done (by kernel_rfl) ?_ _
            refine NoPanic.normal ?_
            go_wp2_with fail
            go_meet
            have hZ : AtC 52 ((w10.setCell ⟨g, 0, none⟩ (.string rs)).setCell ⟨g, 1, none⟩ (.slice ad3 m cq)) g #[.string rs, .slice ad3 m cq] := by
              have h0 : AtC 52 (w10.setCell ⟨g, 0, none⟩ (.string rs)) g #[.string rs, .slice pp ln cp] := block_setCell hX10
              exact block_setCell h0
            exact ⟨rfl, ad3, cq, hZ, sf_by hv10 hX10, hb10.trans ((((Only.refl g w10).setCell 0 _).setCell 1 _).below (Nat.le_refl _))⟩
          exact AllReadyL.nil
        exact AllReadyL.nil
      exact AllReadyL.nil
    exact AllReadyL.nil
  case rest =>
  obtain ⟨rfl, a1, c1, hX, hv, hb⟩ := hcut
  have hz1000 : zs.length ≤ 1000 := by omega
  clear hX4 hbb4 HR HC1 hac hac2 hm hmc hm0 hm33 hlc hcm
  rename World => w5
  subst hzl
  have hrun := Lib.hid (fun (W : World) (h : W.ownsRow g 26 1 (.slice a1 zs.length c1) zs.length (zs.map (Value.int .u32))) => by_reads h)
  have HM : Hid (∀ k, k < zs.length → 0 ≤ zs[k]?.getD 0 ∧ zs[k]?.getD 0 ≤ 4294967295) := Lib.hid (fun k hk => HUS.out _ (by simp [hk]))
  have HT : Hid (∀ k, k < zs.length → zs.take (k + 1) = zs.take k ++ [zs[k]?.getD 0]) := Lib.hid (fun k hk => by rw [List.take_succ_eq_append_getElem hk]; simp [hk])
  have HI : Hid (∀ k, k < zs.length → ∀ b : Bool, (b = true ↔ src ∈ zs.take k) → ((b || zs[k]?.getD 0 == src) = true ↔ src ∈ zs.take (k + 1))) := Lib.hid (fun k hk b hb => by rw [HT.out k hk, List.mem_append, Bool.or_eq_true, hb, beq_iff_eq, List.mem_singleton, eq_comm])
  have hgl := hX.lt
  obtain ⟨x0, x1⟩ := hX.cells2
  have hXa := hX.alloc (.cells #[.string rs, .slice none 0 0] 55)
  have hva := hv.alloc (.cells #[.string rs, .slice none 0 0] 55)
  have hYa := atC_new 55 w5 #[.string rs, .slice none 0 0]
  have hba := hb.alloc (by omega) (.cells #[.string rs, .slice none 0 0] 55)
  go_upto_region 5 with fail
  generalize w5.alloc (.cells #[.string rs, .slice none 0 0] 55) = w6 at hXa hva hYa hba ⊢
  have hgx : g < w5.heap.size := hgl
  generalize w5.heap.size = gx at hYa hgx ⊢
  clear hX hv hb hgl x0 x1
  obtain ⟨x0, x1⟩ := hXa.cells2
  go_wp2_with fail
  go_loopw [6, 33] (fun z i wr => ∃ (k : Nat) (b : Bool) (av : Option Addr) (cv : Nat), k ≤ zs.length ∧ i = .int .i64 k ∧ z = .bool b ∧ Hid (b = true ↔ src ∈ zs.take k) ∧ AtC 52 wr g #[.string rs, .slice a1 zs.length c1] ∧ wr.ownsRow g 26 1 (.slice a1 zs.length c1) zs.length (zs.map (Value.int .u32)) ∧ AtC 55 wr gx #[.string rs, .slice av k cv] ∧ wr.ownsRow g 3 1 (.slice av k cv) k ((zs.take k).map (Value.int .i64)) ∧ Below g w wr) (fun _ i _ => zs.length - (intOf i).toNat)
  case atStart => exact ⟨0, false, none, 0, Nat.zero_le _, rfl, rfl, Lib.hid (by simp), hXa, hva, hYa, World.ownsRow_nil _ _ _ _, hba⟩
  case round =>
    obtain ⟨k, b, av, cv, hk, rfl, rfl, hbi, hXk, hvk, hYk, ho, hbk⟩ := hrel
    clear hXa hva hYa hba x0 x1
    have hgk : g < wr.heap.size := hXk.lt
    by_cases hlt : k < zs.length
    · obtain ⟨ab, off, hab, hcell⟩ := (hrun.out _ hvk).at hlt
      obtain ⟨m0, m1⟩ := HM.out k hlt
      have ht := Lib.hid (HT.out k hlt)
      have hi2 := Lib.hid (HI.out k hlt b hbi.out)
      have hlk : (zs.take k).length = k := by rw [List.length_take]; omega
      generalize zs[k]?.getD 0 = x at hcell m0 m1 ht hi2
      generalize zs.take k = ZK at ho ht hlk
      have hw : IntKind.i64.wrap x = x := IntWalk.i64_in _ ⟨by omega, by omega⟩
      obtain ⟨y0, y1⟩ := hYk.cells2
      cases hab
      go_wp2_with (at_builtin; refine step_srcR rfl (.tmp 38) (.tmp 41) rfl g (.slice av k cv) k ZK x hlk ho (by omega) (by omega) (by rfl) (by rfl) ?_)
      intro ad cq w7 H7
      obtain ⟨ho7, hbl7, hrw7, hbe7, hsz7⟩ := H7.out
      have hX7 : AtC 52 w7 g #[.string rs, .slice (some ⟨ab, off, none⟩) zs.length c1] := hbl7 (o := .cells #[.string rs, .slice (some ⟨ab, off, none⟩) zs.length c1] 52 (0, 0)) hXk (by intro cur q q2 e; cases e)
      have hY7 : AtC 55 w7 gx #[.string rs, .slice av k cv] := hbl7 (o := .cells #[.string rs, .slice av k cv] 55 (0, 0)) hYk (by intro cur q q2 e; cases e)
      have hv7 := hrw7 (by decide) hvk
      have hb7 := hbe7 _ _ (Nat.le_refl _) hbk
      obtain ⟨z0, z1⟩ := hY7.cells2
      have f1 := hY7.free 1
      go_upto_region 10 with fail
      have hY8 : AtC 55 (w7.setCell ⟨gx, 1, none⟩ (.slice ad (k + 1) cq)) gx #[.string rs, .slice ad (k + 1) cq] := block_setCell hY7
      have hX8 := hX7.only (Nat.ne_of_lt hgx) ((Only.refl gx w7).setCell 1 (.slice ad (k + 1) cq))
      have hv8 := ownB_store (i := 1) (u := .slice ad (k + 1) cq) hv7 hY7 (by decide)
      have ho8 := ownB_store (i := 1) (u := .slice ad (k + 1) cq) ho7 hY7 (by decide)
      have hb8 := hb7.setCell (p := ⟨gx, 1, none⟩) (Nat.le_of_lt hgx) (.slice ad (k + 1) cq)
      generalize w7.setCell ⟨gx, 1, none⟩ (.slice ad (k + 1) cq) = w8 at hY8 hX8 hv8 ho8 hb8 ⊢
      have ho9 : w8.ownsRow g 3 1 (.slice ad (k + 1) cq) (k + 1) ((zs.take (k + 1)).map (Value.int .i64)) := by rw [ht.out, List.map_append]; simpa using ho8
      clear ho8
      clear hXk hvk hYk ho hbk hX7 hY7 hv7 hb7 H7 ho7 hbl7 hrw7 hbe7 hsz7 hcell y0 y1 z0 z1 f1 hgk
      cases b
      · go_wp2_with fail
        go_roundw
        case rel => exact ⟨k + 1, (x == src), ad, cq, by omega, by go_num, rfl, Lib.hid hi2.out, hX8, hv8, hY8, ho9, hb8⟩
        case measure => simp [intOf]; omega
      · go_wp2_with fail
        go_roundw
        case rel => exact ⟨k + 1, true, ad, cq, by omega, by go_num, rfl, Lib.hid hi2.out, hX8, hv8, hY8, ho9, hb8⟩
        case measure => simp [intOf]; omega
    · obtain rfl : k = zs.length := by omega
      have hbb : b = true ↔ src ∈ zs := by have h := hbi.out; rwa [List.take_length] at h
      rw [List.take_length] at ho
      have hrX := by_reads hvk
      have hrY := by_readsI ho
      have hus : ∀ x ∈ zs, 0 ≤ x ∧ x ≤ 4294967295 := HUS.out
      clear hbi hvk ho hrun HM HT HI
      have hP := fun (W : World) (h : Reads .u32 W a1 zs) => byePiece_any ⟨rs, zs⟩ a1 c1 W h (show zs.length ≤ 1000000 by omega) (show rs.size ≤ 9223372036854775807 by omega)
      have hRP := fun (W : World) (h : Reads .i64 W av zs) => refByePiece_any ⟨rs, zs⟩ av cv W h (show zs.length ≤ 1000 by omega) (show rs.size ≤ 1000000 by omega) hus
      have hGO := fun (W : World) (h : Reads .u32 W a1 zs) => goes_any ⟨rs, zs⟩ src a1 c1 W h (show zs.length ≤ 1000000 by omega) b hbb
      obtain ⟨p1, p2, p3⟩ := byP_small ⟨rs, zs⟩
      have hback := fun (h : byMay ⟨rs, zs⟩) => by_back ⟨rs, zs⟩ h hus
      have hkind : byMay ⟨rs, zs⟩ → (byP ⟨rs, zs⟩).kind = 203 := fun h => by unfold byP; rw [if_pos h]
      obtain ⟨⟨pc, pk, pb⟩, hq⟩ : ∃ q, byP ⟨rs, zs⟩ = q := ⟨_, rfl⟩
      simp only [hq] at hP hRP p1 p2 p3 hback hkind
      simp only at hP hRP hGO
      have HP := Lib.hid hP
      have HRP := Lib.hid hRP
      have HGO := Lib.hid hGO
      have HB := Lib.hid hback
      have H2 := Lib.hid p2
      have H3 := Lib.hid p3
      have HK := Lib.hid hkind
      have HBB := Lib.hid hbb
      clear hP hRP hGO hback p2 p3 hkind hbb hq
      obtain ⟨x0, x1⟩ := hXk.cells2
      have hgk := hXk.lt
      go_wp2_with fail
      refine (HP.out _ hrX).mono ?_
      rintro e w9 ⟨rfl, hk9⟩
      have hQ := (Below.refl w9.heap.size w9).alloc (Nat.le_refl _) (.cells #[.int .i64 pc, .int .i64 pk, .string pb] 33)
      have hX10 := (hXk.later hk9).alloc (.cells #[.int .i64 pc, .int .i64 pk, .string pb] 33)
      have hY10 := (hYk.later hk9).alloc (.cells #[.int .i64 pc, .int .i64 pk, .string pb] 33)
      have hP10 := atC_new 33 w9 #[.int .i64 pc, .int .i64 pk, .string pb]
      have hrX10 := (hrX.later hk9).later hQ
      have hrY10 := (hrY.later hk9).later hQ
      have hb10 := (hbk.trans (hk9.mono (by omega))).alloc (by have := (hXk.later hk9).lt; omega) (.cells #[.int .i64 pc, .int .i64 pk, .string pb] 33)
      go_upto_region 13 with fail
      generalize w9.alloc (.cells #[.int .i64 pc, .int .i64 pk, .string pb] 33) = w10 at hX10 hY10 hP10 hrX10 hrY10 hb10 ⊢
      generalize w9.heap.size = gp at hP10 ⊢
      clear hXk hYk hrX hrY hbk hk9 hQ hgk x0 x1 HP
      have hl10 := hX10.lt
      have HS := Lib.hid (fun (W : World) (h : Below w10.heap.size w10 W) => by_S (hP10.later h) (hX10.later h) (hY10.later h) h)
      have HRP2 := Lib.hid (fun (W : World) (h : Below w10.heap.size w10 W) => HRP.out W (hrY10.later h))
      have HGO2 := Lib.hid (fun (W : World) (h : Below w10.heap.size w10 W) => HGO.out W (hrX10.later h))
      go_cut [63] (fun z wx => z = .bool false ∧ Below w10.heap.size w10 wx)
      case first =>
        go_region_held3 (fun W => W.cell? ⟨gp, 0, none⟩ = some (.int .i64 pc) ∧ W.cell? ⟨gp, 1, none⟩ = some (.int .i64 pk) ∧ W.cell? ⟨gp, 2, none⟩ = some (.string pb) ∧ W.cell? ⟨g, 0, none⟩ = some (.string rs) ∧ W.cell? ⟨g, 1, none⟩ = some (.slice a1 zs.length c1) ∧ W.cell? ⟨gx, 0, none⟩ = some (.string rs) ∧ W.cell? ⟨gx, 1, none⟩ = some (.slice av zs.length cv) ∧ Below w10.heap.size w10 W) (first | (go_keep; done) | exact HS.out _ (Below.drew (Below.refl _ _)) | exact HS.out _ (Below.trans (by go_split_ands; assumption) (Below.mono (by assumption) (Below.size (by go_split_ands; assumption)))) | (go_split_ands; assumption)) (first | (go_at_call 25; refine (HRP2.out _ (by go_split_ands; assumption)).mono ?_; rintro e w11 ⟨rfl, hk11⟩) | (go_at_call 26; refine (HGO2.out _ (by go_split_ands; assumption)).mono ?_; rintro e w12 ⟨rfl, hk12⟩))
        all_goals
          go_wp2_with fail
          go_meet
          exact ⟨by simp, by go_split_ands; assumption⟩
      case rest =>
      obtain ⟨rfl, hk13⟩ := hcut
      have hX13 := hX10.later hk13
      have hY13 := hY10.later hk13
      have hP13 := hP10.later hk13
      have hrY13 := hrY10.later hk13
      have hb13 := hb10.trans (hk13.mono (by omega))
      clear hX10 hY10 hP10 hrX10 hrY10 hb10 hl10 HS HRP HGO HRP2 HGO2 hk13
      rename World => w13
      obtain ⟨p0, p1', p2'⟩ := hP13.cells3
      by_cases hmay : byMay ⟨rs, zs⟩
      · obtain ⟨hb0, hb1⟩ := HB.out hmay
        have hpk : pk = 203 := HK.out hmay
        have hmy := H3.out hmay
        subst hpk
        have hT := toBye_any ⟨pc, 203, pb⟩
        unfold ToBd at hT
        simp only [hb0, hb1] at hT
        have HT := Lib.hid (fun W => hT W (show pb.size ≤ 1099511627776 by omega))
        clear hT hb0 hb1 HB HK H2 H3
        have l13 := hX13.lt
        go_wp2_with fail
        refine (HT.out _).mono ?_
        rintro e w14 ⟨hk14, a2, c2, rfl, hr14⟩
        have hQ := (Below.refl w14.heap.size w14).alloc (Nat.le_refl _) (.cells #[.string rs, .slice a2 zs.length c2] 52)
        have hY15 := (hY13.later hk14).alloc (.cells #[.string rs, .slice a2 zs.length c2] 52)
        have hP15 := (hP13.later hk14).alloc (.cells #[.string rs, .slice a2 zs.length c2] 52)
        have hN15 := atC_new 52 w14 #[.string rs, .slice a2 zs.length c2]
        have hr15 := hr14.later hQ
        have hrY15 := (hrY13.later hk14).later hQ
        have hb15 := (hb13.trans (hk14.mono (by omega))).alloc (by have := (hX13.later hk14).lt; omega) (.cells #[.string rs, .slice a2 zs.length c2] 52)
        have l15 : g ≤ w14.heap.size := by have := (hX13.later hk14).lt; omega
        go_upto_region 18 with fail
        have l16 : g ≤ (w14.alloc (.cells #[.string rs, .slice a2 zs.length c2] 52)).heap.size := by simp; omega
        generalize w14.alloc (.cells #[.string rs, .slice a2 zs.length c2] 52) = w15 at hY15 hP15 hN15 hr15 hrY15 hb15 l16 ⊢
        generalize w14.heap.size = gt at hN15 ⊢
        clear hX13 hY13 hP13 hrY13 hb13 hk14 hr14 hQ l13 l15 p0 p1' p2'
        obtain ⟨y0, y1⟩ := hY15.cells2
        obtain ⟨n0, n1⟩ := hN15.cells2
        go_wp2_with fail
        refine (byeSame_t ⟨rs, zs⟩ a2 av c2 cv _ (show zs.length ≤ 1000000 by omega) hr15 hrY15 hus).mono ?_
        rintro e w16 ⟨rfl, hk16⟩
        have hP16 := hP15.later hk16
        have hb16 := hb15.trans (hk16.mono l16)
        obtain ⟨p0, p1', p2'⟩ := hP16.cells3
        have l17 : g ≤ w16.heap.size := Nat.le_trans l16 hk16.size
        go_wp2_with fail
        refine (pcCheck_any ⟨pc, 203, pb⟩ _ (show pb.size ≤ 9223372036854775807 by omega) 0 (.inl ⟨rfl, hmy⟩)).mono ?_
        rintro e w17 ⟨rfl, hk17⟩
        have hb17 := hb16.trans (hk17.mono l17)
        go_wp2_with fail
        go_ret
        exact ⟨rfl, by rw [HG.out]; exact hb17⟩
      · have hz := H2.out.2 hmay
        obtain ⟨rfl, rfl, rfl⟩ : pc = 0 ∧ pk = 0 ∧ pb = { data := #[] } := by cases hz; exact ⟨rfl, rfl, rfl⟩
        clear HB HK H2 H3
        go_wp2_with fail
        go_ret
        exact ⟨rfl, by rw [HG.out]; exact hb13⟩
end notesByes
end Go.Proofs.Ytjoikidnnhjogaa
