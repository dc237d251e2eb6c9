/- NotesApart: for every input the call answers true, and each argument reads behind the call as it read before. No conditions. -/
import Derived.OrdersHeld
import Derived.RegionTactic
import Derived.Deep.RegionHeld3
import Derived.Test.YtjoikidnnhjogaaNtK
import Derived.Test.YtjoikidnnhjogaaNtL
import Derived.Test.YtjoikidnnhjogaaNtJ
import Derived.Test.YtjoikidnnhjogaaPcC
import Derived.Test.YtjoikidnnhjogaaCut
import Derived.Laws.AppendOwnNone
import Derived.Test.YtjoikidnnhjogaaNx
import Derived.WalkKit
import Derived.ProofKit
import Derived.OpenShut
import Derived.ShutString
import Derived.ChangeOld
import Derived.Below
import Derived.SliceStrings
import Derived.Lib.SmallJoins
namespace Go.Proofs.Ytjoikidnnhjogaa
open Go
set_option linter.unusedVariables false
section
variable {P : Program} {ops : Array Oper} {Q : Exit → Act → World → Prop} {md : Region.Mode} {S : World → Prop} {L : Nat}
/-- As 'wpAnyH', but behind number L nothing is asked of the world. -/
def wpAnyL (P : Program) (md : Region.Mode) (ops : Array Oper) (Q : Exit → Act → World → Prop) (S : World → Prop) (L : Nat) : Nat → Array Bool → Act → World → Prop
  | 0, listed, a, w => Region.ready md ops listed = [] ∧ Q .normal a w
  | fuel + 1, listed, a, w =>
    (Region.ready md ops listed = [] → Q .normal a w) ∧
    ∀ i ∈ Region.ready md ops listed, wpOp P ops Q i (fun a' w' => (i ≠ L → S w') ∧ wpAnyL P md ops Q S L fuel (listed.setIfInBounds i true) a' w') a w
theorem wpAny_of_L : ∀ (fuel : Nat) (listed : Array Bool) (a : Act) (w : World), wpAnyL P md ops Q S L fuel listed a w → wpAny P md ops Q fuel listed a w
  | 0, _, _, _, h => h
  | fuel + 1, _, _, _, h => ⟨h.1, fun i hi => wpOp_mono (fun a' w' h' => wpAny_of_L fuel _ a' w' h'.2) (h.2 i hi)⟩
theorem wpAnyL_first {i : Nat} {oi : Oper} {v : Value} (hi : ops[i]? = some oi) (hsel : ∀ (j : Nat) (o : Oper) cs b, ops[j]? = some o → o.op ≠ .select cs b)
    (hQ : ∀ c a w, Q (.panic c) (a.put oi.dst v) w → Q (.panic c) a w) (hiL : i ≠ L) (hL : ∀ oL, ops[L]? = some oL → ∃ e ∈ oL.after, Region.binds md e = true ∧ e.on = i) :
    ∀ (fuel : Nat) (listed : Array Bool) (a : Act) (w : World),
      (∀ j oj, ops[j]? = some oj → j ≠ i → listed.getD j true = false → (∀ e ∈ oj.after, Region.binds md e = true → e.on ≠ i) → oi.apart ops oj = true) →
      i ∈ Region.ready md ops listed → YieldsIf P ops S oi v a → S w →
      wpAnyL P md ops Q S L fuel (listed.setIfInBounds i true) (a.put oi.dst v) w → wpAnyL P md ops Q S L (fuel + 1) listed a w := by
  intro fuel
  induction fuel with
  | zero =>
    intro listed a w _ hr hy hS H
    refine ⟨fun h => (by rw [h] at hr; cases hr), fun j hj => ?_⟩
    by_cases hji : j = i
    · subst hji; exact hy.wpOp hi hS ⟨fun _ => hS, H⟩
    · have := ready_mono hj hji
      rw [H.1] at this
      cases this
  | succ fuel ih =>
    intro listed a w hfree hr hy hS H
    refine ⟨fun h => (by rw [h] at hr; cases hr), fun j hj => ?_⟩
    by_cases hji : j = i
    · subst hji; exact hy.wpOp hi hS ⟨fun _ => hS, H⟩
    · have h1 := H.2 j (ready_mono hj hji)
      obtain ⟨hjun, oj, hoj, hall⟩ := mem_ready.1 hj
      have hnot : ∀ e ∈ oj.after, Region.binds md e = true → e.on ≠ i := fun e he hb heq => by
        have h1 := hall e he hb
        have h0 := (mem_ready.1 hr).1
        rw [heq] at h1
        rcases Nat.lt_or_ge i listed.size with h' | h'
        · simp [h'] at h0 h1; rw [h0] at h1; cases h1
        · simp [Array.getElem?_eq_none h'] at h1
      have hjL : j ≠ L := fun e => by
        subst e
        obtain ⟨e, he, hb, hon⟩ := hL oj hoj
        exact hnot e he hb hon
      have h2 := wpOp_putIf hoj (hfree j oj hoj hji hjun hnot) (fun cs b => hsel i oi cs b hi) (fun cs b => hsel j oj cs b hoj) hQ hy h1
      have hfree' : ∀ k ok, ops[k]? = some ok → k ≠ i → (listed.setIfInBounds j true).getD k true = false →
          (∀ e ∈ ok.after, Region.binds md e = true → e.on ≠ i) → oi.apart ops ok = true := fun k ok hk hki hun hno => by
        refine hfree k ok hk hki ?_ hno
        by_cases hjk : j = k
        · subst hjk; exact hjun
        · rw [getD_set_ne true hjk] at hun; exact hun
      refine wpOp_mono (fun a' w' h3 => ⟨fun _ => h3.2.1 hjL, ih (listed.setIfInBounds j true) a' w' hfree' (ready_mono hr (Ne.symm hji)) h3.1 (h3.2.1 hjL) ?_⟩) h2
      rw [Array.setIfInBounds_comm _ _ hji]
      exact h3.2.2
/-- Number L waits for number i. -/
def waitsFor (md : Region.Mode) (l : List Oper) (L i : Nat) : Bool := match l[L]? with
  | some o => o.after.any (fun e => Region.binds md e && e.on == i)
  | none => false
theorem waits_spec {l : List Oper} {i : Nat} (h : waitsFor md l L i = true) : ∀ oL, l.toArray[L]? = some oL → ∃ e ∈ oL.after, Region.binds md e = true ∧ e.on = i := by
  intro oL ho
  unfold waitsFor at h
  have ho' : l[L]? = some oL := by simpa using ho
  rw [ho'] at h
  simp only [Array.any_eq_true'] at h
  obtain ⟨e, he, hb⟩ := h
  simp only [Bool.and_eq_true, beq_iff_eq] at hb
  exact ⟨e, he, hb.1, hb.2⟩
theorem ordL_take {l : List Oper} (i : Nat) {oi : Oper} (v : Value) {fuel : Nat} {listed : Array Bool} {a : Act} {w : World} (hi : l[i]? = some oi)
    (hs : Region.noSelect l.toArray = true) (hf : Region.free md l.toArray listed i = true) (hr : (Region.ready md l.toArray listed).contains i = true) (hiL : (i == L) = false) (hw : waitsFor md l L i = true)
    (hQ : ∀ c a w, Q (.panic c) (a.put oi.dst v) w → Q (.panic c) a w) (hg : Region.wanted oi (yielded l.toArray a.tmps) = true) (hy : ∀ W, S W → (execOp a.eval oi).run P W = .ok (.value v) W) (hS : S w)
    (h : wpAnyL P md l.toArray Q S L fuel (listed.setIfInBounds i true) (a.put oi.dst v) w) : wpAnyL P md l.toArray Q S L (fuel + 1) listed a w :=
  wpAnyL_first (by simpa using hi) (Region.noSelect_spec hs) hQ (by simpa using hiL) (waits_spec hw) fuel listed a w (Region.free_spec (by simpa using hi) hf) (by simpa using hr) (.inl ⟨hg, hy⟩) hS h
def AllReadyL (P : Program) (md : Region.Mode) (ops : Array Oper) (Q : Exit → Act → World → Prop) (S : World → Prop) (L : Nat) (fuel : Nat) (listed : Array Bool) (a : Act) (w : World) (rs : List Nat) : Prop :=
  ∀ i ∈ rs, wpOp P ops Q i (fun a' w' => (i ≠ L → S w') ∧ wpAnyL P md ops Q S L fuel (listed.setIfInBounds i true) a' w') a w
theorem AllReadyL.nil {fuel : Nat} {listed : Array Bool} {a : Act} {w : World} : AllReadyL P md ops Q S L fuel listed a w [] := fun _ h => by cases h
theorem AllReadyL.cons {l : List Oper} {fuel : Nat} {listed : Array Bool} {a : Act} {w : World} {i : Nat} {o : Oper} {rs : List Nat} (ho : l[i]? = some o)
    (h : ∀ K' : Act → World → Prop, Shut (∀ a w, (i ≠ L → S w) → wpAnyL P md l.toArray Q S L fuel (listed.setIfInBounds i true) a w → K' a w) → if Region.wanted o (yielded l.toArray a.tmps) = true then Oper.wp P o a w K' Q else K' (a.put o.dst undef) w)
    (hs : AllReadyL P md l.toArray Q S L fuel listed a w rs) : AllReadyL P md l.toArray Q S L fuel listed a w (i :: rs) := fun j hj => by
  rcases List.mem_cons.1 hj with rfl | hj
  · exact wpOp_step (by simpa using ho) (fun K' hK => h K' (fun a w hS hW => hK a w ⟨hS, hW⟩))
  · exact hs j hj
theorem ordL_ready (rs : List Nat) {fuel : Nat} {listed : Array Bool} {a : Act} {w : World} (hr : Region.ready md ops listed = rs) (hne : rs ≠ [])
    (h : AllReadyL P md ops Q S L fuel listed a w rs) : wpAnyL P md ops Q S L (fuel + 1) listed a w :=
  ⟨fun h0 => absurd (hr ▸ h0) hne, hr ▸ h⟩
theorem ordL_done {listed : Array Bool} {a : Act} {w : World} (hr : Region.ready md ops listed = []) (h : Q .normal a w) : ∀ fuel, wpAnyL P md ops Q S L fuel listed a w
  | 0 => ⟨hr, h⟩
  | _ + 1 => ⟨fun _ => h, by rw [hr]; simp⟩
theorem ordL_begin {l : List Oper} (S : World → Prop) (L : Nat) {id : Nat} {a : Act} {w : World} (hm : P.follows .mixedOrders = true) (hS : S w.drew)
    (h : wpAnyL P .any l.toArray Q S L l.length (Array.replicate l.length false) a w.drew) : (Code.region id l.toArray true).wp P Q a w := by
  have e : l.toArray.size = l.length := by simp
  rw [← e] at h
  exact wp_region_any hm (wpAny_of_L _ _ _ _ h)
end
end Go.Proofs.Ytjoikidnnhjogaa

/- NotesByes: the walk. -/
namespace Go.Proofs.Ytjoikidnnhjogaa
open Go.RowKit
set_option linter.unusedVariables false
/-- 'append([]uint32{}, s[:m]...)', the append, in a region that draws its order. -/
theorem step_cutU {T : TypeId} {ops : Array Oper} {o : Oper} {a : Act} {w : World} {K : Act → World → Prop} {Q : Exit → Act → World → Prop} {E : Prop} (hgd : o.guard = none) (s x : Operand)
    (ho : o.op = .call { callee := .builtin .append, args := #[s, x], argTypes := #[50, 50] })
    (B g : Nat) (cs : Array Value) (v : Value) (aa : Option Addr) (m c : Nat) (zs : List Int) (hT : T ≠ 26) (hX : AtC T w g cs) (hv : w.ownsRow B 26 1 v 0 []) (hs : a.eval s = v) (hx : a.eval x = .slice aa m c)
    (hzl : zs.length = m) (hac : (aa = none ∧ m = 0 ∧ c = 0) ∨ ∃ y, aa = some y) (hr : Reads .u32 w aa zs) (hm : m ≤ 1000) (hB : B ≤ w.heap.size)
    (h : ∀ ad c' w', Hid (w'.ownsRow B 26 1 (.slice ad m c') m (zs.map (Value.int .u32)) ∧ AtC T w' g cs ∧ (∀ B0 w0, B0 ≤ B → Below B0 w0 w → Below B0 w0 w')) → K (a.put o.dst (.slice ad m c')) w') :
    if Region.wanted o (yielded ops a.tmps) = true then Oper.wp Try.prog o a w K Q else E := by
  obtain ⟨i0, hi, hz0, hz1, hz2⟩ := info_parts info32
  rcases hac with ⟨rfl, rfl, rfl⟩ | ⟨y, rfl⟩
  · obtain rfl : zs = [] := List.length_eq_zero_iff.1 hzl
    rw [if_pos (by simp [Region.wanted, hgd])]
    have hrun := run_append_owned_none (P := Try.prog) (w := w) B 50 o.type 26 i0 1 Try.underlying50 hi v 0 [] hv
    obtain ⟨ad, c', rfl⟩ := own_slice hv
    obtain ⟨rfl, rfl⟩ | ⟨g', cap', rfl, rfl⟩ : (ad = none ∧ c' = 0) ∨ ∃ g' cap', ad = some ⟨g', 0, none⟩ ∧ c' = cap' := by
      rcases hv.2 with ⟨e, _⟩ | ⟨g', cap', cur, e, _⟩
      · cases e; exact .inl ⟨rfl, rfl⟩
      · cases e; exact .inr ⟨g', _, rfl, rfl⟩
    · unfold Oper.wp
      simp [execOp, ho, resolve, invoke, builtin, hs, hx, hrun, Result.andThen]
      exact h _ _ _ (Lib.hid ⟨hv, hX, fun _ _ _ hb => hb⟩)
    · unfold Oper.wp
      simp [execOp, ho, resolve, invoke, builtin, hs, hx, hrun, Result.andThen]
      exact h _ _ _ (Lib.hid ⟨hv, hX, fun _ _ _ hb => hb⟩)
  · refine step_append_own hgd s x _ ho B 26 i0 (.int .u32 0) 1 4 Try.underlying50 hi hz0 hz1 hz2 rfl (by decide) v 0 [] hs hv y m c (zs.map (Value.int .u32)) hx (by simp [hzl]) ?_ ?_ (by unfold maxLen; omega) (by omega) hB ?_
    · intro j u hj
      rcases hr with h0 | ⟨b, off, hbo, hcx⟩
      · rw [h0] at hj; simp at hj
      · cases hbo
        have hjl : j < zs.length := by have := (List.getElem?_eq_some_iff.1 hj).1; simpa using this
        rw [Go.WideShapes.add_plain, hcx j hjl]
        simp [hjl] at hj ⊢
        exact hj
    · intro u hu; simp at hu; obtain ⟨z, _, rfl⟩ := hu; rfl
    · intro v' w' hown hgrow _
      rw [Nat.zero_add] at hown
      obtain ⟨ad, c', rfl⟩ := own_slice hown
      refine h ad c' w' (Lib.hid ⟨hown, ?_, fun B0 w0 h0 hb => hb.grown hgrow (by omega) (fun k hk => Nat.le_trans h0 (hv.lt k hk).1)⟩)
      unfold AtC
      rw [hgrow.block g hX.lt (row_neP hv hX (by intro cur q e; simp at e; exact hT e.2.1))]
      exact hX
/-- 'x.Sources = append(x.Sources, n)', the append, in the document's. -/
theorem step_srcR {ops : Array Oper} {o : Oper} {a : Act} {w : World} {rest : List Oper} {Q : Exit → Act → World → Prop} (hgd : o.guard = none) (s x : Operand)
    (ho : o.op = .call { callee := .builtin .append, args := #[s, x], argTypes := #[53, 53] })
    (B : Nat) (v : Value) (k : Nat) (xs : List Int) (u : Int) (hk : xs.length = k)
    (hv : w.ownsRow B 3 1 v k (xs.map (Value.int .i64))) (hB : B ≤ w.heap.size) (hl : k ≤ 1000) (hs : a.eval s = v) (hx : a.eval x = .slice (some ⟨w.heap.size, 0, none⟩) 1 1)
    (h : ∀ ad c w', Hid (w'.ownsRow B 3 1 (.slice ad (k + 1) c) (k + 1) ((xs ++ [u]).map (Value.int .i64)) ∧ (∀ {k : Nat} {o : Obj}, w.heap[k]? = some o → (∀ cur q, o ≠ .cells cur 3 q) → w'.heap[k]? = some o) ∧ (∀ {B2 : Nat} {e2 : TypeId} {m2 : Nat} {v2 : Value} {n2 : Nat} {ys : List Value}, e2 ≠ 3 → w.ownsRow B2 e2 m2 v2 n2 ys → w'.ownsRow B2 e2 m2 v2 n2 ys) ∧ (∀ B0 w0, B0 ≤ B → Below B0 w0 w → Below B0 w0 w') ∧ w.heap.size ≤ w'.heap.size) → wpList Try.prog ops Q rest (a.put o.dst (.slice ad (k + 1) c)) w') :
    wpList Try.prog ops Q (o :: rest) a (w.alloc (.cells #[.int .i64 u] 3)) := by
  obtain ⟨i0, hi, hz0, hz1, hz2⟩ := info_parts info64r
  have hv1 := hv.alloc (.cells #[.int .i64 u] 3)
  refine wpList_append_own _ hgd s x _ ho B 3 i0 (.int .i64 0) 1 8 Try.underlying53 hi hz0 hz1 hz2 rfl (by decide) v k (xs.map (Value.int .i64)) hs hv1 ⟨w.heap.size, 0, none⟩ 1 1 [.int .i64 u] hx rfl ?_ ?_ (by unfold maxLen; omega) (by omega) (by simp; omega) ?_
  · intro j u' hj
    match j, hj with
    | 0, hj => simp at hj; subst hj; simp [Addr.add]
  · intro u' hu; simp at hu; subst hu; rfl
  · intro v' w' hown hgrow _
    obtain ⟨ad, c, rfl⟩ := own_slice hown
    refine h ad c w' (Lib.hid ⟨by rw [List.map_append]; exact hown, fun {k o} hk hn => ?_, fun hne h2 => (h2.alloc _).kept hgrow (own_apart hv1 (h2.alloc _) hne), fun B0 w0 h0 hb => ?_, by have := hgrow.size; simp at this; omega⟩)
    · rw [hgrow.block _ (by have := lt_of_block hk; simp; omega) (row_neP hv hk hn)]
      exact heap_at_old _ _ _ _ hk
    · exact (hb.alloc (by omega) _).grown hgrow (by simp; omega) (fun k hk => Nat.le_trans h0 (hv1.lt k hk).1)
theorem byP_small (y : BY) : (byP y).body.size ≤ 4000 ∧ (byP y = zeroPC ↔ ¬ byMay y) ∧ (byMay y → pcMay (byP y)) := by
  by_cases hm : byMay y
  · have e : byP y = ⟨(y.srcs.length : Nat), 203, ofL (byL y)⟩ := by unfold byP; rw [if_pos hm]
    obtain ⟨m1, m2⟩ := id hm
    have hl : (byL y).length % 4 = 0 ∧ (byL y).length ≤ 2000 := by
      unfold byL rsL
      by_cases h0 : y.reason.size = 0
      · rw [if_pos h0, List.append_nil, bes_len]; omega
      · rw [if_neg h0]
        simp only [List.length_append, bes_len, be_len, by_len, List.length_replicate]
        unfold upW
        omega
    refine ⟨?_, ?_, ?_⟩
    · rw [e]; simp only [ofL_size]; omega
    · rw [e]
      refine ⟨fun h => ?_, fun h => absurd hm h⟩
      have : (203 : Int) = 0 := congrArg PC.kind h
      cases this
    · intro _
      rw [e]
      unfold pcMay
      simp only [ofL_size]
      omega
  · have e : byP y = zeroPC := by unfold byP; rw [if_neg hm]
    refine ⟨?_, ?_, fun h => absurd h hm⟩
    · rw [e]; decide
    · rw [e]; exact ⟨fun _ => hm, fun _ => rfl⟩
theorem by_S {T U V : TypeId} {W w : World} {B g b d : Nat} {c0 c1 c2 e0 e1 i0 i1 : Value} (h : AtC T W g #[c0, c1, c2]) (k : AtC U W b #[e0, e1]) (l : AtC V W d #[i0, i1]) (hb : Below B w W) : W.cell? ⟨g, 0, none⟩ = some c0 ∧ W.cell? ⟨g, 1, none⟩ = some c1 ∧ W.cell? ⟨g, 2, none⟩ = some c2 ∧ W.cell? ⟨b, 0, none⟩ = some e0 ∧ W.cell? ⟨b, 1, none⟩ = some e1 ∧ W.cell? ⟨d, 0, none⟩ = some i0 ∧ W.cell? ⟨d, 1, none⟩ = some i1 ∧ Below B w W := by
  obtain ⟨a0, a1, a2⟩ := h.cells3
  obtain ⟨f0, f1⟩ := k.cells2
  obtain ⟨j0, j1⟩ := l.cells2
  exact ⟨a0, a1, a2, f0, f1, j0, j1, hb⟩
theorem by_readsI {w : World} {g : Nat} {a : Option Addr} {c : Nat} {zs : List Int} (h : w.ownsRow g 3 1 (.slice a zs.length c) zs.length (zs.map (Value.int .i64))) : Reads .i64 w a zs := by
  obtain ⟨a', c', e, _, _, _, hr⟩ := own_reads h
  cases e
  exact hr
theorem by_reads {w : World} {g : Nat} {a : Option Addr} {c : Nat} {zs : List Int} (h : w.ownsRow g 26 1 (.slice a zs.length c) zs.length (zs.map (Value.int .u32))) : Reads .u32 w a zs := by
  obtain ⟨a', c', e, _, _, _, hr⟩ := own_reads h
  cases e
  exact hr
theorem ownB_store {w : World} {T : TypeId} {B g i : Nat} {e : TypeId} {m : Nat} {v u : Value} {n : Nat} {xs : List Value} {cs : Array Value} (h : w.ownsRow B e m v n xs) (hP : AtC T w g cs) (hne : T ≠ e) : (w.setCell ⟨g, i, none⟩ u).ownsRow B e m v n xs :=
  ownsRow_setCell_other h (fun x => row_neP h hP (by intro cur p q; simp at q; exact hne q.2.1) x.symm) _
theorem sf_by {W : World} {g : Nat} {a : Option Addr} {m c : Nat} {xs : List Value} {c0 c1 d0 d1 : Value} (hv : W.ownsRow g 26 1 (.slice a m c) m xs) (hX : AtC 52 W g #[c0, c1]) : ((W.setCell ⟨g, 0, none⟩ d0).setCell ⟨g, 1, none⟩ d1).ownsRow g 26 1 (.slice a m c) m xs := by
  have h0 : AtC 52 (W.setCell ⟨g, 0, none⟩ d0) g #[d0, c1] := block_setCell hX
  exact ownB_store (ownB_store hv hX (by decide)) h0 (by decide)
namespace notesByes
set_option maxRecDepth 100000 in
set_option maxHeartbeats 4000000 in
theorem walk (s0 : ByteArray) (pp : Option Addr) (ln cp : Nat) (z0 : List Int) (src : Int) (w00 : s0.size ≤ maxLen) (w1 : (Lit.int .u32 src).wf = true) (w : World) (w01 : IsRow .u32 w pp ln cp z0) :
    Calls Try.prog 4 #[.agg #[.string s0, .slice pp ln cp], .int .u32 src] w fun e w' => e = .returned (.bool true) ∧ Below w.heap.size w w' := by
  have hac : (pp = none ∧ ln = 0 ∧ cp = 0) ∨ ∃ y, pp = some y := by
    rcases w01 with ⟨a, b, c, _⟩ | ⟨x, e, _⟩
    · exact .inl ⟨a, b, c⟩
    · exact .inr ⟨x, e⟩
  obtain ⟨es, hel, hlc, hcm, hr0, hwf⟩ := w01.reads
  unfold maxLen at w00
  obtain ⟨m, hm⟩ : ∃ m : Nat, min (ln : Int) 33 = (m : Int) := ⟨(min (ln : Int) 33).toNat, by omega⟩
  have hm33 : m ≤ 33 := by omega
  have hmc : (m : Int) ≤ (cp : Int) := by omega
  have hm0 : (0 : Int) ≤ (m : Int) := by omega
  have hrt := hr0.take m
  have hzl : (es.take m).length = m := by rw [List.length_take]; omega
  have hus : ∀ x ∈ es.take m, 0 ≤ x ∧ x ≤ 4294967295 := fun x hx => u32_bd (hwf x (List.mem_of_mem_take hx))
  have hac2 : (pp = none ∧ m = 0 ∧ cp = 0) ∨ ∃ y, pp = some y := by
    rcases hac with ⟨a, b, c⟩ | h
    · exact .inl ⟨a, by omega, c⟩
    · exact .inr h
  generalize es.take m = zs at hrt hzl hus
  have HUS := Lib.hid hus
  have HC1 := Lib.hid (fun W => cut_any s0 260 W w00 (by decide))
  have z1 := (cut_size s0 260).1
  generalize cutB s0 260 = rs at HC1 z1
  have HR := Lib.hid (fun W (h : Below w.heap.size w W) => hrt.later h)
  clear hus hr0 hwf w01 hel hrt w1
  have hX1 := atC_new 52 w #[.string s0, .slice pp ln cp]
  have hb1 : Below w.heap.size w (w.alloc (.cells #[.string s0, .slice pp ln cp] 52)) := (Below.refl _ _).alloc (Nat.le_refl _) _
  go_enter Try.func4, Try.ntmps4
  go_upto_region 1 with fail
  generalize w.alloc (.cells #[.string s0, .slice pp ln cp] 52) = w3 at hX1 hb1 ⊢
  obtain ⟨g, hg⟩ : ∃ g, w.heap.size = g := ⟨_, rfl⟩
  have HG := Lib.hid hg
  rw [hg] at hX1 hb1 HR ⊢
  clear hg
  go_wp2_with fail
  refine (ntAwake_any _).mono ?_
  rintro e w4 ⟨rfl, hb4⟩
  have hX4 := hX1.later hb4
  have hbb4 := hb1.trans (hb4.mono (by have := hX1.lt; omega))
  clear hX1 hb1 hb4
  go_upto_region 3 with fail
  go_cut [2] (fun z1 wx => z1 = .pointer (some ⟨g, 0, none⟩) ∧ ∃ a' c', AtC 52 wx g #[.string rs, .slice a' m c'] ∧ wx.ownsRow g 26 1 (.slice a' m c') m (zs.map (Value.int .u32)) ∧ Below g w wx)
  case first =>
    obtain ⟨x0, x1⟩ := hX4.cells2
    have f0 := hX4.free 0
    have f1 := hX4.free 1
    have hrd := HR.out _ hbb4
    have hg4 := hX4.lt
    have hlc' : ((ln : Nat) : Int) ≤ (cp : Int) := by omega
    have hS4 : (fun W : World => W.cell? ⟨g, 0, none⟩ = some (.string s0) ∧ W.cell? ⟨g, 1, none⟩ = some (.slice pp ln cp)) w4.drew := ⟨x0, x1⟩
    have hX5 : AtC 52 (w4.alloc (.cells #[] 26)).drew g #[.string s0, .slice pp ln cp] := (hX4.alloc _).drew
    have hv5 : World.ownsRow (w4.alloc (.cells #[] 26)).drew g 26 1 (.slice (some ⟨w4.heap.size, 0, none⟩) 0 0) 0 [] := World.ownsRow.drew (own_made w4 g w4.heap.size (by omega) rfl)
    have hr5 : Reads .u32 (w4.alloc (.cells #[] 26)).drew pp zs := hrd.later (((Below.refl _ _).alloc (Nat.le_refl _) _).drew)
    have hb5 : Below g w (w4.alloc (.cells #[] 26)).drew := (hbb4.alloc (by omega) _).drew
    have hg5 : g ≤ (w4.alloc (.cells #[] 26)).drew.heap.size := by show g ≤ (w4.alloc _).heap.size; simp; omega
    obtain ⟨y0, y1⟩ := hX5.cells2
    have hS5 : (fun W : World => W.cell? ⟨g, 0, none⟩ = some (.string s0) ∧ W.cell? ⟨g, 1, none⟩ = some (.slice pp ln cp)) (w4.alloc (.cells #[] 26)).drew := ⟨y0, y1⟩
    refine wp_region_noPanic ?_
    refine ordL_begin (fun W : World => W.cell? ⟨g, 0, none⟩ = some (.string s0) ∧ W.cell? ⟨g, 1, none⟩ = some (.slice pp ln cp)) 13 (by kernel_rfl) hS4 ?_
    refine ordL_take 0 ?v1 rfl (by kernel_rfl) (by kernel_rfl) (by kernel_rfl) rfl (by kernel_rfl) (fun _ _ _ h => h) (by rfl) ?hy1 (by assumption) ?rest1
    case hy1 => (intro W hSw; (try dsimp only at hSw); go_simp <;> with_reducible rfl)
    (try simp only [Act.put, List.setIfInBounds_toArray, List.set_cons_zero, List.set_cons_succ])
    refine ordL_take 1 ?v2 rfl (by kernel_rfl) (by kernel_rfl) (by kernel_rfl) rfl (by kernel_rfl) (fun _ _ _ h => h) (by rfl) ?hy2 (by assumption) ?rest2
    case hy2 => (intro W hSw; (try dsimp only at hSw); go_simp <;> with_reducible rfl)
    (try simp only [Act.put, List.setIfInBounds_toArray, List.set_cons_zero, List.set_cons_succ])
    refine ordL_take 4 ?v3 rfl (by kernel_rfl) (by kernel_rfl) (by kernel_rfl) rfl (by kernel_rfl) (fun _ _ _ h => h) (by rfl) ?hy3 (by assumption) ?rest3
    case hy3 => (intro W hSw; (try dsimp only at hSw); go_simp <;> with_reducible rfl)
    (try simp only [Act.put, List.setIfInBounds_toArray, List.set_cons_zero, List.set_cons_succ])
    refine ordL_take 5 ?v4 rfl (by kernel_rfl) (by kernel_rfl) (by kernel_rfl) rfl (by kernel_rfl) (fun _ _ _ h => h) (by rfl) ?hy4 (by assumption) ?rest4
    case hy4 => (intro W hSw; (try dsimp only at hSw); go_simp <;> with_reducible rfl)
    (try simp only [Act.put, List.setIfInBounds_toArray, List.set_cons_zero, List.set_cons_succ])
    refine ordL_take 6 ?v5 rfl (by kernel_rfl) (by kernel_rfl) (by kernel_rfl) rfl (by kernel_rfl) (fun _ _ _ h => h) (by rfl) ?hy5 (by assumption) ?rest5
    case hy5 => (intro W hSw; (try dsimp only at hSw); go_simp <;> with_reducible rfl)
    (try simp only [Act.put, List.setIfInBounds_toArray, List.set_cons_zero, List.set_cons_succ])
    refine ordL_take 7 ?v6 rfl (by kernel_rfl) (by kernel_rfl) (by kernel_rfl) rfl (by kernel_rfl) (fun _ _ _ h => h) (by rfl) ?hy6 (by assumption) ?rest6
    case hy6 => (intro W hSw; (try dsimp only at hSw); go_simp <;> with_reducible rfl)
    (try simp only [Act.put, List.setIfInBounds_toArray, List.set_cons_zero, List.set_cons_succ])
    refine ordL_take 8 ?v7 rfl (by kernel_rfl) (by kernel_rfl) (by kernel_rfl) rfl (by kernel_rfl) (fun _ _ _ h => h) (by rfl) ?hy7 (by assumption) ?rest7
    case hy7 => (intro W hSw; (try dsimp only at hSw); go_simp <;> with_reducible rfl)
    (try simp only [Act.put, List.setIfInBounds_toArray, List.set_cons_zero, List.set_cons_succ])
    refine ordL_take 9 ?v8 rfl (by kernel_rfl) (by kernel_rfl) (by kernel_rfl) rfl (by kernel_rfl) (fun _ _ _ h => h) (by rfl) ?hy8 (by assumption) ?rest8
    case hy8 => (intro W hSw; (try dsimp only at hSw); go_simp <;> with_reducible rfl)
    (try simp only [Act.put, List.setIfInBounds_toArray, List.set_cons_zero, List.set_cons_succ])
    refine ordL_take 10 ?v9 rfl (by kernel_rfl) (by kernel_rfl) (by kernel_rfl) rfl (by kernel_rfl) (fun _ _ _ h => h) (by rfl) ?hy9 (by assumption) ?rest9
    case hy9 => (intro W hSw; (try dsimp only at hSw); go_simp <;> with_reducible rfl)
    (try simp only [Act.put, List.setIfInBounds_toArray, List.set_cons_zero, List.set_cons_succ])
    refine ordL_ready [2, 3] (by kernel_rfl) (by simp) ?_
    refine AllReadyL.cons rfl (fun K hK => ?_) ?_
    · go_simp
      go_at_call 13
      refine (HC1.out _).mono ?_
      rintro e w' ⟨rfl, rfl⟩
      (try go_wp2_with fail)
      refine hK.out _ _ (fun _ => by assumption) ?_
      clear hK K
      (try simp only [Act.put, List.setIfInBounds_toArray, List.set_cons_zero, List.set_cons_succ])
      refine ordL_ready [3] (by kernel_rfl) (by simp) ?_
      refine AllReadyL.cons rfl (fun K hK => ?_) ?_
      · go_simp
        refine hK.out _ _ (fun _ => hS5) ?_
        clear hK K
        (try simp only [Act.put, List.setIfInBounds_toArray, List.set_cons_zero, List.set_cons_succ])
        clear hS4
        refine ordL_ready [11] (by kernel_rfl) (by simp) ?_
        refine AllReadyL.cons rfl (fun K hK => ?_) ?_
        · refine step_cutU (T := 52) rfl (.tmp 17) (.tmp 24) rfl g g #[.string s0, .slice pp ln cp] (.slice (some ⟨w4.heap.size, 0, none⟩) 0 0) pp m cp zs (by decide) hX5 hv5 (by rfl) (by rfl) hzl hac2 hr5 (by omega) hg5 ?_
          intro ad3 cq w10 H10
          obtain ⟨hv10, hX10, hbl10⟩ := H10.out
          have hb10 : Below g w w10 := hbl10 _ _ (Nat.le_refl _) hb5
          obtain ⟨u0, u1⟩ := hX10.cells2
          have f10 := hX10.free 0
          have f11 := hX10.free 1
          have hS10 : (fun W : World => W.cell? ⟨g, 0, none⟩ = some (.string s0) ∧ W.cell? ⟨g, 1, none⟩ = some (.slice pp ln cp)) w10 := ⟨u0, u1⟩
          refine hK.out _ _ (fun _ => hS10) ?_
          clear hK K
          (try simp only [Act.put, List.setIfInBounds_toArray, List.set_cons_zero, List.set_cons_succ])
          refine ordL_take 12 ?v10 rfl (by kernel_rfl) (by kernel_rfl) (by kernel_rfl) rfl (by kernel_rfl) (fun _ _ _ h => h) (by rfl) ?hy10 (by assumption) ?rest10
          case hy10 => (intro W hSw; (try dsimp only at hSw); go_simp <;> with_reducible rfl)
          (try simp only [Act.put, List.setIfInBounds_toArray, List.set_cons_zero, List.set_cons_succ])
          refine ordL_ready [13] (by kernel_rfl) (by simp) ?_
          refine AllReadyL.cons rfl (fun K hK => ?_) ?_
          · go_simp
            refine hK.out _ _ (fun h => absurd rfl h) ?_
            clear hK K
            (try simp only [Act.put, List.setIfInBounds_toArray, List.set_cons_zero, List.set_cons_succ])
            refine ordL_done (by kernel_rfl) ?_ _
            refine NoPanic.normal ?_
            go_wp2_with fail
            go_meet
            have hZ : AtC 52 ((w10.setCell ⟨g, 0, none⟩ (.string rs)).setCell ⟨g, 1, none⟩ (.slice ad3 m cq)) g #[.string rs, .slice ad3 m cq] := by
              have h0 : AtC 52 (w10.setCell ⟨g, 0, none⟩ (.string rs)) g #[.string rs, .slice pp ln cp] := block_setCell hX10
              exact block_setCell h0
            exact ⟨rfl, ad3, cq, hZ, sf_by hv10 hX10, hb10.trans ((((Only.refl g w10).setCell 0 _).setCell 1 _).below (Nat.le_refl _))⟩
          exact AllReadyL.nil
        exact AllReadyL.nil
      exact AllReadyL.nil
    refine AllReadyL.cons rfl (fun K hK => ?_) ?_
    · go_simp
      refine hK.out _ _ (fun _ => hS5) ?_
      clear hK K
      (try simp only [Act.put, List.setIfInBounds_toArray, List.set_cons_zero, List.set_cons_succ])
      clear hS4
      refine ordL_ready [2] (by kernel_rfl) (by simp) ?_
      refine AllReadyL.cons rfl (fun K hK => ?_) ?_
      · go_simp
        go_at_call 13
        refine (HC1.out _).mono ?_
        rintro e w' ⟨rfl, rfl⟩
        (try go_wp2_with fail)
        refine hK.out _ _ (fun _ => by assumption) ?_
        clear hK K
        (try simp only [Act.put, List.setIfInBounds_toArray, List.set_cons_zero, List.set_cons_succ])
        refine ordL_ready [11] (by kernel_rfl) (by simp) ?_
        refine AllReadyL.cons rfl (fun K hK => ?_) ?_
        · refine step_cutU (T := 52) rfl (.tmp 17) (.tmp 24) rfl g g #[.string s0, .slice pp ln cp] (.slice (some ⟨w4.heap.size, 0, none⟩) 0 0) pp m cp zs (by decide) hX5 hv5 (by rfl) (by rfl) hzl hac2 hr5 (by omega) hg5 ?_
          intro ad3 cq w10 H10
          obtain ⟨hv10, hX10, hbl10⟩ := H10.out
          have hb10 : Below g w w10 := hbl10 _ _ (Nat.le_refl _) hb5
          obtain ⟨u0, u1⟩ := hX10.cells2
          have f10 := hX10.free 0
          have f11 := hX10.free 1
          have hS10 : (fun W : World => W.cell? ⟨g, 0, none⟩ = some (.string s0) ∧ W.cell? ⟨g, 1, none⟩ = some (.slice pp ln cp)) w10 := ⟨u0, u1⟩
          refine hK.out _ _ (fun _ => hS10) ?_
          clear hK K
          (try simp only [Act.put, List.setIfInBounds_toArray, List.set_cons_zero, List.set_cons_succ])
          refine ordL_take 12 ?v11 rfl (by kernel_rfl) (by kernel_rfl) (by kernel_rfl) rfl (by kernel_rfl) (fun _ _ _ h => h) (by rfl) ?hy11 (by assumption) ?rest11
          case hy11 => (intro W hSw; (try dsimp only at hSw); go_simp <;> with_reducible rfl)
          (try simp only [Act.put, List.setIfInBounds_toArray, List.set_cons_zero, List.set_cons_succ])
          refine ordL_ready [13] (by kernel_rfl) (by simp) ?_
          refine AllReadyL.cons rfl (fun K hK => ?_) ?_
          · go_simp
            refine hK.out _ _ (fun h => absurd rfl h) ?_
            clear hK K
            (try simp only [Act.put, List.setIfInBounds_toArray, List.set_cons_zero, List.set_cons_succ])
            refine ordL_done (by kernel_rfl) ?_ _
            refine NoPanic.normal ?_
            go_wp2_with fail
            go_meet
            have hZ : AtC 52 ((w10.setCell ⟨g, 0, none⟩ (.string rs)).setCell ⟨g, 1, none⟩ (.slice ad3 m cq)) g #[.string rs, .slice ad3 m cq] := by
              have h0 : AtC 52 (w10.setCell ⟨g, 0, none⟩ (.string rs)) g #[.string rs, .slice pp ln cp] := block_setCell hX10
              exact block_setCell h0
            exact ⟨rfl, ad3, cq, hZ, sf_by hv10 hX10, hb10.trans ((((Only.refl g w10).setCell 0 _).setCell 1 _).below (Nat.le_refl _))⟩
          exact AllReadyL.nil
        exact AllReadyL.nil
      exact AllReadyL.nil
    exact AllReadyL.nil
  case rest =>
  obtain ⟨rfl, a1, c1, hX, hv, hb⟩ := hcut
  have hz1000 : zs.length ≤ 1000 := by omega
  clear hX4 hbb4 HR HC1 hac hac2 hm hmc hm0 hm33 hlc hcm
  rename World => w5
  subst hzl
  have hrun := Lib.hid (fun (W : World) (h : W.ownsRow g 26 1 (.slice a1 zs.length c1) zs.length (zs.map (Value.int .u32))) => by_reads h)
  have HM : Hid (∀ k, k < zs.length → 0 ≤ zs[k]?.getD 0 ∧ zs[k]?.getD 0 ≤ 4294967295) := Lib.hid (fun k hk => HUS.out _ (by simp [hk]))
  have HT : Hid (∀ k, k < zs.length → zs.take (k + 1) = zs.take k ++ [zs[k]?.getD 0]) := Lib.hid (fun k hk => by rw [List.take_succ_eq_append_getElem hk]; simp [hk])
  have HI : Hid (∀ k, k < zs.length → ∀ b : Bool, (b = true ↔ src ∈ zs.take k) → ((b || zs[k]?.getD 0 == src) = true ↔ src ∈ zs.take (k + 1))) := Lib.hid (fun k hk b hb => by rw [HT.out k hk, List.mem_append, Bool.or_eq_true, hb, beq_iff_eq, List.mem_singleton, eq_comm])
  have hgl := hX.lt
  obtain ⟨x0, x1⟩ := hX.cells2
  have hXa := hX.alloc (.cells #[.string rs, .slice none 0 0] 55)
  have hva := hv.alloc (.cells #[.string rs, .slice none 0 0] 55)
  have hYa := atC_new 55 w5 #[.string rs, .slice none 0 0]
  have hba := hb.alloc (by omega) (.cells #[.string rs, .slice none 0 0] 55)
  go_upto_region 5 with fail
  generalize w5.alloc (.cells #[.string rs, .slice none 0 0] 55) = w6 at hXa hva hYa hba ⊢
  have hgx : g < w5.heap.size := hgl
  generalize w5.heap.size = gx at hYa hgx ⊢
  clear hX hv hb hgl x0 x1
  obtain ⟨x0, x1⟩ := hXa.cells2
  go_wp2_with fail
  go_loopw [6, 33] (fun z i wr => ∃ (k : Nat) (b : Bool) (av : Option Addr) (cv : Nat), k ≤ zs.length ∧ i = .int .i64 k ∧ z = .bool b ∧ Hid (b = true ↔ src ∈ zs.take k) ∧ AtC 52 wr g #[.string rs, .slice a1 zs.length c1] ∧ wr.ownsRow g 26 1 (.slice a1 zs.length c1) zs.length (zs.map (Value.int .u32)) ∧ AtC 55 wr gx #[.string rs, .slice av k cv] ∧ wr.ownsRow g 3 1 (.slice av k cv) k ((zs.take k).map (Value.int .i64)) ∧ Below g w wr) (fun _ i _ => zs.length - (intOf i).toNat)
  case atStart => exact ⟨0, false, none, 0, Nat.zero_le _, rfl, rfl, Lib.hid (by simp), hXa, hva, hYa, World.ownsRow_nil _ _ _ _, hba⟩
  case round =>
    obtain ⟨k, b, av, cv, hk, rfl, rfl, hbi, hXk, hvk, hYk, ho, hbk⟩ := hrel
    clear hXa hva hYa hba x0 x1
    have hgk : g < wr.heap.size := hXk.lt
    by_cases hlt : k < zs.length
    · obtain ⟨ab, off, hab, hcell⟩ := (hrun.out _ hvk).at hlt
      obtain ⟨m0, m1⟩ := HM.out k hlt
      have ht := Lib.hid (HT.out k hlt)
      have hi2 := Lib.hid (HI.out k hlt b hbi.out)
      have hlk : (zs.take k).length = k := by rw [List.length_take]; omega
      generalize zs[k]?.getD 0 = x at hcell m0 m1 ht hi2
      generalize zs.take k = ZK at ho ht hlk
      have hw : IntKind.i64.wrap x = x := IntWalk.i64_in _ ⟨by omega, by omega⟩
      obtain ⟨y0, y1⟩ := hYk.cells2
      cases hab
      go_wp2_with (at_builtin; refine step_srcR rfl (.tmp 38) (.tmp 41) rfl g (.slice av k cv) k ZK x hlk ho (by omega) (by omega) (by rfl) (by rfl) ?_)
      intro ad cq w7 H7
      obtain ⟨ho7, hbl7, hrw7, hbe7, hsz7⟩ := H7.out
      have hX7 : AtC 52 w7 g #[.string rs, .slice (some ⟨ab, off, none⟩) zs.length c1] := hbl7 (o := .cells #[.string rs, .slice (some ⟨ab, off, none⟩) zs.length c1] 52 (0, 0)) hXk (by intro cur q q2 e; cases e)
      have hY7 : AtC 55 w7 gx #[.string rs, .slice av k cv] := hbl7 (o := .cells #[.string rs, .slice av k cv] 55 (0, 0)) hYk (by intro cur q q2 e; cases e)
      have hv7 := hrw7 (by decide) hvk
      have hb7 := hbe7 _ _ (Nat.le_refl _) hbk
      obtain ⟨z0, z1⟩ := hY7.cells2
      have f1 := hY7.free 1
      go_upto_region 10 with fail
      have hY8 : AtC 55 (w7.setCell ⟨gx, 1, none⟩ (.slice ad (k + 1) cq)) gx #[.string rs, .slice ad (k + 1) cq] := block_setCell hY7
      have hX8 := hX7.only (Nat.ne_of_lt hgx) ((Only.refl gx w7).setCell 1 (.slice ad (k + 1) cq))
      have hv8 := ownB_store (i := 1) (u := .slice ad (k + 1) cq) hv7 hY7 (by decide)
      have ho8 := ownB_store (i := 1) (u := .slice ad (k + 1) cq) ho7 hY7 (by decide)
      have hb8 := hb7.setCell (p := ⟨gx, 1, none⟩) (Nat.le_of_lt hgx) (.slice ad (k + 1) cq)
      generalize w7.setCell ⟨gx, 1, none⟩ (.slice ad (k + 1) cq) = w8 at hY8 hX8 hv8 ho8 hb8 ⊢
      have ho9 : w8.ownsRow g 3 1 (.slice ad (k + 1) cq) (k + 1) ((zs.take (k + 1)).map (Value.int .i64)) := by rw [ht.out, List.map_append]; simpa using ho8
      clear ho8
      clear hXk hvk hYk ho hbk hX7 hY7 hv7 hb7 H7 ho7 hbl7 hrw7 hbe7 hsz7 hcell y0 y1 z0 z1 f1 hgk
      cases b
      · go_wp2_with fail
        go_roundw
        case rel => exact ⟨k + 1, (x == src), ad, cq, by omega, by go_num, rfl, Lib.hid hi2.out, hX8, hv8, hY8, ho9, hb8⟩
        case measure => simp [intOf]; omega
      · go_wp2_with fail
        go_roundw
        case rel => exact ⟨k + 1, true, ad, cq, by omega, by go_num, rfl, Lib.hid hi2.out, hX8, hv8, hY8, ho9, hb8⟩
        case measure => simp [intOf]; omega
    · obtain rfl : k = zs.length := by omega
      have hbb : b = true ↔ src ∈ zs := by have h := hbi.out; rwa [List.take_length] at h
      rw [List.take_length] at ho
      have hrX := by_reads hvk
      have hrY := by_readsI ho
      have hus : ∀ x ∈ zs, 0 ≤ x ∧ x ≤ 4294967295 := HUS.out
      clear hbi hvk ho hrun HM HT HI
      have hP := fun (W : World) (h : Reads .u32 W a1 zs) => byePiece_any ⟨rs, zs⟩ a1 c1 W h (show zs.length ≤ 1000000 by omega) (show rs.size ≤ 9223372036854775807 by omega)
      have hRP := fun (W : World) (h : Reads .i64 W av zs) => refByePiece_any ⟨rs, zs⟩ av cv W h (show zs.length ≤ 1000 by omega) (show rs.size ≤ 1000000 by omega) hus
      have hGO := fun (W : World) (h : Reads .u32 W a1 zs) => goes_any ⟨rs, zs⟩ src a1 c1 W h (show zs.length ≤ 1000000 by omega) b hbb
      obtain ⟨p1, p2, p3⟩ := byP_small ⟨rs, zs⟩
      have hback := fun (h : byMay ⟨rs, zs⟩) => by_back ⟨rs, zs⟩ h hus
      have hkind : byMay ⟨rs, zs⟩ → (byP ⟨rs, zs⟩).kind = 203 := fun h => by unfold byP; rw [if_pos h]
      obtain ⟨⟨pc, pk, pb⟩, hq⟩ : ∃ q, byP ⟨rs, zs⟩ = q := ⟨_, rfl⟩
      simp only [hq] at hP hRP p1 p2 p3 hback hkind
      simp only at hP hRP hGO
      have HP := Lib.hid hP
      have HRP := Lib.hid hRP
      have HGO := Lib.hid hGO
      have HB := Lib.hid hback
      have H2 := Lib.hid p2
      have H3 := Lib.hid p3
      have HK := Lib.hid hkind
      have HBB := Lib.hid hbb
      clear hP hRP hGO hback p2 p3 hkind hbb hq
      obtain ⟨x0, x1⟩ := hXk.cells2
      have hgk := hXk.lt
      go_wp2_with fail
      refine (HP.out _ hrX).mono ?_
      rintro e w9 ⟨rfl, hk9⟩
      have hQ := (Below.refl w9.heap.size w9).alloc (Nat.le_refl _) (.cells #[.int .i64 pc, .int .i64 pk, .string pb] 33)
      have hX10 := (hXk.later hk9).alloc (.cells #[.int .i64 pc, .int .i64 pk, .string pb] 33)
      have hY10 := (hYk.later hk9).alloc (.cells #[.int .i64 pc, .int .i64 pk, .string pb] 33)
      have hP10 := atC_new 33 w9 #[.int .i64 pc, .int .i64 pk, .string pb]
      have hrX10 := (hrX.later hk9).later hQ
      have hrY10 := (hrY.later hk9).later hQ
      have hb10 := (hbk.trans (hk9.mono (by omega))).alloc (by have := (hXk.later hk9).lt; omega) (.cells #[.int .i64 pc, .int .i64 pk, .string pb] 33)
      go_upto_region 13 with fail
      generalize w9.alloc (.cells #[.int .i64 pc, .int .i64 pk, .string pb] 33) = w10 at hX10 hY10 hP10 hrX10 hrY10 hb10 ⊢
      generalize w9.heap.size = gp at hP10 ⊢
      clear hXk hYk hrX hrY hbk hk9 hQ hgk x0 x1 HP
      have hl10 := hX10.lt
      have HS := Lib.hid (fun (W : World) (h : Below w10.heap.size w10 W) => by_S (hP10.later h) (hX10.later h) (hY10.later h) h)
      have HRP2 := Lib.hid (fun (W : World) (h : Below w10.heap.size w10 W) => HRP.out W (hrY10.later h))
      have HGO2 := Lib.hid (fun (W : World) (h : Below w10.heap.size w10 W) => HGO.out W (hrX10.later h))
      go_cut [63] (fun z wx => z = .bool false ∧ Below w10.heap.size w10 wx)
      case first =>
        go_region_held3 (fun W => W.cell? ⟨gp, 0, none⟩ = some (.int .i64 pc) ∧ W.cell? ⟨gp, 1, none⟩ = some (.int .i64 pk) ∧ W.cell? ⟨gp, 2, none⟩ = some (.string pb) ∧ W.cell? ⟨g, 0, none⟩ = some (.string rs) ∧ W.cell? ⟨g, 1, none⟩ = some (.slice a1 zs.length c1) ∧ W.cell? ⟨gx, 0, none⟩ = some (.string rs) ∧ W.cell? ⟨gx, 1, none⟩ = some (.slice av zs.length cv) ∧ Below w10.heap.size w10 W) (first | (go_keep; done) | exact HS.out _ (Below.drew (Below.refl _ _)) | exact HS.out _ (Below.trans (by go_split_ands; assumption) (Below.mono (by assumption) (Below.size (by go_split_ands; assumption)))) | (go_split_ands; assumption)) (first | (go_at_call 25; refine (HRP2.out _ (by go_split_ands; assumption)).mono ?_; rintro e w11 ⟨rfl, hk11⟩) | (go_at_call 26; refine (HGO2.out _ (by go_split_ands; assumption)).mono ?_; rintro e w12 ⟨rfl, hk12⟩))
        all_goals
          go_wp2_with fail
          go_meet
          exact ⟨by simp, by go_split_ands; assumption⟩
      case rest =>
      obtain ⟨rfl, hk13⟩ := hcut
      have hX13 := hX10.later hk13
      have hY13 := hY10.later hk13
      have hP13 := hP10.later hk13
      have hrY13 := hrY10.later hk13
      have hb13 := hb10.trans (hk13.mono (by omega))
      clear hX10 hY10 hP10 hrX10 hrY10 hb10 hl10 HS HRP HGO HRP2 HGO2 hk13
      rename World => w13
      obtain ⟨p0, p1', p2'⟩ := hP13.cells3
      by_cases hmay : byMay ⟨rs, zs⟩
      · obtain ⟨hb0, hb1⟩ := HB.out hmay
        have hpk : pk = 203 := HK.out hmay
        have hmy := H3.out hmay
        subst hpk
        have hT := toBye_any ⟨pc, 203, pb⟩
        unfold ToBd at hT
        simp only [hb0, hb1] at hT
        have HT := Lib.hid (fun W => hT W (show pb.size ≤ 1099511627776 by omega))
        clear hT hb0 hb1 HB HK H2 H3
        have l13 := hX13.lt
        go_wp2_with fail
        refine (HT.out _).mono ?_
        rintro e w14 ⟨hk14, a2, c2, rfl, hr14⟩
        have hQ := (Below.refl w14.heap.size w14).alloc (Nat.le_refl _) (.cells #[.string rs, .slice a2 zs.length c2] 52)
        have hY15 := (hY13.later hk14).alloc (.cells #[.string rs, .slice a2 zs.length c2] 52)
        have hP15 := (hP13.later hk14).alloc (.cells #[.string rs, .slice a2 zs.length c2] 52)
        have hN15 := atC_new 52 w14 #[.string rs, .slice a2 zs.length c2]
        have hr15 := hr14.later hQ
        have hrY15 := (hrY13.later hk14).later hQ
        have hb15 := (hb13.trans (hk14.mono (by omega))).alloc (by have := (hX13.later hk14).lt; omega) (.cells #[.string rs, .slice a2 zs.length c2] 52)
        have l15 : g ≤ w14.heap.size := by have := (hX13.later hk14).lt; omega
        go_upto_region 18 with fail
        have l16 : g ≤ (w14.alloc (.cells #[.string rs, .slice a2 zs.length c2] 52)).heap.size := by simp; omega
        generalize w14.alloc (.cells #[.string rs, .slice a2 zs.length c2] 52) = w15 at hY15 hP15 hN15 hr15 hrY15 hb15 l16 ⊢
        generalize w14.heap.size = gt at hN15 ⊢
        clear hX13 hY13 hP13 hrY13 hb13 hk14 hr14 hQ l13 l15 p0 p1' p2'
        obtain ⟨y0, y1⟩ := hY15.cells2
        obtain ⟨n0, n1⟩ := hN15.cells2
        go_wp2_with fail
        refine (byeSame_t ⟨rs, zs⟩ a2 av c2 cv _ (show zs.length ≤ 1000000 by omega) hr15 hrY15 hus).mono ?_
        rintro e w16 ⟨rfl, hk16⟩
        have hP16 := hP15.later hk16
        have hb16 := hb15.trans (hk16.mono l16)
        obtain ⟨p0, p1', p2'⟩ := hP16.cells3
        have l17 : g ≤ w16.heap.size := Nat.le_trans l16 hk16.size
        go_wp2_with fail
        refine (pcCheck_any ⟨pc, 203, pb⟩ _ (show pb.size ≤ 9223372036854775807 by omega) 0 (.inl ⟨rfl, hmy⟩)).mono ?_
        rintro e w17 ⟨rfl, hk17⟩
        have hb17 := hb16.trans (hk17.mono l17)
        go_wp2_with fail
        go_ret
        exact ⟨rfl, by rw [HG.out]; exact hb17⟩
      · have hz := H2.out.2 hmay
        obtain ⟨rfl, rfl, rfl⟩ : pc = 0 ∧ pk = 0 ∧ pb = { data := #[] } := by cases hz; exact ⟨rfl, rfl, rfl⟩
        clear HB HK H2 H3
        go_wp2_with fail
        go_ret
        exact ⟨rfl, by rw [HG.out]; exact hb13⟩
end notesByes
end Go.Proofs.Ytjoikidnnhjogaa

/- A region that draws its order, some of whose operations (the stores) wait for all that are taken first: what is asked of the world behind each other operation is not asked behind those. (XOrdL with a set of late ones.) -/
namespace Go.Proofs.Ytjoikidnnhjogaa
open Go
set_option linter.unusedVariables false
section
variable {P : Program} {ops : Array Oper} {Q : Exit → Act → World → Prop} {md : Region.Mode} {S : World → Prop} {L : Nat → Bool}
/-- As 'wpAnyH', but behind number L nothing is asked of the world. -/
def wpAnyM (P : Program) (md : Region.Mode) (ops : Array Oper) (Q : Exit → Act → World → Prop) (S : World → Prop) (L : Nat → Bool) : Nat → Array Bool → Act → World → Prop
  | 0, listed, a, w => Region.ready md ops listed = [] ∧ Q .normal a w
  | fuel + 1, listed, a, w =>
    (Region.ready md ops listed = [] → Q .normal a w) ∧
    ∀ i ∈ Region.ready md ops listed, wpOp P ops Q i (fun a' w' => (L i = false → S w') ∧ wpAnyM P md ops Q S L fuel (listed.setIfInBounds i true) a' w') a w
theorem wpAny_of_M : ∀ (fuel : Nat) (listed : Array Bool) (a : Act) (w : World), wpAnyM P md ops Q S L fuel listed a w → wpAny P md ops Q fuel listed a w
  | 0, _, _, _, h => h
  | fuel + 1, _, _, _, h => ⟨h.1, fun i hi => wpOp_mono (fun a' w' h' => wpAny_of_M fuel _ a' w' h'.2) (h.2 i hi)⟩
theorem wpAnyM_first {i : Nat} {oi : Oper} {v : Value} (hi : ops[i]? = some oi) (hsel : ∀ (j : Nat) (o : Oper) cs b, ops[j]? = some o → o.op ≠ .select cs b)
    (hQ : ∀ c a w, Q (.panic c) (a.put oi.dst v) w → Q (.panic c) a w) (hL : ∀ j oL, L j = true → ops[j]? = some oL → ∃ e ∈ oL.after, Region.binds md e = true ∧ e.on = i) :
    ∀ (fuel : Nat) (listed : Array Bool) (a : Act) (w : World),
      (∀ j oj, ops[j]? = some oj → j ≠ i → listed.getD j true = false → (∀ e ∈ oj.after, Region.binds md e = true → e.on ≠ i) → oi.apart ops oj = true) →
      i ∈ Region.ready md ops listed → YieldsIf P ops S oi v a → S w →
      wpAnyM P md ops Q S L fuel (listed.setIfInBounds i true) (a.put oi.dst v) w → wpAnyM P md ops Q S L (fuel + 1) listed a w := by
  intro fuel
  induction fuel with
  | zero =>
    intro listed a w _ hr hy hS H
    refine ⟨fun h => (by rw [h] at hr; cases hr), fun j hj => ?_⟩
    by_cases hji : j = i
    · subst hji; exact hy.wpOp hi hS ⟨fun _ => hS, H⟩
    · have := ready_mono hj hji
      rw [H.1] at this
      cases this
  | succ fuel ih =>
    intro listed a w hfree hr hy hS H
    refine ⟨fun h => (by rw [h] at hr; cases hr), fun j hj => ?_⟩
    by_cases hji : j = i
    · subst hji; exact hy.wpOp hi hS ⟨fun _ => hS, H⟩
    · have h1 := H.2 j (ready_mono hj hji)
      obtain ⟨hjun, oj, hoj, hall⟩ := mem_ready.1 hj
      have hnot : ∀ e ∈ oj.after, Region.binds md e = true → e.on ≠ i := fun e he hb heq => by
        have h1 := hall e he hb
        have h0 := (mem_ready.1 hr).1
        rw [heq] at h1
        rcases Nat.lt_or_ge i listed.size with h' | h'
        · simp [h'] at h0 h1; rw [h0] at h1; cases h1
        · simp [Array.getElem?_eq_none h'] at h1
      have hjL : L j = false := by
        cases hLj : L j with
        | false => rfl
        | true =>
          obtain ⟨e, he, hb, hon⟩ := hL j oj hLj hoj
          exact absurd hon (hnot e he hb)
      have h2 := wpOp_putIf hoj (hfree j oj hoj hji hjun hnot) (fun cs b => hsel i oi cs b hi) (fun cs b => hsel j oj cs b hoj) hQ hy h1
      have hfree' : ∀ k ok, ops[k]? = some ok → k ≠ i → (listed.setIfInBounds j true).getD k true = false →
          (∀ e ∈ ok.after, Region.binds md e = true → e.on ≠ i) → oi.apart ops ok = true := fun k ok hk hki hun hno => by
        refine hfree k ok hk hki ?_ hno
        by_cases hjk : j = k
        · subst hjk; exact hjun
        · rw [getD_set_ne true hjk] at hun; exact hun
      refine wpOp_mono (fun a' w' h3 => ⟨fun _ => h3.2.1 hjL, ih (listed.setIfInBounds j true) a' w' hfree' (ready_mono hr (Ne.symm hji)) h3.1 (h3.2.1 hjL) ?_⟩) h2
      rw [Array.setIfInBounds_comm _ _ hji]
      exact h3.2.2
/-- All late ones wait for number i. -/
def allWait (md : Region.Mode) (l : List Oper) (L : Nat → Bool) (i : Nat) : Bool := (List.range l.length).all fun j => !L j || match l[j]? with
  | some o => o.after.any (fun e => Region.binds md e && e.on == i)
  | none => true
theorem allWait_spec {l : List Oper} {i : Nat} (h : allWait md l L i = true) : ∀ j oL, L j = true → l.toArray[j]? = some oL → ∃ e ∈ oL.after, Region.binds md e = true ∧ e.on = i := by
  intro j oL hj ho
  unfold allWait at h
  have ho' : l[j]? = some oL := by simpa using ho
  have hlt : j < l.length := (List.getElem?_eq_some_iff.1 ho').1
  have h1 := (List.all_eq_true.1 h) j (List.mem_range.2 hlt)
  rw [ho', hj] at h1
  simp only [Bool.not_true, Bool.false_or, Array.any_eq_true'] at h1
  obtain ⟨e, he, hb⟩ := h1
  simp only [Bool.and_eq_true, beq_iff_eq] at hb
  exact ⟨e, he, hb.1, hb.2⟩
theorem ordM_take {l : List Oper} (i : Nat) {oi : Oper} (v : Value) {fuel : Nat} {listed : Array Bool} {a : Act} {w : World} (hi : l[i]? = some oi)
    (hs : Region.noSelect l.toArray = true) (hf : Region.free md l.toArray listed i = true) (hr : (Region.ready md l.toArray listed).contains i = true) (hw : allWait md l L i = true)
    (hQ : ∀ c a w, Q (.panic c) (a.put oi.dst v) w → Q (.panic c) a w) (hg : Region.wanted oi (yielded l.toArray a.tmps) = true) (hy : ∀ W, S W → (execOp a.eval oi).run P W = .ok (.value v) W) (hS : S w)
    (h : wpAnyM P md l.toArray Q S L fuel (listed.setIfInBounds i true) (a.put oi.dst v) w) : wpAnyM P md l.toArray Q S L (fuel + 1) listed a w :=
  wpAnyM_first (by simpa using hi) (Region.noSelect_spec hs) hQ (allWait_spec hw) fuel listed a w (Region.free_spec (by simpa using hi) hf) (by simpa using hr) (.inl ⟨hg, hy⟩) hS h
def AllReadyM (P : Program) (md : Region.Mode) (ops : Array Oper) (Q : Exit → Act → World → Prop) (S : World → Prop) (L : Nat → Bool) (fuel : Nat) (listed : Array Bool) (a : Act) (w : World) (rs : List Nat) : Prop :=
  ∀ i ∈ rs, wpOp P ops Q i (fun a' w' => (L i = false → S w') ∧ wpAnyM P md ops Q S L fuel (listed.setIfInBounds i true) a' w') a w
theorem AllReadyM.nil {fuel : Nat} {listed : Array Bool} {a : Act} {w : World} : AllReadyM P md ops Q S L fuel listed a w [] := fun _ h => by cases h
theorem AllReadyM.cons {l : List Oper} {fuel : Nat} {listed : Array Bool} {a : Act} {w : World} {i : Nat} {o : Oper} {rs : List Nat} (ho : l[i]? = some o)
    (h : ∀ K' : Act → World → Prop, Shut (∀ a w, (L i = false → S w) → wpAnyM P md l.toArray Q S L fuel (listed.setIfInBounds i true) a w → K' a w) → if Region.wanted o (yielded l.toArray a.tmps) = true then Oper.wp P o a w K' Q else K' (a.put o.dst undef) w)
    (hs : AllReadyM P md l.toArray Q S L fuel listed a w rs) : AllReadyM P md l.toArray Q S L fuel listed a w (i :: rs) := fun j hj => by
  rcases List.mem_cons.1 hj with rfl | hj
  · exact wpOp_step (by simpa using ho) (fun K' hK => h K' (fun a w hS hW => hK a w ⟨hS, hW⟩))
  · exact hs j hj
theorem ordM_ready (rs : List Nat) {fuel : Nat} {listed : Array Bool} {a : Act} {w : World} (hr : Region.ready md ops listed = rs) (hne : rs ≠ [])
    (h : AllReadyM P md ops Q S L fuel listed a w rs) : wpAnyM P md ops Q S L (fuel + 1) listed a w :=
  ⟨fun h0 => absurd (hr ▸ h0) hne, hr ▸ h⟩
theorem ordM_done {listed : Array Bool} {a : Act} {w : World} (hr : Region.ready md ops listed = []) (h : Q .normal a w) : ∀ fuel, wpAnyM P md ops Q S L fuel listed a w
  | 0 => ⟨hr, h⟩
  | _ + 1 => ⟨fun _ => h, by rw [hr]; simp⟩
theorem ordM_begin {l : List Oper} (S : World → Prop) (L : Nat → Bool) {id : Nat} {a : Act} {w : World} (hm : P.follows .mixedOrders = true) (hS : S w.drew)
    (h : wpAnyM P .any l.toArray Q S L l.length (Array.replicate l.length false) a w.drew) : (Code.region id l.toArray true).wp P Q a w := by
  have e : l.toArray.size = l.length := by simp
  rw [← e] at h
  exact wp_region_any hm (wpAny_of_M _ _ _ _ h)
end
end Go.Proofs.Ytjoikidnnhjogaa

/- NotesApart: the walk. -/
namespace Go.Proofs.Ytjoikidnnhjogaa
open Go.RowKit
set_option linter.unusedVariables false
theorem sfB_by {W : World} {g B : Nat} {a : Option Addr} {m c : Nat} {xs : List Value} {c0 c1 d0 d1 : Value} (hv : W.ownsRow B 26 1 (.slice a m c) m xs) (hX : AtC 52 W g #[c0, c1]) : ((W.setCell ⟨g, 0, none⟩ d0).setCell ⟨g, 1, none⟩ d1).ownsRow B 26 1 (.slice a m c) m xs := by
  have h0 : AtC 52 (W.setCell ⟨g, 0, none⟩ d0) g #[d0, c1] := block_setCell hX
  exact ownB_store (ownB_store hv hX (by decide)) h0 (by decide)
theorem blk_later {W W' : World} {n : Nat} {o : Obj} (h : W.heap[n]? = some o) (hb : Below W.heap.size W W') : W'.heap[n]? = some o := by rw [hb.block n (lt_of_block h)]; exact h
theorem lit_readsP {W : World} {n : Nat} {a1 a2 b1 b2 c1 c2 : Int} {a3 b3 c3 : ByteArray} (h : W.heap[n]? = some (.cells #[.int .i64 a1, .int .i64 a2, .string a3, .int .i64 b1, .int .i64 b2, .string b3, .int .i64 c1, .int .i64 c2, .string c3] 33 (0, 0))) : ReadsP W (some ⟨n, 0, none⟩) [⟨a1, a2, a3⟩, ⟨b1, b2, b3⟩, ⟨c1, c2, c3⟩] := by
  have f := fun i => cell_of_row W n i _ _ (0, 0) h
  refine .inr ⟨n, 0, rfl, fun i hi j v hv => ?_⟩
  rw [Nat.zero_add, f]
  have hi3 : i = 0 ∨ i = 1 ∨ i = 2 := by simp at hi; omega
  rcases hi3 with rfl | rfl | rfl
  all_goals
    match j, hv with
    | 0, hv => cases hv; rfl
    | 1, hv => cases hv; rfl
    | 2, hv => cases hv; rfl
    | j + 3, hv => simp [PC.vals] at hv
theorem lit_readsN {W : World} {n : Nat} {ns : Int} {nt : ByteArray} (h : W.heap[n]? = some (.cells #[.int .u32 ns, .string nt] 78 (0, 0))) : ReadsN W (some ⟨n, 0, none⟩) [⟨ns, nt⟩] := by
  have hA : AtC 78 W n #[.int .u32 ns, .string nt] := h
  obtain ⟨x0, x1⟩ := hA.cells2
  refine .inr ⟨n, 0, rfl, fun i hi j v hv => ?_⟩
  have hi0 : i = 0 := by simp at hi; omega
  subst hi0
  match j, hv with
  | 0, hv => cases hv; simpa using x0
  | 1, hv => cases hv; simpa using x1
  | j + 2, hv => simp [NM.vals] at hv
theorem ap_S {T U V : TypeId} {W w : World} {B g b d : Nat} {c0 c1 e0 e1 e2 e3 i0 i1 : Value} (h : AtC T W g #[c0, c1]) (k : AtC U W b #[e0, e1, e2, e3]) (l : AtC V W d #[i0, i1]) (hb : Below B w W) : W.cell? ⟨g, 0, none⟩ = some c0 ∧ W.cell? ⟨g, 1, none⟩ = some c1 ∧ W.cell? ⟨b, 0, none⟩ = some e0 ∧ W.cell? ⟨b, 1, none⟩ = some e1 ∧ W.cell? ⟨b, 2, none⟩ = some e2 ∧ W.cell? ⟨b, 3, none⟩ = some e3 ∧ W.cell? ⟨d, 0, none⟩ = some i0 ∧ W.cell? ⟨d, 1, none⟩ = some i1 ∧ Below B w W := by
  obtain ⟨a0, a1⟩ := h.cells2
  obtain ⟨f0, f1, f2, f3⟩ := k.cells4
  obtain ⟨j0, j1⟩ := l.cells2
  exact ⟨a0, a1, f0, f1, f2, f3, j0, j1, hb⟩
/-- What is found in a piece of kind i. -/
def Kd (i : Nat) (p : PC) : Prop := p.body.size ≤ 100000 ∧ ((p = zeroPC ∧ toBE p ≠ 0 ∧ toAE p ≠ 0 ∧ toNE p ≠ 0) ∨ (p.kind ≠ 0 ∧ (toBE p = 0 ↔ i = 0) ∧ (toAE p = 0 ↔ i = 1) ∧ (toNE p = 0 ↔ i = 2)))
theorem kd_zero (i : Nat) : Kd i zeroPC := ⟨by decide, .inl ⟨rfl, by unfold toBE; rw [if_pos (by decide)]; decide, by unfold toAE; rw [if_pos (by decide)]; decide, by unfold toNE; rw [if_pos (by decide)]; decide⟩⟩
theorem e_other (p : PC) : (p.kind ≠ 203 → toBE p = 5) ∧ (p.kind ≠ 204 → toAE p = 5) ∧ (p.kind ≠ 202 → toNE p = 5) := ⟨fun h => by unfold toBE; rw [if_pos h], fun h => by unfold toAE; rw [if_pos h], fun h => by unfold toNE; rw [if_pos h]⟩
theorem kinds_all (rs : ByteArray) (zs : List Int) (sub src : Int) (nm da : ByteArray) (ns : Int) (nt : ByteArray) (h1 : rs.size ≤ 1000) (h2 : zs.length ≤ 1000) (h3 : nm.size ≤ 1000) (h4 : da.size ≤ 1000) (h5 : nt.size ≤ 1000) (hz : ∀ x ∈ zs, 0 ≤ x ∧ x ≤ 4294967295) (s0 : 0 ≤ src) (s1 : src ≤ 4294967295) (n0 : 0 ≤ ns) (n1 : ns ≤ 4294967295) :
    Kd 0 (byP ⟨rs, zs⟩) ∧ Kd 1 (apP ⟨sub, src, nm, da⟩) ∧ Kd 2 (nmsP [⟨ns, nt⟩]) := by
  refine ⟨?_, ?_, ?_⟩
  · by_cases hm : byMay ⟨rs, zs⟩
    · have hk : (byP ⟨rs, zs⟩).kind = 203 := by unfold byP; rw [if_pos hm]
      obtain ⟨o1, o2, o3⟩ := e_other (byP ⟨rs, zs⟩)
      have e1 := (by_back ⟨rs, zs⟩ hm hz).1
      have e2 := o2 (by rw [hk]; decide)
      have e3 := o3 (by rw [hk]; decide)
      exact ⟨Nat.le_trans (byP_small ⟨rs, zs⟩).1 (by decide), .inr ⟨by rw [hk]; decide, by rw [e1]; simp, by rw [e2]; simp, by rw [e3]; simp⟩⟩
    · rw [show byP ⟨rs, zs⟩ = zeroPC from by unfold byP; rw [if_neg hm]]
      exact kd_zero 0
  · by_cases hm : apMay ⟨sub, src, nm, da⟩
    · have hk : (apP ⟨sub, src, nm, da⟩).kind = 204 := by unfold apP; rw [if_pos hm]
      obtain ⟨o1, o2, o3⟩ := e_other (apP ⟨sub, src, nm, da⟩)
      have e1 := o1 (by rw [hk]; decide)
      have e2 := (ap_back ⟨sub, src, nm, da⟩ hm s0 s1).1
      have e3 := o3 (by rw [hk]; decide)
      refine ⟨?_, .inr ⟨by rw [hk]; decide, by rw [e1]; simp, by rw [e2]; simp, by rw [e3]; simp⟩⟩
      unfold apP
      rw [if_pos hm]
      show (ofL _).size ≤ _
      rw [ofL_size, apL_size _ hm]
      show 8 + da.size ≤ 100000
      omega
    · rw [show apP ⟨sub, src, nm, da⟩ = zeroPC from by unfold apP; rw [if_neg hm]]
      exact kd_zero 1
  · by_cases hm : nmsMay [⟨ns, nt⟩]
    · have hk : (nmsP [⟨ns, nt⟩]).kind = 202 := by unfold nmsP; rw [if_pos hm]
      obtain ⟨o1, o2, o3⟩ := e_other (nmsP [⟨ns, nt⟩])
      have e1 := o1 (by rw [hk]; decide)
      have e2 := o2 (by rw [hk]; decide)
      have e3 := (nms_back [⟨ns, nt⟩] hm (fun n hn => by simp at hn; subst hn; exact ⟨n0, n1⟩)).1
      refine ⟨?_, .inr ⟨by rw [hk]; decide, by rw [e1]; simp, by rw [e2]; simp, by rw [e3]; simp⟩⟩
      unfold nmsP
      rw [if_pos hm]
      show (ofL _).size ≤ _
      have := nmL_len ⟨ns, nt⟩
      have := bhd_le nt.size
      rw [ofL_size]
      simp only [nmsL, List.length_append, List.length_nil]
      simp only at *
      omega
    · rw [show nmsP [⟨ns, nt⟩] = zeroPC from by unfold nmsP; rw [if_neg hm]]
      exact kd_zero 2
namespace notesApart
set_option maxRecDepth 100000 in
set_option maxHeartbeats 6400000 in
theorem walk (s0 : ByteArray) (pp : Option Addr) (ln cp : Nat) (z0 : List Int) (sub src : Int) (nm da : ByteArray) (ns : Int) (nt : ByteArray) (w00 : s0.size ≤ maxLen) (w10 : (Lit.int .i64 sub).wf = true) (w11 : (Lit.int .u32 src).wf = true) (w12 : nm.size ≤ maxLen) (w13 : da.size ≤ maxLen) (w20 : (Lit.int .u32 ns).wf = true) (w21 : nt.size ≤ maxLen) (w : World) (w01 : IsRow .u32 w pp ln cp z0) :
    Calls Try.prog 6 #[.agg #[.string s0, .slice pp ln cp], .agg #[.int .i64 sub, .int .u32 src, .string nm, .string da], .agg #[.int .u32 ns, .string nt]] w fun e w' => e = .returned (.bool true) ∧ Below w.heap.size w w' := by
  have hac : (pp = none ∧ ln = 0 ∧ cp = 0) ∨ ∃ y, pp = some y := by
    rcases w01 with ⟨a, b, c, _⟩ | ⟨x, e, _⟩
    · exact .inl ⟨a, b, c⟩
    · exact .inr ⟨x, e⟩
  obtain ⟨es, hel, hlc, hcm, hr0, hwf⟩ := w01.reads
  unfold maxLen at w00 w12 w13 w21
  have hsrc := u32_bd w11
  have hns := u32_bd w20
  obtain ⟨m, hm⟩ : ∃ m : Nat, min (ln : Int) 20 = (m : Int) := ⟨(min (ln : Int) 20).toNat, by omega⟩
  have hm33 : m ≤ 20 := by omega
  have hmc : (m : Int) ≤ (cp : Int) := by omega
  have hm0 : (0 : Int) ≤ (m : Int) := by omega
  have hrt := hr0.take m
  have hzl : (es.take m).length = m := by rw [List.length_take]; omega
  have hus : ∀ x ∈ es.take m, 0 ≤ x ∧ x ≤ 4294967295 := fun x hx => u32_bd (hwf x (List.mem_of_mem_take hx))
  have hac2 : (pp = none ∧ m = 0 ∧ cp = 0) ∨ ∃ y, pp = some y := by
    rcases hac with ⟨a, b, c⟩ | h
    · exact .inl ⟨a, by omega, c⟩
    · exact .inr h
  generalize es.take m = zs at hrt hzl hus
  have HUS := Lib.hid hus
  have HC1 := Lib.hid (fun W => cut_any s0 100 W w00 (by decide))
  have HC2 := Lib.hid (fun W => cut_any nm 4 W w12 (by decide))
  have HC3 := Lib.hid (fun W => cut_any da 60 W w13 (by decide))
  have HC4 := Lib.hid (fun W => cut_any nt 60 W w21 (by decide))
  have z1 := (cut_size s0 100).1
  have z2 := (cut_size nm 4).1
  have z3 := (cut_size da 60).1
  have z4 := (cut_size nt 60).1
  generalize cutB s0 100 = rs at HC1 z1
  generalize cutB nm 4 = nm2 at HC2 z2
  generalize cutB da 60 = da2 at HC3 z3
  generalize cutB nt 60 = nt2 at HC4 z4
  have HR := Lib.hid (fun W (h : Below w.heap.size w W) => hrt.later h)
  clear hus hr0 hwf w01 hel hrt w10 w11 w20 hac
  have hX1 : AtC 52 (((w.alloc (.cells #[.string s0, .slice pp ln cp] 52)).alloc (.cells #[.int .i64 sub, .int .u32 src, .string nm, .string da] 76)).alloc (.cells #[.int .u32 ns, .string nt] 78)) w.heap.size #[.string s0, .slice pp ln cp] := ((atC_new 52 w #[.string s0, .slice pp ln cp]).alloc _).alloc _
  have hA1 : AtC 76 (((w.alloc (.cells #[.string s0, .slice pp ln cp] 52)).alloc (.cells #[.int .i64 sub, .int .u32 src, .string nm, .string da] 76)).alloc (.cells #[.int .u32 ns, .string nt] 78)) (w.heap.size + 1) #[.int .i64 sub, .int .u32 src, .string nm, .string da] := (atC_at 76 (w.alloc (.cells #[.string s0, .slice pp ln cp] 52)) (w.heap.size + 1) #[.int .i64 sub, .int .u32 src, .string nm, .string da] (by simp)).alloc _
  have hN1 : AtC 78 (((w.alloc (.cells #[.string s0, .slice pp ln cp] 52)).alloc (.cells #[.int .i64 sub, .int .u32 src, .string nm, .string da] 76)).alloc (.cells #[.int .u32 ns, .string nt] 78)) (w.heap.size + 1 + 1) #[.int .u32 ns, .string nt] := atC_at 78 ((w.alloc (.cells #[.string s0, .slice pp ln cp] 52)).alloc (.cells #[.int .i64 sub, .int .u32 src, .string nm, .string da] 76)) (w.heap.size + 1 + 1) #[.int .u32 ns, .string nt] (by simp)
  have hb1 : Below w.heap.size w (((w.alloc (.cells #[.string s0, .slice pp ln cp] 52)).alloc (.cells #[.int .i64 sub, .int .u32 src, .string nm, .string da] 76)).alloc (.cells #[.int .u32 ns, .string nt] 78)) := (((Below.refl _ _).alloc (Nat.le_refl _) _).alloc (by simp) _).alloc (by simp; omega) _
  go_enter Try.func6, Try.ntmps6
  go_upto_region 1 with fail
  generalize (((w.alloc (.cells #[.string s0, .slice pp ln cp] 52)).alloc (.cells #[.int .i64 sub, .int .u32 src, .string nm, .string da] 76)).alloc (.cells #[.int .u32 ns, .string nt] 78)) = w3 at hX1 hA1 hN1 hb1 ⊢
  generalize hg2 : w.heap.size + 1 + 1 = g2 at hN1 ⊢
  generalize hg1 : w.heap.size + 1 = g1 at hA1 hg2 ⊢
  generalize hg : w.heap.size = g at hX1 hb1 hg1 HR ⊢
  have n01 : g < g1 := by omega
  have n12 : g1 < g2 := by omega
  have HG := Lib.hid hg
  clear hg hg1 hg2
  have hl3 := hX1.lt
  go_wp2_with fail
  refine (ntAwake_any _).mono ?_
  rintro e w4 ⟨rfl, hb4⟩
  have hX4 := hX1.later hb4
  have hA4 := hA1.later hb4
  have hN4 := hN1.later hb4
  have hbb4 := hb1.trans (hb4.mono (by omega))
  clear hX1 hA1 hN1 hb1 hb4 hl3
  obtain ⟨gw, hgwe⟩ : ∃ gw, w4.heap.size = gw := ⟨_, rfl⟩
  have HGW := Lib.hid hgwe
  clear hgwe
  go_upto_region 3 with fail
  go_cut [] (fun wx => ∃ a' c', AtC 52 wx g #[.string rs, .slice a' m c'] ∧ wx.ownsRow gw 26 1 (.slice a' m c') m (zs.map (Value.int .u32)) ∧ AtC 76 wx g1 #[.int .i64 sub, .int .u32 src, .string nm, .string da] ∧ AtC 78 wx g2 #[.int .u32 ns, .string nt] ∧ Below g w wx)
  case first =>
    obtain ⟨x0, x1⟩ := hX4.cells2
    have hgw : g ≤ w4.heap.size := Nat.le_of_lt hX4.lt
    have hgl := hX4.lt
    have hrd := HR.out _ hbb4
    have hlc' : ((ln : Nat) : Int) ≤ (cp : Int) := by omega
    have hS4 : (fun W : World => W.cell? ⟨g, 0, none⟩ = some (.string s0) ∧ W.cell? ⟨g, 1, none⟩ = some (.slice pp ln cp)) w4.drew := ⟨x0, x1⟩
    have hX5 : AtC 52 (w4.alloc (.cells #[] 26)).drew g #[.string s0, .slice pp ln cp] := (hX4.alloc _).drew
    have hv5 : World.ownsRow (w4.alloc (.cells #[] 26)).drew w4.heap.size 26 1 (.slice (some ⟨w4.heap.size, 0, none⟩) 0 0) 0 [] := World.ownsRow.drew (own_made w4 w4.heap.size w4.heap.size (by omega) rfl)
    have hr5 : Reads .u32 (w4.alloc (.cells #[] 26)).drew pp zs := hrd.later (((Below.refl _ _).alloc (Nat.le_refl _) _).drew)
    have hg5 : w4.heap.size ≤ (w4.alloc (.cells #[] 26)).drew.heap.size := by show w4.heap.size ≤ (w4.alloc _).heap.size; simp
    obtain ⟨y0, y1⟩ := hX5.cells2
    have hS5 : (fun W : World => W.cell? ⟨g, 0, none⟩ = some (.string s0) ∧ W.cell? ⟨g, 1, none⟩ = some (.slice pp ln cp)) (w4.alloc (.cells #[] 26)).drew := ⟨y0, y1⟩
    refine wp_region_noPanic ?_
    refine ordM_begin (fun W : World => W.cell? ⟨g, 0, none⟩ = some (.string s0) ∧ W.cell? ⟨g, 1, none⟩ = some (.slice pp ln cp)) (fun i => i == 13) (by kernel_rfl) hS4 ?_
    refine ordM_take 0 ?v1 rfl (by kernel_rfl) (by kernel_rfl) (by kernel_rfl) (by kernel_rfl) (fun _ _ _ h => h) (by rfl) ?hy1 (by assumption) ?rest1
    case hy1 => (intro W hSw; (try dsimp only at hSw); go_simp <;> with_reducible rfl)
    (try simp only [Act.put, List.setIfInBounds_toArray, List.set_cons_zero, List.set_cons_succ])
    refine ordM_take 1 ?v2 rfl (by kernel_rfl) (by kernel_rfl) (by kernel_rfl) (by kernel_rfl) (fun _ _ _ h => h) (by rfl) ?hy2 (by assumption) ?rest2
    case hy2 => (intro W hSw; (try dsimp only at hSw); go_simp <;> with_reducible rfl)
    (try simp only [Act.put, List.setIfInBounds_toArray, List.set_cons_zero, List.set_cons_succ])
    refine ordM_take 4 ?v3 rfl (by kernel_rfl) (by kernel_rfl) (by kernel_rfl) (by kernel_rfl) (fun _ _ _ h => h) (by rfl) ?hy3 (by assumption) ?rest3
    case hy3 => (intro W hSw; (try dsimp only at hSw); go_simp <;> with_reducible rfl)
    (try simp only [Act.put, List.setIfInBounds_toArray, List.set_cons_zero, List.set_cons_succ])
    refine ordM_take 5 ?v4 rfl (by kernel_rfl) (by kernel_rfl) (by kernel_rfl) (by kernel_rfl) (fun _ _ _ h => h) (by rfl) ?hy4 (by assumption) ?rest4
    case hy4 => (intro W hSw; (try dsimp only at hSw); go_simp <;> with_reducible rfl)
    (try simp only [Act.put, List.setIfInBounds_toArray, List.set_cons_zero, List.set_cons_succ])
    refine ordM_take 6 ?v5 rfl (by kernel_rfl) (by kernel_rfl) (by kernel_rfl) (by kernel_rfl) (fun _ _ _ h => h) (by rfl) ?hy5 (by assumption) ?rest5
    case hy5 => (intro W hSw; (try dsimp only at hSw); go_simp <;> with_reducible rfl)
    (try simp only [Act.put, List.setIfInBounds_toArray, List.set_cons_zero, List.set_cons_succ])
    refine ordM_take 7 ?v6 rfl (by kernel_rfl) (by kernel_rfl) (by kernel_rfl) (by kernel_rfl) (fun _ _ _ h => h) (by rfl) ?hy6 (by assumption) ?rest6
    case hy6 => (intro W hSw; (try dsimp only at hSw); go_simp <;> with_reducible rfl)
    (try simp only [Act.put, List.setIfInBounds_toArray, List.set_cons_zero, List.set_cons_succ])
    refine ordM_take 8 ?v7 rfl (by kernel_rfl) (by kernel_rfl) (by kernel_rfl) (by kernel_rfl) (fun _ _ _ h => h) (by rfl) ?hy7 (by assumption) ?rest7
    case hy7 => (intro W hSw; (try dsimp only at hSw); go_simp <;> with_reducible rfl)
    (try simp only [Act.put, List.setIfInBounds_toArray, List.set_cons_zero, List.set_cons_succ])
    refine ordM_take 9 ?v8 rfl (by kernel_rfl) (by kernel_rfl) (by kernel_rfl) (by kernel_rfl) (fun _ _ _ h => h) (by rfl) ?hy8 (by assumption) ?rest8
    case hy8 => (intro W hSw; (try dsimp only at hSw); go_simp <;> with_reducible rfl)
    (try simp only [Act.put, List.setIfInBounds_toArray, List.set_cons_zero, List.set_cons_succ])
    refine ordM_take 10 ?v9 rfl (by kernel_rfl) (by kernel_rfl) (by kernel_rfl) (by kernel_rfl) (fun _ _ _ h => h) (by rfl) ?hy9 (by assumption) ?rest9
    case hy9 => (intro W hSw; (try dsimp only at hSw); go_simp <;> with_reducible rfl)
    (try simp only [Act.put, List.setIfInBounds_toArray, List.set_cons_zero, List.set_cons_succ])
    refine ordM_ready [2, 3] (by kernel_rfl) (by simp) ?_
    refine AllReadyM.cons rfl (fun K hK => ?_) ?_
    · go_simp
      go_at_call 13
      refine (HC1.out _).mono ?_
      rintro e w' ⟨rfl, rfl⟩
      (try go_wp2_with fail)
      refine hK.out _ _ (fun _ => by assumption) ?_
      clear hK K
      (try simp only [Act.put, List.setIfInBounds_toArray, List.set_cons_zero, List.set_cons_succ])
      refine ordM_ready [3] (by kernel_rfl) (by simp) ?_
      refine AllReadyM.cons rfl (fun K hK => ?_) ?_
      · go_simp
        refine hK.out _ _ (fun _ => hS5) ?_
        clear hK K
        (try simp only [Act.put, List.setIfInBounds_toArray, List.set_cons_zero, List.set_cons_succ])
        clear hS4
        refine ordM_ready [11] (by kernel_rfl) (by simp) ?_
        refine AllReadyM.cons rfl (fun K hK => ?_) ?_
        · refine step_cutU (T := 52) rfl (.tmp 20) (.tmp 27) rfl w4.heap.size g #[.string s0, .slice pp ln cp] (.slice (some ⟨w4.heap.size, 0, none⟩) 0 0) pp m cp zs (by decide) hX5 hv5 (by rfl) (by rfl) hzl hac2 hr5 (by omega) hg5 ?_
          intro ad3 cq w10 H10
          obtain ⟨hv10, hX10, hbl10⟩ := H10.out
          have hb10 : Below w4.heap.size w4 w10 := hbl10 _ _ (Nat.le_refl _) (((Below.refl _ _).alloc (Nat.le_refl _) _).drew)
          obtain ⟨u0, u1⟩ := hX10.cells2
          have f10 := hX10.free 0
          have f11 := hX10.free 1
          have hS10 : (fun W : World => W.cell? ⟨g, 0, none⟩ = some (.string s0) ∧ W.cell? ⟨g, 1, none⟩ = some (.slice pp ln cp)) w10 := ⟨u0, u1⟩
          refine hK.out _ _ (fun _ => hS10) ?_
          clear hK K
          (try simp only [Act.put, List.setIfInBounds_toArray, List.set_cons_zero, List.set_cons_succ])
          refine ordM_take 12 ?v10 rfl (by kernel_rfl) (by kernel_rfl) (by kernel_rfl) (by kernel_rfl) (fun _ _ _ h => h) (by rfl) ?hy10 (by assumption) ?rest10
          case hy10 => (intro W hSw; (try dsimp only at hSw); go_simp <;> with_reducible rfl)
          (try simp only [Act.put, List.setIfInBounds_toArray, List.set_cons_zero, List.set_cons_succ])
          refine ordM_ready [13] (by kernel_rfl) (by simp) ?_
          refine AllReadyM.cons rfl (fun K hK => ?_) ?_
          · go_simp
            refine hK.out _ _ (fun h => absurd h (by decide)) ?_
            clear hK K
            (try simp only [Act.put, List.setIfInBounds_toArray, List.set_cons_zero, List.set_cons_succ])
            refine ordM_done (by kernel_rfl) ?_ _
            refine NoPanic.normal ?_
            go_wp2_with fail
            go_meet
            have hZ : AtC 52 ((w10.setCell ⟨g, 0, none⟩ (.string rs)).setCell ⟨g, 1, none⟩ (.slice ad3 m cq)) g #[.string rs, .slice ad3 m cq] := by
              have h0 : AtC 52 (w10.setCell ⟨g, 0, none⟩ (.string rs)) g #[.string rs, .slice pp ln cp] := block_setCell hX10
              exact block_setCell h0
            have ho := ((Only.refl g w10).setCell 0 (.string rs)).setCell 1 (.slice ad3 m cq)
            exact ⟨ad3, cq, hZ, by rw [← HGW.out]; exact sfB_by hv10 hX10, (hA4.later hb10).only (by omega) ho, (hN4.later hb10).only (by omega) ho, (hbb4.trans (hb10.mono hgw)).trans (ho.below (Nat.le_refl _))⟩
          exact AllReadyM.nil
        exact AllReadyM.nil
      exact AllReadyM.nil
    refine AllReadyM.cons rfl (fun K hK => ?_) ?_
    · go_simp
      refine hK.out _ _ (fun _ => hS5) ?_
      clear hK K
      (try simp only [Act.put, List.setIfInBounds_toArray, List.set_cons_zero, List.set_cons_succ])
      clear hS4
      refine ordM_ready [2] (by kernel_rfl) (by simp) ?_
      refine AllReadyM.cons rfl (fun K hK => ?_) ?_
      · go_simp
        go_at_call 13
        refine (HC1.out _).mono ?_
        rintro e w' ⟨rfl, rfl⟩
        (try go_wp2_with fail)
        refine hK.out _ _ (fun _ => by assumption) ?_
        clear hK K
        (try simp only [Act.put, List.setIfInBounds_toArray, List.set_cons_zero, List.set_cons_succ])
        refine ordM_ready [11] (by kernel_rfl) (by simp) ?_
        refine AllReadyM.cons rfl (fun K hK => ?_) ?_
        · refine step_cutU (T := 52) rfl (.tmp 20) (.tmp 27) rfl w4.heap.size g #[.string s0, .slice pp ln cp] (.slice (some ⟨w4.heap.size, 0, none⟩) 0 0) pp m cp zs (by decide) hX5 hv5 (by rfl) (by rfl) hzl hac2 hr5 (by omega) hg5 ?_
          intro ad3 cq w10 H10
          obtain ⟨hv10, hX10, hbl10⟩ := H10.out
          have hb10 : Below w4.heap.size w4 w10 := hbl10 _ _ (Nat.le_refl _) (((Below.refl _ _).alloc (Nat.le_refl _) _).drew)
          obtain ⟨u0, u1⟩ := hX10.cells2
          have f10 := hX10.free 0
          have f11 := hX10.free 1
          have hS10 : (fun W : World => W.cell? ⟨g, 0, none⟩ = some (.string s0) ∧ W.cell? ⟨g, 1, none⟩ = some (.slice pp ln cp)) w10 := ⟨u0, u1⟩
          refine hK.out _ _ (fun _ => hS10) ?_
          clear hK K
          (try simp only [Act.put, List.setIfInBounds_toArray, List.set_cons_zero, List.set_cons_succ])
          refine ordM_take 12 ?v11 rfl (by kernel_rfl) (by kernel_rfl) (by kernel_rfl) (by kernel_rfl) (fun _ _ _ h => h) (by rfl) ?hy11 (by assumption) ?rest11
          case hy11 => (intro W hSw; (try dsimp only at hSw); go_simp <;> with_reducible rfl)
          (try simp only [Act.put, List.setIfInBounds_toArray, List.set_cons_zero, List.set_cons_succ])
          refine ordM_ready [13] (by kernel_rfl) (by simp) ?_
          refine AllReadyM.cons rfl (fun K hK => ?_) ?_
          · go_simp
            refine hK.out _ _ (fun h => absurd h (by decide)) ?_
            clear hK K
            (try simp only [Act.put, List.setIfInBounds_toArray, List.set_cons_zero, List.set_cons_succ])
            refine ordM_done (by kernel_rfl) ?_ _
            refine NoPanic.normal ?_
            go_wp2_with fail
            go_meet
            have hZ : AtC 52 ((w10.setCell ⟨g, 0, none⟩ (.string rs)).setCell ⟨g, 1, none⟩ (.slice ad3 m cq)) g #[.string rs, .slice ad3 m cq] := by
              have h0 : AtC 52 (w10.setCell ⟨g, 0, none⟩ (.string rs)) g #[.string rs, .slice pp ln cp] := block_setCell hX10
              exact block_setCell h0
            have ho := ((Only.refl g w10).setCell 0 (.string rs)).setCell 1 (.slice ad3 m cq)
            exact ⟨ad3, cq, hZ, by rw [← HGW.out]; exact sfB_by hv10 hX10, (hA4.later hb10).only (by omega) ho, (hN4.later hb10).only (by omega) ho, (hbb4.trans (hb10.mono hgw)).trans (ho.below (Nat.le_refl _))⟩
          exact AllReadyM.nil
        exact AllReadyM.nil
      exact AllReadyM.nil
    exact AllReadyM.nil
  case rest =>
  obtain ⟨a1, c1, hX, hv, hA, hN, hb⟩ := hcut
  clear hX4 hA4 hN4 hbb4 HR HC1 hac2 hm hmc hm0 hlc hcm
  rename World => w5
  go_upto_region 4 with fail
  go_cut [] (fun wx => AtC 52 wx g #[.string rs, .slice a1 m c1] ∧ wx.ownsRow gw 26 1 (.slice a1 m c1) m (zs.map (Value.int .u32)) ∧ AtC 76 wx g1 #[.int .i64 sub, .int .u32 src, .string nm2, .string da2] ∧ AtC 78 wx g2 #[.int .u32 ns, .string nt2] ∧ Below g w wx)
  case first =>
    obtain ⟨x0, x1, x2, x3⟩ := hA.cells4
    obtain ⟨y0, y1⟩ := hN.cells2
    obtain ⟨f0, f1, f2, f3⟩ := hA.frees4
    have f4 := hN.free 1
    have hA5 : AtC 76 w5.drew g1 #[.int .i64 sub, .int .u32 src, .string nm, .string da] := hA
    have hN5 : AtC 78 w5.drew g2 #[.int .u32 ns, .string nt] := hN
    have ne1 : g1 ≠ g2 := by omega
    have ne2 : g ≠ g1 := by omega
    have ne3 : g ≠ g2 := by omega
    have hA6 : AtC 76 ((w5.setCell ⟨g1, 2, none⟩ (.string nm2)).setCell ⟨g1, 3, none⟩ (.string da2)) g1 #[.int .i64 sub, .int .u32 src, .string nm2, .string da2] := by
      have h0 : AtC 76 (w5.setCell ⟨g1, 2, none⟩ (.string nm2)) g1 #[.int .i64 sub, .int .u32 src, .string nm2, .string da] := block_setCell hA
      exact block_setCell h0
    have ho6 := ((Only.refl g1 w5).setCell 2 (.string nm2)).setCell 3 (.string da2)
    have hN6 := hN.only ne1.symm ho6
    have hN7 : AtC 78 (((w5.setCell ⟨g1, 2, none⟩ (.string nm2)).setCell ⟨g1, 3, none⟩ (.string da2)).setCell ⟨g2, 1, none⟩ (.string nt2)) g2 #[.int .u32 ns, .string nt2] := block_setCell hN6
    have ho7 := (Only.refl g2 ((w5.setCell ⟨g1, 2, none⟩ (.string nm2)).setCell ⟨g1, 3, none⟩ (.string da2))).setCell 1 (.string nt2)
    have hA7 := hA6.only ne1 ho7
    have hX7 := (hX.only ne2 ho6).only ne3 ho7
    have hv6 : ((w5.setCell ⟨g1, 2, none⟩ (.string nm2)).setCell ⟨g1, 3, none⟩ (.string da2)).ownsRow gw 26 1 (.slice a1 m c1) m (zs.map (Value.int .u32)) := by
      have h0 : AtC 76 (w5.setCell ⟨g1, 2, none⟩ (.string nm2)) g1 #[.int .i64 sub, .int .u32 src, .string nm2, .string da] := block_setCell hA
      exact ownB_store (ownB_store hv hA (by decide)) h0 (by decide)
    have hv7 := ownB_store (i := 1) (u := .string nt2) hv6 hN6 (by decide)
    have hb7 := (hb.trans (ho6.below (by omega))).trans (ho7.below (by omega))
    go_region_law (first | (go_simp; go_at_call_of 13 (Value.string nm); refine (HC2.out _).mono ?_; rintro e w' ⟨rfl, rfl⟩) | (go_simp; go_at_call_of 13 (Value.string da); refine (HC3.out _).mono ?_; rintro e w' ⟨rfl, rfl⟩) | (go_simp; go_at_call_of 13 (Value.string nt); refine (HC4.out _).mono ?_; rintro e w' ⟨rfl, rfl⟩))
    all_goals
      go_wp2_with fail
      go_meet
      exact ⟨hX7.drew, hv7.drew, hA7.drew, hN7.drew, hb7.drew⟩
  case rest =>
  obtain ⟨hX6, hv6, hA6, hN6, hb6⟩ := hcut
  clear hX hv hA hN hb HC2 HC3 HC4 HGW
  rename World => w6
  subst hzl
  have hrX : Reads .u32 w6 a1 zs := by
    obtain ⟨a', c', e, _, _, _, hr⟩ := own_reads hv6
    cases e
    exact hr
  clear hv6
  have hus := HUS.out
  obtain ⟨⟨c1', k1', b1'⟩, hq1⟩ : ∃ q, byP ⟨rs, zs⟩ = q := ⟨_, rfl⟩
  obtain ⟨⟨c2', k2', b2'⟩, hq2⟩ : ∃ q, apP ⟨sub, src, nm2, da2⟩ = q := ⟨_, rfl⟩
  obtain ⟨⟨c3', k3', b3'⟩, hq3⟩ : ∃ q, nmsP [⟨ns, nt2⟩] = q := ⟨_, rfl⟩
  have hK := kinds_all rs zs sub src nm2 da2 ns nt2 (by omega) (by omega) (by omega) (by omega) (by omega) hus hsrc.1 hsrc.2 hns.1 hns.2
  rw [hq1, hq2, hq3] at hK
  have hP1 := fun (W : World) (h : Reads .u32 W a1 zs) => byePiece_any ⟨rs, zs⟩ a1 c1 W h (show zs.length ≤ 1000000 by omega) (show rs.size ≤ 9223372036854775807 by omega)
  have hP2 := fun (W : World) => apPiece_any ⟨sub, src, nm2, da2⟩ W (show nm2.size ≤ 9223372036854775807 by omega) (show da2.size ≤ 9223372036854775807 by omega)
  have hP3 := fun (W : World) (n : Nat) (h : W.heap[n]? = some (.cells #[.int .u32 ns, .string nt2] 78 (0, 0))) => names_any [⟨ns, nt2⟩] (some ⟨n, 0, none⟩) 1 1 W rfl (lit_readsN h) (by simp) (fun k hk => by
    have hk0 : k = 0 := by simp at hk; omega
    subst hk0
    show nt2.size ≤ 100000
    omega)
  simp only [hq1] at hP1
  simp only [hq2] at hP2
  simp only [hq3] at hP3
  have HS := Lib.hid (fun (W : World) (h : Below w6.heap.size w6 W) => ap_S (hX6.later h) (hA6.later h) (hN6.later h) h)
  have HP1 := Lib.hid (fun (W : World) (h : Below w6.heap.size w6 W) => hP1 W (hrX.later h))
  have HP2 := Lib.hid hP2
  have HP3 := Lib.hid hP3
  have HKK := Lib.hid hK
  clear hP1 hP2 hP3 hq1 hq2 hq3 hus hK hrX
  have hl6 := hX6.lt
  go_upto_region 5 with fail
  go_cut [49, 50, 51] (fun z1 z2 z3 wx => z2 = .int .i64 3 ∧ z3 = .int .i64 0 ∧ ∃ a c, z1 = .slice a 3 c ∧ ReadsP wx a [⟨c1', k1', b1'⟩, ⟨c2', k2', b2'⟩, ⟨c3', k3', b3'⟩] ∧ Below g w wx)
  case first =>
    go_region_held3 (fun W => W.cell? ⟨g, 0, none⟩ = some (.string rs) ∧ W.cell? ⟨g, 1, none⟩ = some (.slice a1 zs.length c1) ∧ W.cell? ⟨g1, 0, none⟩ = some (.int .i64 sub) ∧ W.cell? ⟨g1, 1, none⟩ = some (.int .u32 src) ∧ W.cell? ⟨g1, 2, none⟩ = some (.string nm2) ∧ W.cell? ⟨g1, 3, none⟩ = some (.string da2) ∧ W.cell? ⟨g2, 0, none⟩ = some (.int .u32 ns) ∧ W.cell? ⟨g2, 1, none⟩ = some (.string nt2) ∧ Below w6.heap.size w6 W) (first | (go_keep; done) | exact HS.out _ (Below.drew (Below.refl _ _)) | exact HS.out _ (Below.trans (by go_split_ands; assumption) (Below.mono (by assumption) (Below.size (by go_split_ands; assumption)))) | exact HS.out _ (Below.alloc (by go_split_ands; assumption) (Below.size (by go_split_ands; assumption)) _) | (go_split_ands; assumption)) (first | (go_at_call 24; refine (HP1.out _ (by go_split_ands; assumption)).mono ?_; rintro e w7 ⟨rfl, hk7⟩) | (go_at_call 35; refine (HP2.out _).mono ?_; rintro e w8 ⟨rfl, hk8⟩) | (go_at_call 36; refine (HP3.out _ _ ?xb).mono ?_; (case xb => (repeat (first | with_reducible refine heap_at_drew ?_ | (with_reducible refine heap_at_new _ _ _ ?_; first | rfl | (simp; done)) | with_reducible refine heap_at_old _ _ _ _ ?_ | (refine blk_later ?_ hk8) | (refine blk_later ?_ hk7)))); rintro e w9 ⟨rfl, hk9⟩))
    all_goals
      go_wp2_with fail
      go_meet
      exact ⟨rfl, rfl, some ⟨w9.heap.size, 0, none⟩, 3, rfl, lit_readsP (heap_alloc_new w9 _), hb6.trans (Below.mono (by go_split_ands; assumption) (by omega))⟩
  case rest =>
  obtain ⟨rfl, rfl, ap, cp2, rfl, hrP, hb7⟩ := hcut
  clear hX6 hA6 hN6 hb6 HS HP1 HP2 HP3 hl6
  rename World => w7
  have HRP := Lib.hid (fun (W : World) (h : Below w7.heap.size w7 W) => hrP.later h)
  have HKD : Hid (∀ k, k < 3 → Kd k (([⟨c1', k1', b1'⟩, ⟨c2', k2', b2'⟩, ⟨c3', k3', b3'⟩] : List PC)[k]?.getD zeroPC)) := Lib.hid (fun k hk => by
    match k, hk with
    | 0, _ => exact HKK.out.1
    | 1, _ => exact HKK.out.2.1
    | 2, _ => exact HKK.out.2.2)
  obtain ⟨PL, hPL⟩ : ∃ PL : List PC, [⟨c1', k1', b1'⟩, ⟨c2', k2', b2'⟩, ⟨c3', k3', b3'⟩] = PL := ⟨_, rfl⟩
  have hPLl : PL.length = 3 := by rw [← hPL]; rfl
  rw [hPL] at HRP HKD
  clear hPL hrP HKK
  have HPL := Lib.hid hPLl
  clear hPLl
  have hg7 : g ≤ w7.heap.size := by rw [← HG.out]; exact hb7.size
  go_wp2_with fail
  go_loopw [51] (fun i wr => ∃ k : Nat, k ≤ 3 ∧ i = .int .i64 k ∧ Below w7.heap.size w7 wr) (fun i _ => 3 - (intOf i).toNat)
  case atStart => exact ⟨0, by omega, rfl, Below.refl _ _⟩
  case round =>
    obtain ⟨k, hk, rfl, hbk⟩ := hrel
    by_cases hlt : k < 3
    · obtain ⟨ab, off, rfl, x0, x1, x2⟩ := (HRP.out _ hbk).at (i := k) (by rw [HPL.out]; exact hlt)
      have hkd := HKD.out k hlt
      generalize PL[k]?.getD zeroPC = p at x0 x1 x2 hkd
      obtain ⟨pc, pk, pb⟩ := p
      obtain ⟨hps, hkd⟩ := hkd
      simp only at x0 x1 x2 hps
      have hT1 := fun W => toBye_any ⟨pc, pk, pb⟩ W (show pb.size ≤ 1099511627776 by omega)
      have hT2 := fun W => toApp_any ⟨pc, pk, pb⟩ W (show pb.size ≤ 1099511627776 by omega)
      have hT3 := fun W => toNames_any ⟨pc, pk, pb⟩ W (show pb.size ≤ 1099511627776 by omega)
      unfold ToBd at hT1
      unfold ToAd at hT2
      unfold ToNd at hT3
      generalize toBE ⟨pc, pk, pb⟩ = E at hT1 hkd
      generalize toAE ⟨pc, pk, pb⟩ = F at hT2 hkd
      generalize toNE ⟨pc, pk, pb⟩ = G at hT3 hkd
      generalize toB ⟨pc, pk, pb⟩ = tb at hT1
      generalize toA ⟨pc, pk, pb⟩ = tap at hT2
      generalize toN ⟨pc, pk, pb⟩ = tn at hT3
      have HT1 := Lib.hid hT1
      have HT2 := Lib.hid hT2
      have HT3 := Lib.hid hT3
      have HKD2 := Lib.hid hkd
      clear hT1 hT2 hT3 hkd
      have hQ8 := atC_new 33 wr #[.int .i64 pc, .int .i64 pk, .string pb]
      have hb8 := hbk.alloc hbk.size (.cells #[.int .i64 pc, .int .i64 pk, .string pb] 33)
      go_upto_region 8 with fail
      generalize wr.alloc (.cells #[.int .i64 pc, .int .i64 pk, .string pb] 33) = w8 at hQ8 hb8 ⊢
      generalize wr.heap.size = gp at hQ8 ⊢
      clear x0 x1 x2 hbk
      obtain ⟨x0, x1, x2⟩ := hQ8.cells3
      go_wp2_with fail
      refine (HT1.out _).mono ?_
      rintro e w9 ⟨hk9, ta, tc, rfl, _⟩
      have hQ9 := (hQ8.later hk9).alloc (.cells #[.string tb.reason, .slice ta tb.srcs.length tc] 52)
      have hb9 := (hb8.trans (hk9.mono hb8.size)).alloc (Nat.le_trans hb8.size hk9.size) (.cells #[.string tb.reason, .slice ta tb.srcs.length tc] 52)
      go_upto_region 9 with fail
      generalize w9.alloc (.cells #[.string tb.reason, .slice ta tb.srcs.length tc] 52) = w10 at hQ9 hb9 ⊢
      clear hQ8 hb8 hk9 x0 x1 x2
      obtain ⟨x0, x1, x2⟩ := hQ9.cells3
      go_wp2_with fail
      refine (HT2.out _).mono ?_
      rintro e w11 ⟨rfl, hk11⟩
      have hQ11 := (hQ9.later hk11).alloc (.cells #[.int .i64 tap.sub, .int .u32 tap.src, .string tap.name, .string tap.data] 76)
      have hb11 := (hb9.trans (hk11.mono hb9.size)).alloc (Nat.le_trans hb9.size hk11.size) (.cells #[.int .i64 tap.sub, .int .u32 tap.src, .string tap.name, .string tap.data] 76)
      go_upto_region 10 with fail
      generalize w11.alloc (.cells #[.int .i64 tap.sub, .int .u32 tap.src, .string tap.name, .string tap.data] 76) = w12 at hQ11 hb11 ⊢
      clear hQ9 hb9 hk11 x0 x1 x2
      obtain ⟨x0, x1, x2⟩ := hQ11.cells3
      go_wp2_with fail
      refine (HT3.out _).mono ?_
      rintro e w14 ⟨hk14, na, nc, rfl, _⟩
      have hQ14 := hQ11.later hk14
      have hb14 := hb11.trans (hk14.mono hb11.size)
      go_upto_region 11 with fail
      clear hQ11 hb11 hk14 x0 x1 x2 HT1 HT2 HT3
      obtain ⟨x0, x1, x2⟩ := hQ14.cells3
      rcases HKD2.out with ⟨hz, e1, e2, e3⟩ | ⟨hpk, i1, i2, i3⟩
      · obtain ⟨rfl, rfl, rfl⟩ : pc = 0 ∧ pk = 0 ∧ pb = { data := #[] } := by cases hz; exact ⟨rfl, rfl, rfl⟩
        have f1 : (E == 0) = false := by simpa using e1
        have f2 : (F == 0) = false := by simpa using e2
        have f3 : (G == 0) = false := by simpa using e3
        clear hz e1 e2 e3 HKD2
        go_wp2_with fail
        go_roundw
        case rel => exact ⟨k + 1, by omega, by go_num, hb14⟩
        case measure => simp [intOf]; omega
      · have hp1 : (pk == 0) = false := by simpa using hpk
        have hp2 : ¬ pk = 0 := hpk
        clear HKD2 hpk
        have hk3 : k = 0 ∨ k = 1 ∨ k = 2 := by omega
        rcases hk3 with rfl | rfl | rfl
        · obtain rfl := i1.2 rfl
          have f2 : (F == 0) = false := by have : F ≠ 0 := fun h => absurd (i2.1 h) (by decide); simpa using this
          have f3 : (G == 0) = false := by have : G ≠ 0 := fun h => absurd (i3.1 h) (by decide); simpa using this
          clear i1 i2 i3
          go_wp2_with fail
          go_roundw
          case rel => exact ⟨1, by omega, by go_num, hb14⟩
          case measure => simp [intOf]
        · obtain rfl := i2.2 rfl
          have f1 : (E == 0) = false := by have : E ≠ 0 := fun h => absurd (i1.1 h) (by decide); simpa using this
          have f3 : (G == 0) = false := by have : G ≠ 0 := fun h => absurd (i3.1 h) (by decide); simpa using this
          clear i1 i2 i3
          go_wp2_with fail
          go_roundw
          case rel => exact ⟨2, by omega, by go_num, hb14⟩
          case measure => simp [intOf]
        · obtain rfl := i3.2 rfl
          have f1 : (E == 0) = false := by have : E ≠ 0 := fun h => absurd (i1.1 h) (by decide); simpa using this
          have f2 : (F == 0) = false := by have : F ≠ 0 := fun h => absurd (i2.1 h) (by decide); simpa using this
          clear i1 i2 i3
          go_wp2_with fail
          go_roundw
          case rel => exact ⟨3, by omega, by go_num, hb14⟩
          case measure => simp [intOf]
    · obtain rfl : k = 3 := by omega
      go_wp2_with fail
      go_ret
      exact ⟨rfl, by rw [HG.out]; exact hb7.trans (hbk.mono hg7)⟩
end notesApart
end Go.Proofs.Ytjoikidnnhjogaa

/- NotesApart: for every input the call answers true, and each argument reads behind the call as it read before. No conditions. -/
namespace Go.Proofs.Ytjoikidnnhjogaa.notesApart
open Go.ChangeShapes Go.WideShapes Go.ChangeAt Go.RowKit Go.Joins
open Go.ChangeMaps (open_string shut_string)
set_option linter.unusedVariables false

theorem own : ownKnob Try.prog.godebug = none := by kernel_rfl
theorem laidOut : laidOutB Try.prog = true := by kernel_rfl
theorem cells0 : Try.prog.cellsOf 52 = 2 := by kernel_rfl
theorem cells1 : Try.prog.cellsOf 76 = 4 := by kernel_rfl
theorem cells2 : Try.prog.cellsOf 78 = 2 := by kernel_rfl
set_option maxRecDepth 100000 in
theorem lifted (os : Os) (started : os.Started) (H : Type) (enc : TypeId × Value → H) :
    ReturnsInHanded {} Try.checked os 6 .any (Rows.notesApartSpec.pre6 enc Try.prog Try.f6 Rows.notesApartRow.domain false) (Rows.notesApartSpec.post enc Try.prog Try.f6 false true false false) := by
  refine returnsInHanded_of_change (C := Try.checked) own started (by kernel_rfl) Try.func6
    (ChangeSpec.witness6 (enc := enc) (C := Try.checked) false ⟨#[], #[.agg #[.string ByteArray.empty, .slice none 0 0], .agg #[.int .i64 0, .int .u32 0, .string ByteArray.empty, .string ByteArray.empty], .agg #[.int .u32 0, .string ByteArray.empty]], []⟩ 8 (by kernel_rfl) (by kernel_rfl) (by kernel_rfl) (by kernel_rfl)) ?_
  intro W base args ds gs before hval0 hW hcnd _
  have hval : ∀ (j : Nat) t v, Try.f6.params[j]? = some t → args[j]? = some v → Value.okWide Try.prog W .any base t v := hval0
  have hW' := hW
  obtain ⟨p, q, hA0, hV, rfl, hfz, hnd⟩ := hW
  have hA : DataW.TrodAll enc Try.prog W 0 (fun _ => true) true Try.f6.params.toList args.toList ds p := hA0
  rw [Try.params6] at hA hval
  obtain ⟨v0, vs0, d0, ds0, p0, q0, hargs, rfl, rfl, h0, r0⟩ := trodAll_cons hA
  obtain ⟨v1, vs1, d1, ds1, p1, q1, rfl, rfl, rfl, h1, r1⟩ := trodAll_cons r0
  obtain ⟨v2, vs2, d2, ds2, p2, q2, rfl, rfl, rfl, h2, r2⟩ := trodAll_cons r1
  obtain ⟨rfl, rfl, rfl⟩ := trodAll_nil r2
  obtain rfl : args = #[v0, v1, v2] := by cases args; simp_all
  obtain ⟨rfl, rfl⟩ := trodVars_none hV
  have k0 := h0
  have lt0 : ∀ x ∈ p0, x.block < W.heap.size := by obtain ⟨m, hm⟩ := k0; exact DataW.trod_lt m _ _ _ hm
  obtain ⟨c00, c01, y00, y01, m0, rfl, rfl, rfl, hy00, hy01⟩ := open_agg2 Try.underlying52 (by kernel_rfl) cells0 (hval 0 52 v0 rfl rfl) h0
  obtain ⟨s00, e00, rfl, w00⟩ := DataW.trod_string Try.underlying9 hy00
  obtain ⟨pp01, len01, cap01, z01, ec01, w01⟩ : ∃ pp ln cp zs, c01 = .slice pp ln cp ∧ IsRow .u32 W pp ln cp zs := by
    rcases open_ints Try.underlying50 Try.underlying26 (by kernel_rfl) hy01 with ⟨hcs, _⟩ | ⟨x, l, c, zs, hcs, _, hl, hm, hz, _, hcell, hwz⟩
    · simp at hcs
      exact ⟨none, 0, 0, [], hcs, .inl ⟨rfl, rfl, rfl, rfl⟩⟩
    · simp at hcs
      exact ⟨some x, l, c, zs, hcs, .inr ⟨_, rfl, hl, hm, by simpa using hz, hcell, hwz⟩⟩
  subst ec01
  simp at e00
  subst e00
  have k1 := h1
  have lt1 : ∀ x ∈ p1, x.block < W.heap.size := by obtain ⟨m, hm⟩ := k1; exact DataW.trod_lt m _ _ _ hm
  obtain ⟨c10, c11, c12, c13, y10, y11, y12, y13, m1, rfl, rfl, rfl, hy10, hy11, hy12, hy13⟩ := open_agg4 Try.underlying76 (by kernel_rfl) cells1 (hval 1 76 v1 rfl rfl) h1
  obtain ⟨a10, e10, rfl, w10⟩ := DataW.trod_int Try.underlying3 hy10
  obtain ⟨a11, e11, rfl, w11⟩ := DataW.trod_int Try.underlying26 hy11
  obtain ⟨s12, e12, rfl, w12⟩ := DataW.trod_string Try.underlying9 hy12
  obtain ⟨s13, e13, rfl, w13⟩ := DataW.trod_string Try.underlying9 hy13
  simp at e10 e11 e12 e13
  subst e10 e11 e12 e13
  have k2 := h2
  have lt2 : ∀ x ∈ p2, x.block < W.heap.size := by obtain ⟨m, hm⟩ := k2; exact DataW.trod_lt m _ _ _ hm
  obtain ⟨c20, c21, y20, y21, m2, rfl, rfl, rfl, hy20, hy21⟩ := open_agg2 Try.underlying78 (by kernel_rfl) cells2 (hval 2 78 v2 rfl rfl) h2
  obtain ⟨a20, e20, rfl, w20⟩ := DataW.trod_int Try.underlying26 hy20
  obtain ⟨s21, e21, rfl, w21⟩ := DataW.trod_string Try.underlying9 hy21
  simp at e20 e21
  subst e20 e21
  clear hA0 hval0
  refine (walk s00 pp01 len01 cap01 z01 a10 a11 s12 s13 a20 s21 w00 w10 w11 w12 w13 w20 w21 W w01).mono fun e W' ⟨he, bel⟩ => ?_
  subst he
  exact ⟨_, rfl, _, _, _, [], _, [], hW', trodAll_mk1 (shut_bool Try.underlying4 _), (trodAll_cons_mk (Below.trod laidOut (by kernel_rfl) (of_decide_eq_true (by kernel_rfl)) k0 bel lt0) (trodAll_cons_mk (Below.trod laidOut (by kernel_rfl) (of_decide_eq_true (by kernel_rfl)) k1 bel lt1) (trodAll_cons_mk (Below.trod laidOut (by kernel_rfl) (of_decide_eq_true (by kernel_rfl)) k2 bel lt2) trodAll_mk0))), rfl, bel.frame _, fun h => by cases h⟩

theorem over : Rows.notesApartRow.holds Try.pinned (OpenSpec.ofChange Rows.notesApartSpec) :=
  OpenClaim.holds_of_wide 6 Try.f6 rfl rfl rfl rfl rfl rfl rfl ⟨rfl, rfl, rfl, rfl, rfl⟩ rfl rfl rfl rfl rfl (by kernel_rfl) Try.func6 (by kernel_rfl)
    (of_decide_eq_true (by kernel_rfl)) (by unfold Func.isWrapper; first | (rw [if_pos (by decide +kernel)]; kernel_rfl) | (rw [if_neg (by decide +kernel)]; exact ⟨rfl, rfl⟩))
    (fun os started H enc _ => lifted os started H enc)

/-- THE STATEMENT. -/
theorem proved : Rows.NotesApartSaid := over
#print axioms proved
end Go.Proofs.Ytjoikidnnhjogaa.notesApart
