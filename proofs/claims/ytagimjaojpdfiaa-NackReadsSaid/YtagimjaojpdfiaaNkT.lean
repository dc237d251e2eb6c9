/- nack: take. -/
import Derived.Test.YtagimjaojpdfiaaNkN
import Derived.Test.YtagimjaojpdfiaaPcS
import Derived.Maps.OwnSet
namespace Go.Proofs.Ytagimjaojpdfiaa
open Go.RowKit Go.Shelf Go.Maps
set_option linter.unusedVariables false
attribute [local go_sem] Oper.semAt_some
theorem law16k : Keyed Try.prog 129 := int_keyed Try.underlying129
theorem zeroUk (w : World) : (zeroValue 191).run Try.prog w = .ok (.agg #[]) w := by kernel_rfl
theorem u16_key {x : Int} (h : 0 ≤ x ∧ x < 65536) : keyOf Try.prog 129 (.int .u16 x) = some (.int .u16 x) := keyOf_int_mk Try.underlying129 (by simp [Lit.wf, IntKind.min, IntKind.max, IntKind.signed, IntKind.bits]; omega)
/-- In block m there is a set of numbers. -/
def SetAt (W : World) (m : Nat) (n : Nat) (S : Int → Bool) : Prop := ∃ D : DataW Unit, W.ownsMap Try.prog 129 unitElem m n D ∧ ∀ x : Int, 0 ≤ x → x < 65536 → Maps.has D (.int .u16 x) = S x
theorem Ex.of_grown {m : Nat} {w w' : World} (h : w.grownBy w' (some m)) : Ex m w w' := ⟨h.os, h.tape, h.output, h.size, fun k hk hne => h.block k hk (fun e => hne (by cases e; rfl))⟩
theorem Ex.setCell {m b : Nat} {w W : World} (h : Ex m w W) (hb : w.heap.size ≤ b) (i : Nat) (u : Value) : Ex m w (W.setCell ⟨b, i, none⟩ u) :=
  ⟨h.os, h.tape, h.output, by simp [World.setCell]; exact h.size, fun k hk hne => by rw [Below.heap_setCell _ _ _ _ (show k ≠ b by omega)]; exact h.block k hk hne⟩
theorem Ex.putObj {m l : Nat} {w W : World} (h : Ex m w W) (hl : w.heap.size ≤ l) (o : Obj) : Ex m w (W.putObj l o) := by
  have hg := grownBy_putObj' W l o
  refine ⟨hg.os.trans h.os, hg.tape.trans h.tape, hg.output.trans h.output, Nat.le_trans h.size hg.size, fun k hk hne => ?_⟩
  rw [hg.block k (Nat.lt_of_lt_of_le hk h.size) (fun e => by cases e; omega)]
  exact h.block k hk hne
theorem SetAt.setCell {W : World} {m n b : Nat} {S : Int → Bool} (h : SetAt W m n S) (hb : m ≠ b) (i : Nat) (u : Value) : SetAt (W.setCell ⟨b, i, none⟩ u) m n S := by
  obtain ⟨D, h1, h2⟩ := h
  exact ⟨D, h1.setCell hb u, h2⟩
/-- Between two rounds of take's second loop. -/
def takeI (w : World) (m nn g g1 g2 : Nat) (pid : Int) (b : Nat) (S : Int → Bool) (pre : List Int) (W : World) : Prop :=
  W.heap[g]? = some (.cells #[.map (some m)] 190 (0, 0)) ∧ W.heap[g1]? = some (.cells #[.int .u16 0, .int .u16 0] 131 (0, 0)) ∧ W.heap[g2]? = some (.cells #[.int .u16 pid, .int .u16 b] 131 (0, 0)) ∧ SetAt W m nn (fun x => S x && !pre.contains x) ∧ Ex m w W
theorem row_cells {A C : World} {row : Option Nat} {k : Nat} {cs : Array Value} {T : TypeId} (h : A.heap[k]? = some (.cells cs T (0, 0))) (hg : A.grownBy C row) (hr : ∀ r, row = some r → ∃ o : Obj, A.heap[r]? = some o ∧ o.isCells = false) : C.heap[k]? = some (.cells cs T (0, 0)) := by
  rw [hg.block k (lt_of_block h) (fun e => ?_)]
  · exact h
  · obtain ⟨o, ho, hc⟩ := hr k e.symm
    rw [h] at ho; cases ho; cases hc
theorem SetAt.kept {A C : World} {row : Option Nat} {m n : Nat} {S : Int → Bool} (h : SetAt A m n S) (hg : A.grownBy C row) (hr : some m ≠ row) : SetAt C m n S := by
  obtain ⟨D, h1, h2⟩ := h
  exact ⟨D, h1.kept hg hr, h2⟩
theorem takeI_own {w : World} {m nn g g1 g2 B : Nat} {pid : Int} {b : Nat} {S : Int → Bool} (hm : m < B) (hB : w.heap.size ≤ B) : OwnFrom B (takeI w m nn g g1 g2 pid b S) := fun s A C row h hg hr => by
  obtain ⟨i0, i1, i2, i3, i4⟩ := h
  have hr' : ∀ r, row = some r → ∃ o : Obj, A.heap[r]? = some o ∧ o.isCells = false := fun r e => (hr r e).2
  refine ⟨row_cells i0 hg hr', row_cells i1 hg hr', row_cells i2 hg hr', i3.kept hg (fun e => by have := (hr m e.symm).1; omega), ⟨hg.os.trans i4.os, hg.tape.trans i4.tape, hg.output.trans i4.output, Nat.le_trans i4.size hg.size, fun k hk hne => ?_⟩⟩
  rw [hg.block k (Nat.lt_of_lt_of_le hk i4.size) (fun e => by have := (hr k e.symm).1; omega)]
  exact i4.block k hk hne
theorem takeI_alloc {w : World} {m nn g g1 g2 : Nat} {pid : Int} {b : Nat} {S : Int → Bool} (pre : List Int) (o : Obj) (X : World) (h : takeI w m nn g g1 g2 pid b S pre X) : takeI w m nn g g1 g2 pid b S pre (X.alloc o) := by
  obtain ⟨i0, i1, i2, i3, i4⟩ := h
  exact ⟨heap_at_old _ _ _ _ i0, heap_at_old _ _ _ _ i1, heap_at_old _ _ _ _ i2, i3.kept (World.grownBy_alloc X o none) (by simp), i4.trans (Ex.of_grown (World.grownBy_alloc X o _))⟩
theorem takeI_start {w W : World} {m nn g g1 g2 : Nat} {pid : Int} {b : Nat} {S : Int → Bool} {D : DataW Unit} (i0 : W.heap[g]? = some (.cells #[.map (some m)] 190 (0, 0))) (i1 : W.heap[g1]? = some (.cells #[.int .u16 0, .int .u16 0] 131 (0, 0))) (i2 : W.heap[g2]? = some (.cells #[.int .u16 pid, .int .u16 b] 131 (0, 0)))
    (hM : W.ownsMap Try.prog 129 unitElem m nn D) (hS : ∀ x : Int, 0 ≤ x → x < 65536 → Maps.has D (.int .u16 x) = S x) (hB : Below g w W) (hg : w.heap.size = g) (hml : m < g) : takeI w m nn g g1 g2 pid b S [] W :=
  ⟨i0, i1, i2, ⟨D, hM, fun x h0 h1 => by simpa using hS x h0 h1⟩, ⟨hB.os, hB.tape, hB.output, by rw [hg]; exact hB.size |> fun h => by have := lt_of_block i0; omega, fun k hk _ => hB.block k (by omega)⟩⟩
theorem takeI_step {w W w1 : World} {m nn g g1 g2 : Nat} {pid : Int} {b : Nat} {S : Int → Bool} {pre : List Int} {x : Int} {B : Nat} {D : DataW Unit} (i0 : W.heap[g]? = some (.cells #[.map (some m)] 190 (0, 0))) (i1 : W.heap[g1]? = some (.cells #[.int .u16 0, .int .u16 0] 131 (0, 0))) (i2 : W.heap[g2]? = some (.cells #[.int .u16 pid, .int .u16 b] 131 (0, 0))) (i4 : Ex m w W)
    (hS : ∀ y : Int, 0 ≤ y → y < 65536 → Maps.has D (.int .u16 y) = (S y && !pre.contains y)) (ho : W.ownsMap Try.prog 129 unitElem m nn D) (hown : w1.ownsMap Try.prog 129 unitElem m nn (D.del (.int .u16 x))) (hg : W.grownBy w1 (some m)) (hm : m < B) (hok : 0 ≤ x ∧ x < 65536) :
    KeepsFrom B W w1 ∧ KP W w1 ∧ takeI w m nn g g1 g2 pid b S (pre ++ [x]) w1 := by
  have hmm : ∀ (k : Nat) (cs : Array Value) (T : TypeId), W.heap[k]? = some (Obj.cells cs T (0, 0)) → w1.heap[k]? = some (Obj.cells cs T (0, 0)) := fun k cs T h => by
    rw [hg.block k (lt_of_block h) (fun e => ?_)]
    · exact h
    · obtain ⟨es, clock, hmb, _⟩ := ho
      cases e
      rw [h] at hmb; cases hmb
  refine ⟨KeepsFrom.of_grownBy hg (fun j e => by cases e; exact hm), fun k c e => hmm k c _ e, hmm _ _ _ i0, hmm _ _ _ i1, hmm _ _ _ i2, ⟨_, hown, fun y h0 h1 => ?_⟩, i4.trans (Ex.of_grown hg)⟩
  by_cases hyx : y = x
  · subst hyx
    rw [has_del_same]
    simp
  · rw [has_del_other (by simpa using hyx), hS y h0 h1]
    simp [hyx]
set_option maxRecDepth 100000 in
set_option maxHeartbeats 2000000 in
theorem take_in (F : Fence) (n : Nat) (h78 : F.fn 104) (h81 : F.fn 105) (hro : F.round = none) (hn : 3 ≤ n) (pid : Int) (S : Int → Bool) (m nn : Nat) (hp0 : 0 ≤ pid) (hp1 : pid < 65536) (w : World) (hm : SetAt w m nn S) :
    CallsIn F n Try.prog 104 #[.int .u16 pid, .map (some m)] w fun e W' => e = .returned (.agg #[.int .u16 pid, .int .u16 (blp S pid 16)]) ∧ Ex m w W' ∧ SetAt W' m nn (fun x => S x && !(nums pid (blp S pid 16) 16).contains x) := by
  have h1 : 1 ≤ n := by omega
  obtain ⟨D, hown, hS⟩ := hm
  have hml := hown.lt
  refine callsIn_of_wp_marks Try.func104 rfl h78 ?_ hro
  simp only [Try.ntmps104, List.size_toArray, List.length_cons, List.length_nil, Nat.reduceAdd, Nat.reduceSub, Array.replicate_succ, Array.replicate_zero, List.push_toArray, List.append_toArray, List.nil_append, List.cons_append]
  gi_wp2
  have hG0 : (((w.alloc (.cells #[.map (some m)] 190)).alloc (.cells #[.int .u16 0, .int .u16 0] 131)).alloc (.cells #[.int .u16 pid, .int .u16 0] 131)).heap[w.heap.size]? = some (.cells #[.map (some m)] 190 (0, 0)) := by
    rw [Below.heap_alloc _ _ _ (by simp; omega), Below.heap_alloc _ _ _ (by simp)]; exact heap_alloc_new _ _
  have hG1 : (((w.alloc (.cells #[.map (some m)] 190)).alloc (.cells #[.int .u16 0, .int .u16 0] 131)).alloc (.cells #[.int .u16 pid, .int .u16 0] 131)).heap[w.heap.size + 1]? = some (.cells #[.int .u16 0, .int .u16 0] 131 (0, 0)) := by
    rw [Below.heap_alloc _ _ _ (by simp)]
    have := heap_alloc_new (w.alloc (.cells #[.map (some m)] 190)) (.cells #[.int .u16 0, .int .u16 0] 131)
    rwa [World.size_alloc] at this
  have hG2 : (((w.alloc (.cells #[.map (some m)] 190)).alloc (.cells #[.int .u16 0, .int .u16 0] 131)).alloc (.cells #[.int .u16 pid, .int .u16 0] 131)).heap[w.heap.size + 1 + 1]? = some (.cells #[.int .u16 pid, .int .u16 0] 131 (0, 0)) := by
    have := heap_alloc_new ((w.alloc (.cells #[.map (some m)] 190)).alloc (.cells #[.int .u16 0, .int .u16 0] 131)) (.cells #[.int .u16 pid, .int .u16 0] 131)
    rwa [World.size_alloc, World.size_alloc] at this
  have hB0 : Below w.heap.size w (((w.alloc (.cells #[.map (some m)] 190)).alloc (.cells #[.int .u16 0, .int .u16 0] 131)).alloc (.cells #[.int .u16 pid, .int .u16 0] 131)) := (((Below.refl _ w).alloc (Nat.le_refl _) _).alloc (by simp) _).alloc (by simp; omega) _
  have hM0 := ((hown.alloc (.cells #[.map (some m)] 190)).alloc (.cells #[.int .u16 0, .int .u16 0] 131)).alloc (.cells #[.int .u16 pid, .int .u16 0] 131)
  generalize (((w.alloc (.cells #[.map (some m)] 190)).alloc (.cells #[.int .u16 0, .int .u16 0] 131)).alloc (.cells #[.int .u16 pid, .int .u16 0] 131)) = w3 at hG0 hG1 hG2 hB0 hM0 ⊢
  generalize hg2 : w.heap.size + 1 + 1 = g2 at hG2 ⊢
  generalize hg1 : w.heap.size + 1 = g1 at hG1 hg2 ⊢
  obtain ⟨g, hg⟩ : ∃ g, w.heap.size = g := ⟨_, rfl⟩
  rw [hg] at hG0 hB0 hg1 hml ⊢
  have n1 : g < g1 := by omega
  have n2 : g1 < g2 := by omega
  have HG := Lib.hid hg
  clear hg hg1 hg2 hown
  gi_loopw [12] (fun i wr => ∃ k : Nat, k ≤ 16 ∧ i = .int .u16 k ∧ wr.heap[g]? = some (.cells #[.map (some m)] 190 (0, 0)) ∧ wr.heap[g1]? = some (.cells #[.int .u16 0, .int .u16 0] 131 (0, 0)) ∧ wr.heap[g2]? = some (.cells #[.int .u16 pid, .int .u16 (blp S pid k : Nat)] 131 (0, 0)) ∧ Below g w wr ∧ wr.ownsMap Try.prog 129 unitElem m nn D)
    (fun i _ => 16 - (intOf i).toNat)
  case atStart => exact ⟨0, Nat.zero_le _, rfl, hG0, hG1, hG2, hB0, hM0⟩
  case round =>
    clear hG0 hG1 hG2 hB0 hM0
    obtain ⟨k, hk, rfl, hG0, hG1, hG2, hB, hM⟩ := hrel
    have c0 : wr.cell? ⟨g, 0, none⟩ = some (.map (some m)) := by have := cell_of_row _ _ 0 _ _ (0, 0) hG0; exact this
    have c1 : wr.cell? ⟨g2, 0, none⟩ = some (.int .u16 pid) := by have := cell_of_row _ _ 0 _ _ (0, 0) hG2; exact this
    have c2 : wr.cell? ⟨g2, 1, none⟩ = some (.int .u16 (blp S pid k : Nat)) := by have := cell_of_row _ _ 1 _ _ (0, 0) hG2; exact this
    by_cases hlt : k < 16
    · have hnx : IntKind.u16.wrap (IntKind.u16.wrap (pid + 1) + (k : Int)) = nx pid k := nx_wrap pid k
      have hkey := u16_key (nx_bd pid k)
      have hSx := hS (nx pid k) (nx_bd pid k).1 (nx_bd pid k).2
      have hpl := pow_lt k hlt
      have hbl := blp_lt S pid k
      cases hcase : S (nx pid k)
      · rw [hcase] at hSx
        have HB := Lib.hid (blp_miss S pid k hcase)
        clear hcase
        gi_wp2_with (gi_at_lookup; refine wpListIn_lookup_own_unit _ rfl _ _ 190 rfl 129 191 law16k Try.underlying190 (zeroUk _) m nn _ rfl hM _ _ rfl hkey ?_)
        go_roundw
        case rel => exact ⟨k + 1, by omega, by go_num, heap_at_old _ _ _ _ hG0, heap_at_old _ _ _ _ hG1, by rw [HB.out]; exact heap_at_old _ _ _ _ hG2, hB.alloc (by have := lt_of_block hG0; omega) _, hM.alloc _⟩
        case measure => simp [intOf]; omega
      · rw [hcase] at hSx
        have HB := Lib.hid (blp_hit S pid k hcase)
        clear hcase
        have hG0' := heap_at_old wr (.cells #[] 191) _ _ hG0
        have hG1' := heap_at_old wr (.cells #[] 191) _ _ hG1
        have hG2' := heap_at_old wr (.cells #[] 191) _ _ hG2
        have d2 : (wr.alloc (.cells #[] 191)).cell? ⟨g2, 1, none⟩ = some (.int .u16 (blp S pid k : Nat)) := by have := cell_of_row _ _ 1 _ _ (0, 0) hG2'; exact this
        have f2 : (wr.alloc (.cells #[] 191)).frozen? ⟨g2, 1, none⟩ = false := by simp [World.frozen?, hG2']
        have hor : bits .or .u16 ((blp S pid k : Nat) : Int) (IntKind.u16.wrap ((2 : Int) ^ k)) = ((blp S pid (k + 1) : Nat) : Int) := by
          rw [HB.out, ← or_bit (blp S pid k) k hlt hbl]
          congr 1
          have := u16_fit (2 ^ k) hpl
          simpa using this
        have hB' := hB.alloc (by have := lt_of_block hG0; omega) (.cells #[] 191)
        have hM' := hM.alloc (.cells #[] 191)
        gi_wp2_with (gi_at_lookup; refine wpListIn_lookup_own_unit _ rfl _ _ 190 rfl 129 191 law16k Try.underlying190 (zeroUk _) m nn _ rfl hM _ _ rfl hkey ?_)
        go_roundw
        case rel =>
          refine ⟨k + 1, by omega, by go_num, ?_, ?_, ?_, hB'.setCell (p := ⟨g2, 1, none⟩) (by show g ≤ g2; omega) _, hM'.setCell (by show m ≠ g2; omega) _⟩
          · rw [Below.heap_setCell _ _ _ _ (show g ≠ g2 by omega)]; exact hG0'
          · rw [Below.heap_setCell _ _ _ _ (show g1 ≠ g2 by omega)]; exact hG1'
          · exact block_setCell hG2'
        case measure => simp [intOf]; omega
    · obtain rfl : k = 16 := by omega
      have hbl := blp_lt S pid 16
      have hbl2 : blp S pid 16 < 65536 := by simpa using hbl
      gi_wp2
      have hsz := hB.size
      have hgl2 := lt_of_block hG2
      refine range_bound hro h1 (gf := 105) (ft := #[.agg #[.int .u16 pid, .int .u16 (blp S pid 16 : Nat)]]) (lb := #[]) rfl h81 (enters_of Try.func105 (by kernel_rfl) rfl)
        (each_gives F (n - 1) h81 hro (by omega) pid (blp S pid 16) hp0 hp1 hbl2 _) KP.trans KP.putObj (fun _ => rfl)
        (takeI w m nn g g1 g2 pid (blp S pid 16) S) (takeI_own (by omega) (by have := HG.out; omega)) takeI_alloc (takeI_start hG0 hG1 hG2 hM hS hB HG.out hml)
        (fun x => { tmps := #[.int .u16 pid, .map (some m), undef, .pointer (some ⟨g, 0, none⟩), .pointer (some ⟨g1, 0, none⟩), .pointer (some ⟨g2, 0, none⟩), u6, u7, u8, .int .u16 x, .int .u16 pid, .agg #[.int .u16 pid, .int .u16 0], .int .u16 ((16 : Nat) : Int), .bool false, u14, u15, u16, u17, u18, u19, u20, u21, u22, u23, u24, u25, u26, u27, u28, u29, u30, u31, .agg #[.int .u16 pid, .int .u16 (blp S pid 16 : Nat)], .func (.func 105) #[.agg #[.int .u16 pid, .int .u16 (blp S pid 16 : Nat)]] #[], .int .u16 x, undef, undef, undef], defers := [] }) ?assign ?body ?done
      case assign =>
        intro l x W K hK
        gi_wp2
        exact hK
      case body =>
        rintro l pre x W ⟨i0, i1, i2, i3, i4⟩ hlt2 hok
        obtain ⟨D', hown', hS'⟩ := i3
        have hkey := u16_key hok
        have c0 : W.cell? ⟨g, 0, none⟩ = some (.map (some m)) := by have := cell_of_row _ _ 0 _ _ (0, 0) i0; exact this
        gi_wp2_with (gi_at_delete; refine wpListIn_delete_own _ rfl _ _ 190 129 rfl 191 law16k Try.underlying190 _ m nn _ rfl hown' _ _ rfl hkey ?_; intro w1 hown1 hturn1)
        exact takeI_step i0 i1 i2 i4 hS' hown' hown1 hturn1.grown (by omega) hok
      case done =>
        rintro D2 ys W hD rfl ⟨i0, i1, i2, i3, i4⟩ hK
        have c1 : W.cell? ⟨g2, 0, none⟩ = some (.int .u16 pid) := by have := cell_of_row _ _ 0 _ _ (0, 0) i2; exact this
        have c2 : W.cell? ⟨g2, 1, none⟩ = some (.int .u16 (blp S pid 16 : Nat)) := by have := cell_of_row _ _ 1 _ _ (0, 0) i2; exact this
        have e1 : W.cell? ⟨g1, 0, none⟩ = some (.int .u16 0) := by have := cell_of_row _ _ 0 _ _ (0, 0) i1; exact this
        have e2 : W.cell? ⟨g1, 1, none⟩ = some (.int .u16 0) := by have := cell_of_row _ _ 1 _ _ (0, 0) i1; exact this
        have f1 : W.frozen? ⟨g1, 0, none⟩ = false := by simp [World.frozen?, i1]
        have f2 : W.frozen? ⟨g1, 1, none⟩ = false := by simp [World.frozen?, i1]
        gi_wp2
        have hD1 : D2 ≠ g1 := fun e => by subst e; rw [i1] at hK; cases hK
        have hKz : ((W.setCell ⟨g1, 0, none⟩ (.int .u16 pid)).setCell ⟨g1, 1, none⟩ (.int .u16 (blp S pid 16 : Nat))).heap[D2]? = some (.deferred (some [])) := by
          rw [Below.heap_setCell _ _ _ _ hD1, Below.heap_setCell _ _ _ _ hD1]; exact hK
        have hZ : ((W.setCell ⟨g1, 0, none⟩ (.int .u16 pid)).setCell ⟨g1, 1, none⟩ (.int .u16 (blp S pid 16 : Nat))).heap[g1]? = some (.cells #[.int .u16 pid, .int .u16 (blp S pid 16 : Nat)] 131 (0, 0)) := by
          have h1 : (W.setCell ⟨g1, 0, none⟩ (.int .u16 pid)).heap[g1]? = some (.cells #[.int .u16 pid, .int .u16 0] 131 (0, 0)) := block_setCell i1
          exact block_setCell h1
        have hgw : w.heap.size ≤ g1 := by have := HG.out; omega
        have hDw : w.heap.size ≤ D2 := by have := HG.out; omega
        have hmg : m ≠ g1 := by omega
        have hmd : m ≠ D2 := by omega
        have hE := ((i4.setCell hgw 0 (.int .u16 pid)).setCell hgw 1 (.int .u16 (blp S pid 16 : Nat))).putObj hDw (.deferred none)
        have hSe := ((i3.setCell hmg 0 (.int .u16 pid)).setCell hmg 1 (.int .u16 (blp S pid 16 : Nat))).kept (grownBy_putObj' _ D2 (.deferred none)) (fun e => hmd (by cases e; rfl))
        generalize ((W.setCell ⟨g1, 0, none⟩ (.int .u16 pid)).setCell ⟨g1, 1, none⟩ (.int .u16 (blp S pid 16 : Nat))) = X at hKz hZ hE hSe ⊢
        have hZ2 : (X.putObj D2 (.deferred none)).heap[g1]? = some (.cells #[.int .u16 pid, .int .u16 (blp S pid 16 : Nat)] 131 (0, 0)) := (World.putObj_heap_other (fun e => hD1 e.symm)).trans hZ
        have d0 : (X.putObj D2 (.deferred none)).cell? ⟨g1, 0, none⟩ = some (.int .u16 pid) := by have := cell_of_row _ _ 0 _ _ (0, 0) hZ2; exact this
        have d1 : (X.putObj D2 (.deferred none)).cell? ⟨g1, 1, none⟩ = some (.int .u16 (blp S pid 16 : Nat)) := by have := cell_of_row _ _ 1 _ _ (0, 0) hZ2; exact this
        refine ⟨by simp, .inl ⟨_, _, rfl, run_takeDeferred hKz, ?_⟩⟩
        exact ⟨.agg #[.int .u16 pid, .int .u16 (blp S pid 16 : Nat)], by simp [results, Try.results104, go_sem, d0, d1], rfl, hE, hSe⟩
theorem take_any (pid : Int) (S : Int → Bool) (m nn : Nat) (hp0 : 0 ≤ pid) (hp1 : pid < 65536) (w : World) (hm : SetAt w m nn S) :
    Calls Try.prog 104 #[.int .u16 pid, .map (some m)] w fun e W' => e = .returned (.agg #[.int .u16 pid, .int .u16 (blp S pid 16)]) ∧ Ex m w W' ∧ SetAt W' m nn (fun x => S x && !(nums pid (blp S pid 16) 16).contains x) :=
  (callsIn_wide (n := 6)).1 (take_in Fence.wide 6 trivial trivial rfl (by omega) pid S m nn hp0 hp1 w hm)
end Go.Proofs.Ytagimjaojpdfiaa
