/- SerialLatest: the walk. -/
import Derived.Test.YtfnaanalhcagfaaSerDiffsW
import Derived.Test.YtfnaanalhcagfaaDistMath
import Derived.Maps.OwnOps
import Derived.Maps.OwnSet
namespace Go.Proofs.Ytfnaanalhcagfaa
open Go.RowKit Go.Maps
set_option linter.unusedVariables false
theorem info16 : (Try.prog.info? 71).map (fun i => (i.zero, i.size, i.bytes)) = some (some (.int .u16 0), 1, 2) := by kernel_rfl
theorem info64 : (Try.prog.info? 3).map (fun i => (i.zero, i.size, i.bytes)) = some (some (.int .i64 0), 1, 8) := by kernel_rfl
theorem law16 : Keyed Try.prog 71 := int_keyed Try.underlying71
theorem zeroU (w : World) : (zeroValue 163).run Try.prog w = .ok (.agg #[]) w := by kernel_rfl
theorem zeroI (w : World) : (zeroValue 3).run Try.prog w = .ok (.int .i64 0) w := by kernel_rfl
/-- A row of the call's own, from 'base' on, is no block below 'base' (the map's, say). -/
theorem row_neL {w : World} {base : Nat} {e : TypeId} {size : Nat} {v : Value} {n : Nat} {xs : List Value} (h : w.ownsRow base e size v n xs) {b : Nat} (hb : b < base) : some b ≠ v.ownBlock := fun e1 => by
  have := (h.lt b e1.symm).1
  omega
theorem wf_at {k : IntKind} {zs : List Int} (hwz : ∀ n ∈ zs, (Lit.int k n).wf = true) {i : Nat} (hk : i < zs.length) : (Lit.int k (zs[i]?.getD 0)).wf = true := by
  rw [List.getElem?_eq_getElem hk]
  exact hwz _ (List.getElem_mem hk)
set_option maxHeartbeats 800000 in
set_option maxRecDepth 100000 in
theorem distinct_any (zs : List Int) (a : Option Addr) (c : Nat) (w : World) (hr0 : Reads .u16 w a zs) (hl : zs.length ≤ 1099511627776) (hwz : ∀ n ∈ zs, (Lit.int .u16 n).wf = true) :
    Calls Try.prog 80 #[.slice a zs.length c] w fun e w' => ∃ v, e = .returned v ∧ w'.ownsRow (w.heap.size + 1) 71 1 v (dist zs).length ((dist zs).map (Value.int .u16)) ∧ Below w.heap.size w w' := by
  have hmm := @run_makeMap Try.prog
  obtain ⟨i0, hi, hz0, hz1, hz2⟩ := info_parts info16
  go_enter Try.func80, Try.ntmps80
  go_wp2
  go_loopw [3, 12] (fun v i wr => ∃ k : Nat, k ≤ zs.length ∧ i = .int .i64 k ∧ wr.ownsMap Try.prog 71 unitElem w.heap.size k (setOf (H := Unit) (.agg []) ((dist (zs.take k)).map (Lit.int .u16))) ∧ wr.ownsRow (w.heap.size + 1) 71 1 v (dist (zs.take k)).length ((dist (zs.take k)).map (Value.int .u16)) ∧
      Below w.heap.size w wr ∧ w.heap.size + 1 ≤ wr.heap.size)
    (fun _ i _ => zs.length - (intOf i).toNat)
  case atStart => exact ⟨0, Nat.zero_le _, rfl, World.ownsMap_made _ _ _ _, World.ownsRow_nil _ _ _ _, (Below.refl _ _).alloc (Nat.le_refl _) _, by simp⟩
  case round =>
    obtain ⟨k, hk, rfl, hown, hrow, hnx, hws⟩ := hrel
    by_cases hlt : k < zs.length
    · obtain ⟨b, off, rfl, hcell⟩ := (hr0.later hnx).at hlt
      have hwf := wf_at hwz hlt
      have hds := Lib.hid (dist_succ zs k hlt)
      have hal := dist_len_take zs k
      generalize zs[k]?.getD 0 = x at hcell hwf hds
      have hkey : keyOf Try.prog 71 (.int .u16 x) = some (.int .u16 x) := keyOf_int_mk Try.underlying71 hwf
      clear hr0 hwz
      cases hhas : (dist (zs.take k)).contains x
      · have hm : Maps.has (setOf (H := Unit) (.agg []) ((dist (zs.take k)).map (Lit.int .u16))) (.int .u16 x) = false := by rw [has_ints]; exact hhas
        have Hhas := Lib.hid hhas
        clear hhas
        go_wp2_with (first
          | (at_lookup; refine wpList_lookup_own_unit _ rfl _ _ 162 rfl 71 163 law16 Try.underlying162 (zeroU _) w.heap.size k _ rfl hown _ _ rfl hkey ?_)
          | (at_mapUpdate; refine wpList_mapUpdate_own _ rfl _ _ _ 162 rfl 71 163 law16 Try.underlying162 (unitElem (H := Unit)) w.heap.size k _ rfl (hown.alloc _) (by unfold maxLen; omega) _ _ _ rfl rfl hkey _ [] unitElem_mk ?_; intro w1 hown1 hgrow1)
          | (at_builtin; refine wpList_append_own _ rfl _ _ 58 rfl (w.heap.size + 1) 71 i0 (.int .u16 0) 1 2 Try.underlying58 hi hz0 hz1 hz2 rfl (by decide) _ _ _ rfl (((hrow.alloc _).kept hgrow1 (Or.inr (row_neL hrow (Nat.lt_succ_self _)).symm)).alloc _) ⟨w1.heap.size, 0, none⟩ 1 1 [.int .u16 x] rfl rfl (cell_one_new _ _ _) (ints_oneCell .u16 [x]) (by unfold maxLen; omega) (by omega) (by have := hgrow1.size; simp at this ⊢; omega) ?_; intro v' w2 hown' hgrow2 hnil2))
        have hr1 := (hrow.alloc (.cells #[] 163)).kept hgrow1 (Or.inr (row_neL hrow (Nat.lt_succ_self _)).symm)
        have s1 := hgrow1.size
        have s2 := hgrow2.size
        simp at s1 s2
        go_roundw
        case rel =>
          refine ⟨k + 1, by omega, by go_num, ?_, ?_, ?_, by omega⟩
          · rw [hds.out, addNew_new Hhas.out, setOf_new]
            exact (hown1.alloc _).kept hgrow2 (row_neL hr1 (Nat.lt_succ_self _))
          · rw [hds.out, addNew_new Hhas.out]
            simpa using hown'
          · exact ((((hnx.alloc hnx.size _).grown hgrow1 (by simp; omega) (fun j hj => by cases hj; exact Nat.le_refl _)).alloc (by omega) _).grown hgrow2 (by simp; omega) (fun j hj => Nat.le_trans (Nat.le_succ _) (hr1.lt j hj).1))
        case measure => simp [intOf]; omega
      · have hm : Maps.has (setOf (H := Unit) (.agg []) ((dist (zs.take k)).map (Lit.int .u16))) (.int .u16 x) = true := by rw [has_ints]; exact hhas
        have Hhas := Lib.hid hhas
        clear hhas
        go_wp2_with (at_lookup; refine wpList_lookup_own_unit _ rfl _ _ 162 rfl 71 163 law16 Try.underlying162 (zeroU _) w.heap.size k _ rfl hown _ _ rfl hkey ?_)
        go_roundw
        case rel =>
          refine ⟨k + 1, by omega, by go_num, ?_, ?_, hnx.alloc hnx.size _, by simp; omega⟩
          · rw [hds.out, addNew_old Hhas.out]
            exact (hown.alloc _).mono (Nat.le_succ _)
          · rw [hds.out, addNew_old Hhas.out]
            exact hrow.alloc _
        case measure => simp [intOf]; omega
    · obtain rfl : k = zs.length := by omega
      rw [List.take_length] at hrow
      go_wp2
      go_ret
      exact ⟨_, rfl, hrow, hnx⟩
theorem ints_any (zs : List Int) (a : Option Addr) (c : Nat) (w : World) (hr0 : Reads .u16 w a zs) (hl : zs.length ≤ 1099511627776) (hz : ∀ n ∈ zs, 0 ≤ n ∧ n ≤ 65535) :
    Calls Try.prog 30 #[.slice a zs.length c] w fun e w' => ∃ v, e = .returned v ∧ w'.ownsRow w.heap.size 3 1 v zs.length (zs.map (Value.int .i64)) ∧ Below w.heap.size w w' := by
  obtain ⟨i0, hi, hz0, hz1, hz2⟩ := info_parts info64
  go_enter Try.func30, Try.ntmps30
  go_wp2
  go_loopw [3, 8] (fun v i wr => ∃ k : Nat, k ≤ zs.length ∧ i = .int .i64 k ∧ wr.ownsRow w.heap.size 3 1 v k ((zs.take k).map (Value.int .i64)) ∧ Below w.heap.size w wr) (fun _ i _ => zs.length - (intOf i).toNat)
  case atStart => exact ⟨0, Nat.zero_le _, rfl, World.ownsRow_nil _ _ _ _, Below.refl _ _⟩
  case round =>
    obtain ⟨k, hk, rfl, hown, hb⟩ := hrel
    by_cases hlt : k < zs.length
    · obtain ⟨b, off, rfl, hcell⟩ := (hr0.later hb).at hlt
      obtain ⟨hx1, hx2⟩ : 0 ≤ zs[k]?.getD 0 ∧ zs[k]?.getD 0 ≤ 65535 := by rw [List.getElem?_eq_getElem hlt]; exact hz _ (List.getElem_mem hlt)
      have hts : Hid (zs.take (k + 1) = zs.take k ++ [zs[k]?.getD 0]) := by
        rw [List.take_succ_eq_append_getElem hlt]; simp [hlt, Hid]
      generalize zs[k]?.getD 0 = x at hcell hts hx1 hx2
      clear hr0
      go_wp2_with (at_builtin; refine append_one (W := w) rfl _ _ 65 rfl w.heap.size 3 i0 (.int .i64 0) 8 Try.underlying65 hi hz0 hz1 hz2 rfl _ _ _ rfl hown (.int .i64 x) rfl rfl ?d1 ?d2 w.heap.size (Nat.le_refl _) hb.size hb ?_)
      case d1 => unfold maxLen; omega
      case d2 => omega
      intro v' w' hown2 hb2
      have H2 : w'.ownsRow w.heap.size 3 1 v' (k + 1) ((zs.take (k + 1)).map (Value.int .i64)) := by rw [hts.out, List.map_append, List.map_take]; exact hown2
      clear hown2 hown hb
      go_wp2
      go_roundw
      case rel => exact ⟨k + 1, by omega, by go_num, H2, hb2⟩
      case measure => simp [intOf]; omega
    · obtain rfl : k = zs.length := by omega
      rw [List.take_length] at hown
      go_wp2
      go_ret
      exact ⟨_, rfl, hown, hb⟩

theorem latest_bd (f : Int) (zs : List Int) (hf : 0 ≤ f ∧ f ≤ 65535) (hz : ∀ n ∈ zs, 0 ≤ n ∧ n ≤ 65535) : 0 ≤ latest f zs ∧ latest f zs ≤ 65535 := by
  unfold latest
  induction zs generalizing f with
  | nil => exact hf
  | cons a r ih =>
    rw [List.foldl_cons]
    refine ih _ ?_ (fun n hn => hz n (List.mem_cons_of_mem _ hn))
    have := hz a (by simp)
    split <;> omega
namespace serialLatest
theorem contains_take_succ (l : List Int) (k : Nat) (h : k < l.length) (hn : l.Nodup) : (l.take k).contains (l[k]?.getD 0) = false := by
  rw [← Bool.not_eq_true, List.contains_iff_mem]
  intro hm
  have e : l = l.take k ++ l[k] :: l.drop (k + 1) := by rw [← List.drop_eq_getElem_cons h, List.take_append_drop]
  have hx : l[k]?.getD 0 = l[k] := by simp [h]
  rw [hx] at hm
  rw [e] at hn
  rw [List.nodup_append] at hn
  exact hn.2.2 _ hm _ List.mem_cons_self rfl
theorem lit_inj {H : Type} {q : IntKind} {a c : Int} (h : (DataW.lit (.int q a) : DataW H) = .lit (.int q c)) : a = c := by
  injection h with h; injection h
theorem distinct_n (zs : List Int) (n : Nat) (a : Option Addr) (c : Nat) (w : World) (hn : n = zs.length) (hr0 : Reads .u16 w a zs) (hl : zs.length ≤ 1099511627776) (hwz : ∀ n ∈ zs, (Lit.int .u16 n).wf = true) :
    Calls Try.prog 80 #[.slice a n c] w fun e w' => ∃ v, e = .returned v ∧ w'.ownsRow (w.heap.size + 1) 71 1 v (dist zs).length ((dist zs).map (Value.int .u16)) ∧ Below w.heap.size w w' := by
  subst hn; exact distinct_any zs a c w hr0 hl hwz
theorem ints_n (zs : List Int) (n : Nat) (a : Option Addr) (c : Nat) (w : World) (hn : n = zs.length) (hr0 : Reads .u16 w a zs) (hl : zs.length ≤ 1099511627776) (hz : ∀ n ∈ zs, 0 ≤ n ∧ n ≤ 65535) :
    Calls Try.prog 30 #[.slice a n c] w fun e w' => ∃ v, e = .returned v ∧ w'.ownsRow w.heap.size 3 1 v zs.length (zs.map (Value.int .i64)) ∧ Below w.heap.size w w' := by
  subst hn; exact ints_any zs a c w hr0 hl hz
end serialLatest
end Go.Proofs.Ytfnaanalhcagfaa
