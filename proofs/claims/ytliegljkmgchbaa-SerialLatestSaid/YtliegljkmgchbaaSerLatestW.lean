/- SerialLatest: the walk. -/
import Derived.Test.YtliegljkmgchbaaSerDiffsW
import Derived.Test.YtliegljkmgchbaaDistMath
import Derived.Maps.OwnOps
import Derived.Maps.OwnSet
namespace Go.Proofs.Ytliegljkmgchbaa
open Go.RowKit Go.Maps
set_option linter.unusedVariables false
theorem info16 : (Try.prog.info? 22).map (fun i => (i.zero, i.size, i.bytes)) = some (some (.int .u16 0), 1, 2) := by kernel_rfl
theorem info64 : (Try.prog.info? 3).map (fun i => (i.zero, i.size, i.bytes)) = some (some (.int .i64 0), 1, 8) := by kernel_rfl
theorem law16 : Keyed Try.prog 22 := int_keyed Try.underlying22
theorem zeroU (w : World) : (zeroValue 63).run Try.prog w = .ok (.agg #[]) w := by kernel_rfl
theorem zeroI (w : World) : (zeroValue 3).run Try.prog w = .ok (.int .i64 0) w := by kernel_rfl
/-- A row of the call's own, from 'base' on, is no block below 'base' (the map's, say). -/
theorem row_ne {w : World} {base : Nat} {e : TypeId} {size : Nat} {v : Value} {n : Nat} {xs : List Value} (h : w.ownsRow base e size v n xs) {b : Nat} (hb : b < base) : some b ≠ v.ownBlock := fun e1 => by
  have := (h.lt b e1.symm).1
  omega
theorem wf_at {k : IntKind} {zs : List Int} (hwz : ∀ n ∈ zs, (Lit.int k n).wf = true) {i : Nat} (hk : i < zs.length) : (Lit.int k (zs[i]?.getD 0)).wf = true := by
  rw [List.getElem?_eq_getElem hk]
  exact hwz _ (List.getElem_mem hk)
set_option maxHeartbeats 800000 in
set_option maxRecDepth 100000 in
theorem distinct_any (zs : List Int) (a : Option Addr) (c : Nat) (w : World) (hr0 : Reads .u16 w a zs) (hl : zs.length ≤ 1099511627776) (hwz : ∀ n ∈ zs, (Lit.int .u16 n).wf = true) :
    Calls Try.prog 21 #[.slice a zs.length c] w fun e w' => ∃ v, e = .returned v ∧ w'.ownsRow (w.heap.size + 1) 22 1 v (dist zs).length ((dist zs).map (Value.int .u16)) ∧ Below w.heap.size w w' := by
  have hmm := @run_makeMap Try.prog
  obtain ⟨i0, hi, hz0, hz1, hz2⟩ := info_parts info16
  go_enter Try.func21, Try.ntmps21
  go_wp2
  go_loopw [3, 12] (fun v i wr => ∃ k : Nat, k ≤ zs.length ∧ i = .int .i64 k ∧ wr.ownsMap Try.prog 22 unitElem w.heap.size k (setOf (H := Unit) (.agg []) ((dist (zs.take k)).map (Lit.int .u16))) ∧ wr.ownsRow (w.heap.size + 1) 22 1 v (dist (zs.take k)).length ((dist (zs.take k)).map (Value.int .u16)) ∧
      Below w.heap.size w wr ∧ w.heap.size + 1 ≤ wr.heap.size)
    (fun _ i _ => zs.length - (intOf i).toNat)
  case atStart => exact ⟨0, Nat.zero_le _, rfl, World.ownsMap_made _ _ _ _, World.ownsRow_nil _ _ _ _, (Below.refl _ _).alloc (Nat.le_refl _) _, by simp⟩
  case round =>
    obtain ⟨k, hk, rfl, hown, hrow, hnx, hws⟩ := hrel
    by_cases hlt : k < zs.length
    · obtain ⟨b, off, rfl, hcell⟩ := (hr0.later hnx).at hlt
      have hwf := wf_at hwz hlt
      have hds := Lib.hid (dist_succ zs k hlt)
      have hal := dist_len_take zs k
      generalize zs[k]?.getD 0 = x at hcell hwf hds
      have hkey : keyOf Try.prog 22 (.int .u16 x) = some (.int .u16 x) := keyOf_int_mk Try.underlying22 hwf
      clear hr0 hwz
      cases hhas : (dist (zs.take k)).contains x
      · have hm : Maps.has (setOf (H := Unit) (.agg []) ((dist (zs.take k)).map (Lit.int .u16))) (.int .u16 x) = false := by rw [has_ints]; exact hhas
        have Hhas := Lib.hid hhas
        clear hhas
        go_wp2_with (first
          | (at_lookup; refine wpList_lookup_own_unit _ rfl _ _ 62 rfl 22 63 law16 Try.underlying62 (zeroU _) w.heap.size k _ rfl hown _ _ rfl hkey ?_)
          | (at_mapUpdate; refine wpList_mapUpdate_own _ rfl _ _ _ 62 rfl 22 63 law16 Try.underlying62 (unitElem (H := Unit)) w.heap.size k _ rfl (hown.alloc _) (by unfold maxLen; omega) _ _ _ rfl rfl hkey _ [] unitElem_mk ?_; intro w1 hown1 hgrow1)
          | (at_builtin; refine wpList_append_own _ rfl _ _ 32 rfl (w.heap.size + 1) 22 i0 (.int .u16 0) 1 2 Try.underlying32 hi hz0 hz1 hz2 rfl (by decide) _ _ _ rfl (((hrow.alloc _).kept hgrow1 (Or.inr (row_ne hrow (Nat.lt_succ_self _)).symm)).alloc _) ⟨w1.heap.size, 0, none⟩ 1 1 [.int .u16 x] rfl rfl (cell_one_new _ _ _) (ints_oneCell .u16 [x]) (by unfold maxLen; omega) (by omega) (by have := hgrow1.size; simp at this ⊢; omega) ?_; intro v' w2 hown' hgrow2 hnil2))
        have hr1 := (hrow.alloc (.cells #[] 63)).kept hgrow1 (Or.inr (row_ne hrow (Nat.lt_succ_self _)).symm)
        have s1 := hgrow1.size
        have s2 := hgrow2.size
        simp at s1 s2
        go_roundw
        case rel =>
          refine ⟨k + 1, by omega, by go_num, ?_, ?_, ?_, by omega⟩
          · rw [hds.out, addNew_new Hhas.out, setOf_new]
            exact (hown1.alloc _).kept hgrow2 (row_ne hr1 (Nat.lt_succ_self _))
          · rw [hds.out, addNew_new Hhas.out]
            simpa using hown'
          · exact ((((hnx.alloc hnx.size _).grown hgrow1 (by simp; omega) (fun j hj => by cases hj; exact Nat.le_refl _)).alloc (by omega) _).grown hgrow2 (by simp; omega) (fun j hj => Nat.le_trans (Nat.le_succ _) (hr1.lt j hj).1))
        case measure => simp [intOf]; omega
      · have hm : Maps.has (setOf (H := Unit) (.agg []) ((dist (zs.take k)).map (Lit.int .u16))) (.int .u16 x) = true := by rw [has_ints]; exact hhas
        have Hhas := Lib.hid hhas
        clear hhas
        go_wp2_with (at_lookup; refine wpList_lookup_own_unit _ rfl _ _ 62 rfl 22 63 law16 Try.underlying62 (zeroU _) w.heap.size k _ rfl hown _ _ rfl hkey ?_)
        go_roundw
        case rel =>
          refine ⟨k + 1, by omega, by go_num, ?_, ?_, hnx.alloc hnx.size _, by simp; omega⟩
          · rw [hds.out, addNew_old Hhas.out]
            exact (hown.alloc _).mono (Nat.le_succ _)
          · rw [hds.out, addNew_old Hhas.out]
            exact hrow.alloc _
        case measure => simp [intOf]; omega
    · obtain rfl : k = zs.length := by omega
      rw [List.take_length] at hrow
      go_wp2
      go_ret
      exact ⟨_, rfl, hrow, hnx⟩
theorem ints_any (zs : List Int) (a : Option Addr) (c : Nat) (w : World) (hr0 : Reads .u16 w a zs) (hl : zs.length ≤ 1099511627776) (hz : ∀ n ∈ zs, 0 ≤ n ∧ n ≤ 65535) :
    Calls Try.prog 24 #[.slice a zs.length c] w fun e w' => ∃ v, e = .returned v ∧ w'.ownsRow w.heap.size 3 1 v zs.length (zs.map (Value.int .i64)) ∧ Below w.heap.size w w' := by
  obtain ⟨i0, hi, hz0, hz1, hz2⟩ := info_parts info64
  go_enter Try.func24, Try.ntmps24
  go_wp2
  go_loopw [3, 8] (fun v i wr => ∃ k : Nat, k ≤ zs.length ∧ i = .int .i64 k ∧ wr.ownsRow w.heap.size 3 1 v k ((zs.take k).map (Value.int .i64)) ∧ Below w.heap.size w wr) (fun _ i _ => zs.length - (intOf i).toNat)
  case atStart => exact ⟨0, Nat.zero_le _, rfl, World.ownsRow_nil _ _ _ _, Below.refl _ _⟩
  case round =>
    obtain ⟨k, hk, rfl, hown, hb⟩ := hrel
    by_cases hlt : k < zs.length
    · obtain ⟨b, off, rfl, hcell⟩ := (hr0.later hb).at hlt
      obtain ⟨hx1, hx2⟩ : 0 ≤ zs[k]?.getD 0 ∧ zs[k]?.getD 0 ≤ 65535 := by rw [List.getElem?_eq_getElem hlt]; exact hz _ (List.getElem_mem hlt)
      have hts : Hid (zs.take (k + 1) = zs.take k ++ [zs[k]?.getD 0]) := by
        rw [List.take_succ_eq_append_getElem hlt]; simp [hlt, Hid]
      generalize zs[k]?.getD 0 = x at hcell hts hx1 hx2
      clear hr0
      go_wp2_with (at_builtin; refine append_one (W := w) rfl _ _ 27 rfl w.heap.size 3 i0 (.int .i64 0) 8 Try.underlying27 hi hz0 hz1 hz2 rfl _ _ _ rfl hown (.int .i64 x) rfl rfl ?d1 ?d2 w.heap.size (Nat.le_refl _) hb.size hb ?_)
      case d1 => unfold maxLen; omega
      case d2 => omega
      intro v' w' hown2 hb2
      have H2 : w'.ownsRow w.heap.size 3 1 v' (k + 1) ((zs.take (k + 1)).map (Value.int .i64)) := by rw [hts.out, List.map_append, List.map_take]; exact hown2
      clear hown2 hown hb
      go_wp2
      go_roundw
      case rel => exact ⟨k + 1, by omega, by go_num, H2, hb2⟩
      case measure => simp [intOf]; omega
    · obtain rfl : k = zs.length := by omega
      rw [List.take_length] at hown
      go_wp2
      go_ret
      exact ⟨_, rfl, hown, hb⟩

theorem refLatest_any (f : Int) (zs : List Int) (a : Option Addr) (c : Nat) (w : World) (hr : Reads .i64 w a zs) (hl : zs.length ≤ 1099511627776) (hf : 0 ≤ f ∧ f ≤ 65535) (hz : ∀ n ∈ zs, 0 ≤ n ∧ n ≤ 65535) :
    Calls Try.prog 23 #[.int .i64 f, .slice a zs.length c] w fun e w' => e = .returned (.int .i64 (latest f zs)) ∧ w = w' := by
  go_enter Try.func23, Try.ntmps23
  go_wp2
  go_loop [0, 9] (fun m i => ∃ k : Nat, k ≤ zs.length ∧ i = .int .i64 k ∧ m = .int .i64 (latest f (zs.take k)) ∧ 0 ≤ latest f (zs.take k) ∧ latest f (zs.take k) ≤ 65535) (fun _ i => zs.length - (intOf i).toNat)
  case atStart => exact ⟨0, Nat.zero_le _, rfl, rfl, hf⟩
  case round =>
    obtain ⟨k, hk, rfl, rfl, hm1, hm2⟩ := hrel
    by_cases hlt : k < zs.length
    · have HS := Lib.hid (latest_snoc f zs k hlt)
      obtain ⟨b, off, rfl, hcell⟩ := hr.at hlt
      obtain ⟨hx1, hx2⟩ : 0 ≤ zs[k]?.getD 0 ∧ zs[k]?.getD 0 ≤ 65535 := by rw [List.getElem?_eq_getElem hlt]; exact hz _ (List.getElem_mem hlt)
      generalize zs[k]?.getD 0 = x at hcell HS hx1 hx2
      clear hr hz
      by_cases h0 : 0 < d16 (latest f (zs.take k)) x
      · have h2 : latest f (zs.take (k + 1)) = x := by rw [HS.out, if_pos h0]
        have H2 := Lib.hid h2
        clear h2 HS
        go_wp2_with ((go_at_call 16; refine (refDiff_any _ _ _ (by omega) (by omega) (by omega) (by omega)).mono ?_; rintro e w' ⟨rfl, rfl⟩))
        go_round
        case rel => exact ⟨k + 1, by omega, by go_num, by rw [H2.out], by rw [H2.out]; omega, by rw [H2.out]; omega⟩
        case measure => simp [intOf]; omega
      · have h2 : latest f (zs.take (k + 1)) = latest f (zs.take k) := by rw [HS.out, if_neg h0]
        have H2 := Lib.hid h2
        clear h2 HS
        go_wp2_with ((go_at_call 16; refine (refDiff_any _ _ _ (by omega) (by omega) (by omega) (by omega)).mono ?_; rintro e w' ⟨rfl, rfl⟩))
        go_round
        case rel => exact ⟨k + 1, by omega, by go_num, by rw [H2.out], by rw [H2.out]; omega, by rw [H2.out]; omega⟩
        case measure => simp [intOf]; omega
    · go_wp2
      go_ret
      exact ⟨ret_eq (by rw [List.take_of_length_le (by omega)]), rfl⟩

theorem latest_bd (f : Int) (zs : List Int) (hf : 0 ≤ f ∧ f ≤ 65535) (hz : ∀ n ∈ zs, 0 ≤ n ∧ n ≤ 65535) : 0 ≤ latest f zs ∧ latest f zs ≤ 65535 := by
  unfold latest
  induction zs generalizing f with
  | nil => exact hf
  | cons a r ih =>
    rw [List.foldl_cons]
    refine ih _ ?_ (fun n hn => hz n (List.mem_cons_of_mem _ hn))
    have := hz a (by simp)
    split <;> omega
namespace serialLatest
theorem contains_take_succ (l : List Int) (k : Nat) (h : k < l.length) (hn : l.Nodup) : (l.take k).contains (l[k]?.getD 0) = false := by
  rw [← Bool.not_eq_true, List.contains_iff_mem]
  intro hm
  have e : l = l.take k ++ l[k] :: l.drop (k + 1) := by rw [← List.drop_eq_getElem_cons h, List.take_append_drop]
  have hx : l[k]?.getD 0 = l[k] := by simp [h]
  rw [hx] at hm
  rw [e] at hn
  rw [List.nodup_append] at hn
  exact hn.2.2 _ hm _ List.mem_cons_self rfl
theorem lit_inj {H : Type} {q : IntKind} {a c : Int} (h : (DataW.lit (.int q a) : DataW H) = .lit (.int q c)) : a = c := by
  injection h with h; injection h
theorem distinct_n (zs : List Int) (n : Nat) (a : Option Addr) (c : Nat) (w : World) (hn : n = zs.length) (hr0 : Reads .u16 w a zs) (hl : zs.length ≤ 1099511627776) (hwz : ∀ n ∈ zs, (Lit.int .u16 n).wf = true) :
    Calls Try.prog 21 #[.slice a n c] w fun e w' => ∃ v, e = .returned v ∧ w'.ownsRow (w.heap.size + 1) 22 1 v (dist zs).length ((dist zs).map (Value.int .u16)) ∧ Below w.heap.size w w' := by
  subst hn; exact distinct_any zs a c w hr0 hl hwz
theorem ints_n (zs : List Int) (n : Nat) (a : Option Addr) (c : Nat) (w : World) (hn : n = zs.length) (hr0 : Reads .u16 w a zs) (hl : zs.length ≤ 1099511627776) (hz : ∀ n ∈ zs, 0 ≤ n ∧ n ≤ 65535) :
    Calls Try.prog 24 #[.slice a n c] w fun e w' => ∃ v, e = .returned v ∧ w'.ownsRow w.heap.size 3 1 v zs.length (zs.map (Value.int .i64)) ∧ Below w.heap.size w w' := by
  subst hn; exact ints_any zs a c w hr0 hl hz
theorem latest_n (f : Int) (zs : List Int) (n : Nat) (a : Option Addr) (c : Nat) (w : World) (hn : n = zs.length) (hr : Reads .u16 w a zs) (hl : zs.length ≤ maxLen) :
    Calls Try.prog 22 #[.int .u16 f, .slice a n c] w fun e w' => e = .returned (.int .u16 (latest f zs)) ∧ w = w' := by
  subst hn; exact latest_any f zs a c w hr hl
set_option maxHeartbeats 800000 in
set_option maxRecDepth 100000 in
theorem walk (a0 : Int) (p1 : Option Addr) (len1 cap1 : Nat) (z1 : List Int) (w0 : (Lit.int .u16 a0).wf = true) (w : World) (w1 : IsRow .u16 w p1 len1 cap1 z1) :
    Calls Try.prog 5 #[.int .u16 a0, .slice p1 len1 cap1] w fun e w' => e = .returned (.bool true) ∧ Below w.heap.size w w' := by
  obtain ⟨b1, b2⟩ := u16_bd w0
  obtain ⟨es, rfl, l1, l2, hr0, hwf⟩ := w1.reads
  clear w1
  have hmm := @run_makeMap Try.prog
  go_enter Try.func5, Try.ntmps5
  go_wp2_with fail
  refine (awake_any _).mono ?_
  rintro e w1 ⟨rfl, hb⟩
  have hr1 := hr0.later hb
  clear hr0
  obtain ⟨ts, hts⟩ : ∃ ts, ts = es.take 60 := ⟨_, rfl⟩
  have hr : Reads .u16 w1 p1 ts := by rw [hts]; exact hr1.take 60
  have hwt : ∀ n ∈ ts, (Lit.int .u16 n).wf = true := fun n hn => hwf n (List.mem_of_mem_take (by rw [← hts]; exact hn))
  have hbt : ∀ n ∈ ts, 0 ≤ n ∧ n ≤ 65535 := fun n hn => u16_bd (hwt n hn)
  have hA : ts.length ≤ 60 := by rw [hts]; simp; omega
  have hB : ts.length ≤ es.length := by rw [hts]; simp; omega
  have hC : Hid (60 ≤ ts.length ∨ es.length ≤ ts.length) := by
    show 60 ≤ ts.length ∨ es.length ≤ ts.length
    rw [hts]; simp; omega
  clear hr1 hwf hts
  go_wp2_with fail
  all_goals
    have hC' := hC.out
    first | (have hD : 60 ≤ ts.length := by omega) | (have hD : es.length ≤ ts.length := by omega)
    clear hC'
    clear hC
    refine (distinct_n ts _ p1 cap1 w1 (by omega) hr (by omega) hwt).mono ?_
    rintro e w2 ⟨v, rfl, hown, hb2⟩
    obtain ⟨da, dc, rfl, hdl, hd1, hd2, hrd⟩ := own_reads hown
    have hr2 := hr.later hb2
    have hbb := hb.trans (hb2.mono hb.size)
    clear hown hdl hb2 hr
    go_wp2
    go_loopw [24] (fun i wr => ∃ k : Nat, k ≤ (dist ts).length ∧ i = .int .i64 k ∧ wr.ownsMap Try.prog 22 (plainElem (H := Unit) Try.prog 3) w2.heap.size k (setOf (.lit (.int .i64 1)) (((dist ts).take k).map (Lit.int .u16))) ∧ Below w2.heap.size w2 wr) (fun i _ => (dist ts).length - (intOf i).toNat)
    case atStart => exact ⟨0, Nat.zero_le _, rfl, World.ownsMap_made _ _ _ _, (Below.refl _ _).alloc (Nat.le_refl _) _⟩
    case round =>
      obtain ⟨k, hk, rfl, hown, hnx⟩ := hrel
      by_cases hlt : k < (dist ts).length
      · obtain ⟨bb, off, hda, hcell⟩ := (hrd.later hnx).at hlt
        cases hda
        have hwx : (Lit.int .u16 ((dist ts)[k]?.getD 0)).wf = true := by rw [List.getElem?_eq_getElem hlt]; exact hwt _ ((mem_dist _ _).1 (List.getElem_mem hlt))
        have hnc := Lib.hid (contains_take_succ (dist ts) k hlt (dist_nodup ts))
        have hts : Hid ((dist ts).take (k + 1) = (dist ts).take k ++ [(dist ts)[k]?.getD 0]) := by
          show (dist ts).take (k + 1) = _
          rw [List.take_succ_eq_append_getElem hlt]; simp [hlt]
        generalize (dist ts)[k]?.getD 0 = x at hcell hwx hnc hts
        have hkey : keyOf Try.prog 22 (.int .u16 x) = some (.int .u16 x) := keyOf_int_mk Try.underlying22 hwx
        have hlen := dist_len ts
        go_wp2_with (first | (at_lookup; refine wpList_lookup_own_int _ rfl _ _ 34 rfl 22 3 .i64 law16 Try.underlying34 Try.underlying3 (zeroI _) w2.heap.size k _ rfl hown _ _ rfl hkey ?_; intro c hat hwc; rw [atKey_ints, hnc.out, if_neg (by decide)] at hat; obtain rfl := lit_inj hat) | (at_mapUpdate; refine wpList_mapUpdate_own _ rfl _ _ _ 34 rfl 22 3 law16 Try.underlying34 _ w2.heap.size k _ rfl hown (by unfold maxLen; omega) _ _ _ rfl rfl hkey _ [] (plainElem_int Try.underlying3 (by decide)) ?_; intro w3 hown1 hgrow1))
        go_roundw
        case rel => exact ⟨k + 1, by omega, by go_num, by rw [hts.out, setOf_new]; exact hown1, hnx.grown hgrow1 hnx.size (fun j hj => by cases hj; exact Nat.le_refl _)⟩
        case measure => simp [intOf]; omega
      · obtain rfl : k = (dist ts).length := by omega
        rw [List.take_length] at hown
        have hr3 := hr2.later hnx
        have hrd3 := hrd.later hnx
        have hb3 := hbb.trans (hnx.mono hbb.size)
        clear hr2 hrd hbb hnx
        go_wp2
        go_loop [9, 35] (fun at' i => ∃ k : Nat, k ≤ ts.length ∧ i = .int .i64 k ∧ at' = .int .i64 (dist (ts.take k)).length) (fun _ i => ts.length - (intOf i).toNat)
        case atStart => exact ⟨0, Nat.zero_le _, rfl, rfl⟩
        case round =>
          obtain ⟨k, hk, rfl, rfl⟩ := hrel
          by_cases hlt2 : k < ts.length
          · obtain ⟨bb, off, hp1, hcell⟩ := hr3.at hlt2
            subst hp1
            have hwx := wf_at hwt hlt2
            have hin : Hid ((dist ts).contains (ts[k]?.getD 0) = true) := by
              show (dist ts).contains (ts[k]?.getD 0) = true
              rw [List.contains_iff_mem, mem_dist, List.getElem?_eq_getElem hlt2]; exact List.getElem_mem hlt2
            have hds := Lib.hid (dist_succ ts k hlt2)
            have hnx := dist_next ts k hlt2
            have hsn := dist_seen ts k (ts[k]?.getD 0)
            have hdl := dist_len_take ts k
            have hdt := dist_len ts
            generalize ts[k]?.getD 0 = x at hcell hwx hin hds hnx hsn
            have hkey : keyOf Try.prog 22 (.int .u16 x) = some (.int .u16 x) := keyOf_int_mk Try.underlying22 hwx
            cases hhas : (dist (ts.take k)).contains x
            · obtain ⟨hn1, hn2⟩ := hnx hhas
              obtain ⟨db, doff, hda, hcell2⟩ := hrd3.at hn1
              subst hda
              rw [hn2] at hcell2
              have hds2 : Hid ((dist (ts.take (k + 1))).length = (dist (ts.take k)).length + 1) := by
                show (dist (ts.take (k + 1))).length = _
                rw [hds.out, addNew_new hhas]; simp
              clear hhas hn2 hnx hsn hds
              go_wp2_with (at_lookup; refine wpList_lookup_own_int _ rfl _ _ 34 rfl 22 3 .i64 law16 Try.underlying34 Try.underlying3 (zeroI _) w2.heap.size _ _ rfl hown _ _ rfl hkey ?_; intro c hat hwc; rw [atKey_ints, hin.out, if_pos rfl] at hat; obtain rfl := lit_inj hat)
              go_round
              case rel => exact ⟨k + 1, by omega, by go_num, by rw [hds2.out]; go_num⟩
              case measure => simp [intOf]; omega
            · have hsn' := hsn hhas
              have hds2 : Hid ((dist (ts.take (k + 1))).length = (dist (ts.take k)).length) := by
                show (dist (ts.take (k + 1))).length = _
                rw [hds.out, addNew_old hhas]
              clear hhas hnx hsn hds
              by_cases hn1 : (dist (ts.take k)).length < (dist ts).length
              · obtain ⟨db, doff, hda, hcell2⟩ := hrd3.at hn1
                subst hda
                have hne := hsn' hn1
                clear hsn'
                generalize (dist ts)[(dist (ts.take k)).length]?.getD 0 = y at hcell2 hne
                have hne' : (y == x) = false := by simpa using hne
                clear hne
                go_wp2_with (at_lookup; refine wpList_lookup_own_int _ rfl _ _ 34 rfl 22 3 .i64 law16 Try.underlying34 Try.underlying3 (zeroI _) w2.heap.size _ _ rfl hown _ _ rfl hkey ?_; intro c hat hwc; rw [atKey_ints, hin.out, if_pos rfl] at hat; obtain rfl := lit_inj hat)
                go_round
                case rel => exact ⟨k + 1, by omega, by go_num, by rw [hds2.out]⟩
                case measure => simp [intOf]; omega
              · clear hsn'
                have hn2 : (dist ts).length ≤ (dist (ts.take k)).length := by omega
                clear hn1
                go_wp2_with (at_lookup; refine wpList_lookup_own_int _ rfl _ _ 34 rfl 22 3 .i64 law16 Try.underlying34 Try.underlying3 (zeroI _) w2.heap.size _ _ rfl hown _ _ rfl hkey ?_; intro c hat hwc; rw [atKey_ints, hin.out, if_pos rfl] at hat; obtain rfl := lit_inj hat)
                go_round
                case rel => exact ⟨k + 1, by omega, by go_num, by rw [hds2.out]⟩
                case measure => simp [intOf]; omega
          · obtain rfl : k = ts.length := by omega
            have htk : ts.take ts.length = ts := List.take_length
            rw [htk]
            have hlb := latest_bd a0 ts ⟨b1, b2⟩ hbt
            clear hown hmm htk
            go_wp2_with fail
            refine (latest_n a0 ts _ p1 cap1 _ (by omega) hr3 (by unfold maxLen; omega)).mono ?_
            rintro e w5 ⟨rfl, rfl⟩
            go_wp2_with fail
            refine (ints_n ts _ p1 cap1 _ (by omega) hr3 (by omega) hbt).mono ?_
            rintro e w4 ⟨v4, rfl, hown4, hb4⟩
            obtain ⟨ia, ic, rfl, hil, _, _, hir⟩ := own_reads hown4
            have hb5 := hb3.trans (hb4.mono hb3.size)
            clear hown4 hil hb4 hb3 hr3
            go_wp2_with fail
            refine (refLatest_any a0 ts ia ic _ hir (by omega) ⟨b1, b2⟩ hbt).mono ?_
            rintro e w6 ⟨rfl, rfl⟩
            go_wp2
            go_ret
            exact ⟨rfl, hb5⟩
end serialLatest
end Go.Proofs.Ytliegljkmgchbaa
